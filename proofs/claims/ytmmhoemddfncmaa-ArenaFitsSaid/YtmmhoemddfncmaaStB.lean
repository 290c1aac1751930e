/- Contracts of Go's stable sort's parts: insertion in a block. -/
import Derived.Test.YtmmhoemddfncmaaStA
import Derived.Deep.RegionHeld3
namespace Go.Proofs.Ytmmhoemddfncmaa
open Go Go.RowKit
set_option linter.unusedVariables false

/-- what is asked of the comparison: whatever becomes of the row, it tells f x y, and does nothing but draw -/
def CmpAt (f : Int → Int → Int) (Ok : Int → Prop) (G : Nat) (p : Value) (w : World) : Prop := ∀ (W : World) (x y : Int), w.grownBy W (some G) → Ok x → Ok y →
  Calls Try.prog 26 #[.int .i64 x, .int .i64 y, p] W fun e w' => e = .returned (.int .i64 (f x y)) ∧ Below W.heap.size W w'
theorem CmpAt.later {f : Int → Int → Int} {Ok : Int → Prop} {G : Nat} {p : Value} {w w1 : World} (h : CmpAt f Ok G p w) (hg : w.grownBy w1 (some G)) : CmpAt f Ok G p w1 :=
  fun W x y hW hx hy => h W x y (hg.trans hW) hx hy
def ltF (f : Int → Int → Int) (x y : Int) : Bool := decide (f x y < 0)
/-- the row within a walk that began at w -/
def InW (w : World) (base G c n : Nat) (ys : List Int) (w' : World) : Prop := SRow w' base G c n ys ∧ w.grownBy w' (some G)
theorem InW.drew {w : World} {base G c n : Nat} {ys : List Int} {w' : World} (h : InW w base G c n ys w') : InW w base G c n ys w'.drew := ⟨h.1, grown_drew h.2 1⟩
theorem InW.drewN {w : World} {base G c n : Nat} {ys : List Int} {w' : World} (h : InW w base G c n ys w') (q : Nat) : InW w base G c n ys (w'.drewN q) := ⟨h.1, grown_drew h.2 q⟩
theorem srow_later {w w' : World} {base G c n : Nat} {xs : List Int} (h : SRow w base G c n xs) (hb : Below w.heap.size w w') : SRow w' base G c n xs := by
  refine ⟨h.1, ?_⟩
  obtain ⟨h1, ⟨hv, hn⟩ | ⟨g, cap, cur, hv, hg, hh, rest⟩⟩ := h.2
  · exact ⟨h1, .inl ⟨hv, hn⟩⟩
  · have hlt : g < w.heap.size := by
      rcases Nat.lt_or_ge g w.heap.size with h' | h'
      · exact h'
      · rw [Array.getElem?_eq_none h'] at hh; cases hh
    exact ⟨h1, .inr ⟨g, cap, cur, hv, hg, (hb.block g hlt).trans hh, rest⟩⟩
theorem grown_below {w w1 w2 : World} {g : Option Nat} (h : w.grownBy w1 g) (hb : Below w1.heap.size w1 w2) : w.grownBy w2 g :=
  h.trans ⟨hb.os, hb.tape, hb.output, hb.size, fun j hj _ => hb.block j hj⟩
theorem InW.later {w : World} {base G c n : Nat} {ys : List Int} {w' w2 : World} (h : InW w base G c n ys w') (hb : Below w'.heap.size w' w2) : InW w base G c n ys w2 := ⟨srow_later h.1 hb, grown_below h.2 hb⟩
def AllOk (Ok : Int → Prop) (xs : List Int) : Prop := ∀ x ∈ xs, Ok x
theorem AllOk.at {Ok : Int → Prop} {xs : List Int} (h : AllOk Ok xs) {k : Nat} (hk : k < xs.length) : Ok (xs.getD k 0) := h _ (mem_getD hk)
theorem AllOk.sw {Ok : Int → Prop} {xs : List Int} (h : AllOk Ok xs) {i j : Nat} (hi : i < xs.length) (hj : j < xs.length) : AllOk Ok (sw i j xs) := by
  intro x hx
  unfold Go.Proofs.Ytmmhoemddfncmaa.sw at hx
  rcases List.mem_or_eq_of_mem_set hx with hx | rfl
  · rcases List.mem_or_eq_of_mem_set hx with hx | rfl
    · exact h x hx
    · exact h.at hj
  · exact h.at hi

theorem insI_succ (lt : Int → Int → Bool) (a j : Nat) (xs : List Int) : insI lt a (j + 1) xs = if a < j + 1 ∧ lt (xs.getD (j + 1) 0) (xs.getD j 0) = true then insI lt a j (sw (j + 1) j xs) else xs := rfl

set_option maxRecDepth 100000 in
set_option maxHeartbeats 1000000 in
theorem ins_any (f : Int → Int → Int) (Ok : Int → Prop) (p : Value) (base G c n : Nat) (xs : List Int) (a b : Nat) (w : World) (A B : Int) (hA : A = a) (hB : B = b) (own : SRow w base G c n xs) (hn : n ≤ 4096) (hc : c ≤ maxLen) (hab : a ≤ b) (hb : b ≤ n)
    (hok : AllOk Ok xs) (hcmp : CmpAt f Ok G p w) :
    Calls Try.prog 38 #[.slice (some ⟨G, 0, none⟩) n c, .int .i64 A, .int .i64 B, .func (.func 26) #[] #[p]] w fun e w' => e = .returned (.tuple #[]) ∧ SRow w' base G c n (insS (ltF f) a b xs) ∧ AllOk Ok (insS (ltF f) a b xs) ∧ w.grownBy w' (some G) := by
  subst hA hB
  have OW := Lib.hid own
  have AK := Lib.hid hok
  have CM := Lib.hid hcmp
  clear own hok hcmp
  go_enter Try.func38, Try.ntmps38
  go_wp2_with fail
  go_loopw [8] (fun i wr => ∃ (m : Nat) (ys : List Int), a + 1 ≤ m ∧ i = .int .i64 m ∧ InW w base G c n ys wr ∧ AllOk Ok ys ∧ insO (ltF f) a m (b - m) ys = insS (ltF f) a b xs) (fun i _ => b - (intOf i).toNat)
  case atStart => exact ⟨a + 1, xs, Nat.le_refl _, by congr 1, ⟨OW.out, World.grownBy.refl _ _⟩, AK.out, rfl⟩
  case round =>
    obtain ⟨m, ys, hm, rfl, iw, ok, hT⟩ := hrel
    have IW := Lib.hid iw
    have OK := Lib.hid ok
    have TT := Lib.hid hT
    clear iw ok hT
    by_cases hlt : m < b
    · go_wp2_with fail
      obtain ⟨wo, rfl⟩ : ∃ wo : World, wo = wr := ⟨_, rfl⟩
      go_loopw [9] (fun i wr => ∃ (j : Nat) (zs : List Int), j ≤ m ∧ i = .int .i64 j ∧ InW w base G c n zs wr ∧ AllOk Ok zs ∧ insI (ltF f) a j zs = insI (ltF f) a m ys) (fun i _ => (intOf i).toNat)
      case atStart => exact ⟨m, ys, Nat.le_refl _, rfl, IW.out, OK.out, rfl⟩
      case round =>
        obtain ⟨j, zs, hj, rfl, iw, ok, hT⟩ := hrel
        have IZ := Lib.hid iw
        have OZ := Lib.hid ok
        have TZ := Lib.hid hT
        by_cases hja : a < j
        · obtain ⟨k, hk⟩ : ∃ k, j = k + 1 := ⟨j - 1, by omega⟩
          obtain ⟨c1, f1, gs⟩ := iw.1.at (k := j) (by omega)
          obtain ⟨c2, f2, _⟩ := iw.1.at (k := k) (by omega)
          have ox := ok.at (k := j) (by rw [iw.1.1]; omega)
          have oy := ok.at (k := k) (by rw [iw.1.1]; omega)
          obtain ⟨x, hx⟩ : ∃ x, x = zs.getD j 0 := ⟨_, rfl⟩
          obtain ⟨y, hy⟩ : ∃ x, x = zs.getD k 0 := ⟨_, rfl⟩
          rw [← hx] at c1 ox
          rw [← hy] at c2 oy
          have HX := Lib.hid hx
          have HY := Lib.hid hy
          have CX := Lib.hid (fun W (hW : InW w base G c n zs W) => CM.out W x y hW.2 ox oy)
          have HK := Lib.hid hk
          have tj : decide ((a : Int) < (j : Int)) = true := by simp; omega
          have j0 : (0 : Int) ≤ (j : Int) := by omega
          have jn : (j : Int) < (n : Int) := by omega
          have k0 : (0 : Int) ≤ (k : Int) := by omega
          have kn : (k : Int) < (n : Int) := by omega
          have ej : IntKind.i64.wrap ((j : Int) - 1) = (k : Int) := by rw [IntWalk.i64_in _ (by omega)]; omega
          clear ok hT hx hy hk
          go_wp2_with fail
          have PS := Lib.hid (show ∀ w', InW w base G c n zs w' → w'.cell? ⟨G, j, none⟩ = some (.int .i64 x) ∧ w'.cell? ⟨G, k, none⟩ = some (.int .i64 y) ∧ InW w base G c n zs w' from fun w' hq9 =>
            ⟨(hq9.1.at (k := j) (by omega)).1.trans ((iw.1.at (k := j) (by omega)).1.symm.trans c1), (hq9.1.at (k := k) (by omega)).1.trans ((iw.1.at (k := k) (by omega)).1.symm.trans c2), hq9⟩)
          go_region_held3 (fun w' => w'.cell? ⟨G, j, none⟩ = some (.int .i64 x) ∧ w'.cell? ⟨G, k, none⟩ = some (.int .i64 y) ∧ InW w base G c n zs w')
            (first | (with_reducible assumption) | (refine PS.out _ ?_; first | (with_reducible exact hI8) | (with_reducible exact hI8.drewN _) | (with_reducible exact hI8.drew) | exact iw | exact iw.drewN _))
            (first
            | (go_at_call 26; (with_reducible refine (CX.out _ (by first | exact iw | exact iw.drewN _ | (obtain ⟨s2, s3, s4⟩ := ‹_ ∧ _ ∧ InW _ _ _ _ _ _ _›; exact s4))).mono ?_); rintro e w8 ⟨rfl, hb8⟩; first
              | (have hI8 := (iw.drewN 1).later hb8)
              | (have hI8 := iw.later hb8)))
          have iw1 : InW w base G c n zs w8 := by assumption
          clear c1 c2 f1 f2 iw CX PS hI8 hb8
          generalize w8 = W1 at *
          have IW1 := Lib.hid iw1
          obtain ⟨c1, f1, gs⟩ := iw1.1.at (k := j) (by omega)
          obtain ⟨c2, f2, _⟩ := iw1.1.at (k := k) (by omega)
          have KEY := Lib.hid (iw1.1.sw j k)
          rw [← HX.out] at c1 KEY
          rw [← HY.out] at c2 KEY
          have n1 : ¬ j = k := by have := HK.out; omega
          have n2 : ¬ k = j := by have := HK.out; omega
          have eI := insI_succ (ltF f) a k zs
          rw [← HK.out, ← HX.out, ← HY.out] at eI
          clear iw1
          by_cases hl : f x y < 0
          · rw [if_pos ⟨hja, by simpa [ltF] using hl⟩, TZ.out] at eI
            have EI := Lib.hid eI
            have AS := Lib.hid (OZ.out.sw (i := j) (j := k) (by rw [IW1.out.1.1]; omega) (by rw [IW1.out.1.1]; omega))
            clear eI
            go_wp2_with fail
            go_region
            generalize hW : (W1.setCell ⟨G, j, none⟩ (Value.int IntKind.i64 y)).setCell ⟨G, k, none⟩ (Value.int IntKind.i64 x) = W
            rw [hW] at KEY
            clear hW
            have IWW := Lib.hid (InW.drew ⟨KEY.out.1, IW1.out.2.trans KEY.out.2⟩)
            go_wp2_with fail
            refine ⟨⟨k, Go.Proofs.Ytmmhoemddfncmaa.sw j k zs, by have := HK.out; omega, rfl, IWW.out, AS.out, EI.out.symm⟩, by have := HK.out; simp [intOf]; omega⟩
          · rw [if_neg (by simp [ltF, hl]), TZ.out] at eI
            have tl : decide (f x y < 0) = false := by simpa using hl
            subst eI
            clear TZ
            go_wp2_with fail
            refine ⟨⟨m + 1, insI (ltF f) a m ys, by omega, by simp, IW1.out, OZ.out, ?_⟩, by simp [intOf]; omega⟩
            rw [← TT.out, show b - m = (b - (m + 1)) + 1 by omega]
            rfl
        · have ej : insI (ltF f) a j zs = zs := by
            cases j with
            | zero => rfl
            | succ k => rw [insI, if_neg (by omega)]
          rw [ej] at hT
          subst hT
          have tj : decide ((a : Int) < (j : Int)) = false := by simp; omega
          clear ej TZ
          go_wp2_with fail
          go_region
          go_wp2_with fail
          refine ⟨⟨m + 1, insI (ltF f) a m ys, by omega, by simp, IZ.out.drew, OZ.out, ?_⟩, by simp [intOf]; omega⟩
          rw [← TT.out, show b - m = (b - (m + 1)) + 1 by omega]
          rfl
    · have e0 : b - m = 0 := by omega
      have e := TT.out
      rw [e0] at e
      have e : ys = insS (ltF f) a b xs := e
      subst e
      have tj : decide ((m : Int) < (b : Int)) = false := by simp; omega
      go_wp2_with fail
      exact Go.Great.bodyPost_end0 (by rfl) (by rfl) ⟨rfl, IW.out.1, OK.out, IW.out.2⟩
end Go.Proofs.Ytmmhoemddfncmaa
