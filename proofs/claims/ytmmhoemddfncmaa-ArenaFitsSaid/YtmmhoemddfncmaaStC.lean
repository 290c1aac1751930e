/- Contracts of Go's stable sort's parts: symMerge where one side has one element. -/
import Derived.Test.YtmmhoemddfncmaaStB
namespace Go.Proofs.Ytmmhoemddfncmaa
open Go Go.RowKit
set_option linter.unusedVariables false

theorem bs_yes {p : Nat → Bool} {i j h : Nat} (hij : i < j) (hh : h = (i + j) / 2) (hp : p h = true) : bsS p i j = bsS p (h + 1) j := by
  rw [bsS, if_pos hij, ← hh, if_pos hp]
theorem bs_no {p : Nat → Bool} {i j h : Nat} (hij : i < j) (hh : h = (i + j) / 2) (hp : p h = false) : bsS p i j = bsS p i h := by
  rw [bsS, if_pos hij, ← hh, if_neg (by simp [hp])]
theorem bs_end {p : Nat → Bool} {i j : Nat} (hij : j ≤ i) : bsS p i j = i := by rw [bsS, if_neg (by omega)]

set_option maxRecDepth 100000 in
set_option maxHeartbeats 1000000 in
theorem sym_a (f : Int → Int → Int) (Ok : Int → Prop) (p : Value) (base G c n : Nat) (xs : List Int) (a m b : Nat) (w : World) (A M B : Int) (hA : A = a) (hM : M = m) (hB : B = b) (own : SRow w base G c n xs) (hn : n ≤ 4096) (hc : c ≤ maxLen) (hm : m = a + 1) (hmb : m < b) (hb : b ≤ n)
    (hok : AllOk Ok xs) (hcmp : CmpAt f Ok G p w) :
    Calls Try.prog 39 #[.slice (some ⟨G, 0, none⟩) n c, .int .i64 A, .int .i64 M, .int .i64 B, .func (.func 26) #[] #[p]] w fun e w' =>
      e = .returned (.tuple #[]) ∧ SRow w' base G c n (upS a (bsS (fun h => ltF f (xs.getD h 0) (xs.getD a 0)) m b - 1 - a) xs) ∧ AllOk Ok (upS a (bsS (fun h => ltF f (xs.getD h 0) (xs.getD a 0)) m b - 1 - a) xs) ∧ w.grownBy w' (some G) := by
  subst hA hM hB
  have hlen := own.1
  have OW := Lib.hid own
  have AK := Lib.hid hok
  have CM := Lib.hid hcmp
  have ham : a < m := by omega
  obtain ⟨d1, hd1⟩ : ∃ d1 : Int, (m : Int) - (a : Int) = d1 := ⟨_, rfl⟩
  have tm : (d1 == 1) = true := by simp; omega
  have HM := Lib.hid hm
  obtain ⟨T, hT⟩ : ∃ T, T = bsS (fun h => ltF f (xs.getD h 0) (xs.getD a 0)) m b := ⟨_, rfl⟩
  have hTb := bs_spec (fun h => ltF f (xs.getD h 0) (xs.getD a 0)) m b (by omega)
  rw [← hT] at hTb
  obtain ⟨hT1, hT2, _, _⟩ := hTb
  rw [← hT]
  have HT := Lib.hid hT
  clear own hok hcmp hT hm
  go_enter Try.func39, Try.ntmps39
  go_wp2_with fail
  go_loopw [10, 11] (fun i j wr => ∃ (i0 j0 : Nat), m ≤ i0 ∧ i0 ≤ j0 ∧ j0 ≤ b ∧ i = .int .i64 i0 ∧ j = .int .i64 j0 ∧ InW w base G c n xs wr ∧ bsS (fun h => ltF f (xs.getD h 0) (xs.getD a 0)) i0 j0 = T) (fun i j _ => (intOf j).toNat - (intOf i).toNat)
  case atStart => exact ⟨m, b, Nat.le_refl _, by omega, Nat.le_refl _, rfl, rfl, ⟨OW.out, World.grownBy.refl _ _⟩, HT.out.symm⟩
  case round =>
    obtain ⟨i0, j0, hi, hij, hj, rfl, rfl, iw, hS⟩ := hrel
    have IW := Lib.hid iw
    have HS := Lib.hid hS
    by_cases hlt : i0 < j0
    · have tl : decide ((i0 : Int) < (j0 : Int)) = true := by simp; omega
      obtain ⟨h, hh⟩ : ∃ h, h = (i0 + j0) / 2 := ⟨_, rfl⟩
      have hb1 : i0 ≤ h := by omega
      have hb2 : h < j0 := by omega
      obtain ⟨c1, f1, gs⟩ := iw.1.at (k := h) (by omega)
      obtain ⟨c2, f2, _⟩ := iw.1.at (k := a) (by omega)
      have ox := AK.out.at (k := h) (by omega)
      have oy := AK.out.at (k := a) (by omega)
      obtain ⟨x, hx⟩ : ∃ x, x = xs.getD h 0 := ⟨_, rfl⟩
      obtain ⟨y, hy⟩ : ∃ x, x = xs.getD a 0 := ⟨_, rfl⟩
      rw [← hx] at c1 ox
      rw [← hy] at c2 oy
      have YES := Lib.hid (fun hl : f x y < 0 => bs_yes (p := fun h => ltF f (xs.getD h 0) (xs.getD a 0)) hlt hh (by show ltF f (xs.getD h 0) (xs.getD a 0) = true; rw [← hx, ← hy]; simpa [ltF] using hl))
      have NO := Lib.hid (fun hl : ¬ f x y < 0 => bs_no (p := fun h => ltF f (xs.getD h 0) (xs.getD a 0)) hlt hh (by show ltF f (xs.getD h 0) (xs.getD a 0) = false; rw [← hx, ← hy]; simpa [ltF] using hl))
      have CX := Lib.hid (fun W (hW : InW w base G c n xs W) => CM.out W x y hW.2 ox oy)
      have eh : ((i0 : Int) + (j0 : Int)) / 2 = (h : Int) := by omega
      have h0 : (0 : Int) ≤ (h : Int) := by omega
      have hn1 : (h : Int) < (n : Int) := by omega
      have a0 : (0 : Int) ≤ (a : Int) := by omega
      have an : (a : Int) < (n : Int) := by omega
      have HH := Lib.hid hh
      clear hh hx hy hS
      go_wp2_with fail
      have PS := Lib.hid (show ∀ w', InW w base G c n xs w' → w'.cell? ⟨G, h, none⟩ = some (.int .i64 x) ∧ w'.cell? ⟨G, a, none⟩ = some (.int .i64 y) ∧ InW w base G c n xs w' from fun w' hq9 =>
        ⟨(hq9.1.at (k := h) (by omega)).1.trans ((iw.1.at (k := h) (by omega)).1.symm.trans c1), (hq9.1.at (k := a) (by omega)).1.trans ((iw.1.at (k := a) (by omega)).1.symm.trans c2), hq9⟩)
      go_region_held3 (fun w' => w'.cell? ⟨G, h, none⟩ = some (.int .i64 x) ∧ w'.cell? ⟨G, a, none⟩ = some (.int .i64 y) ∧ InW w base G c n xs w')
        (first | (with_reducible assumption) | (refine PS.out _ ?_; first | (with_reducible exact hI8) | (with_reducible exact hI8.drewN _) | (with_reducible exact hI8.drew) | exact iw | exact iw.drewN _))
        (first
        | (go_at_call 26; (with_reducible refine (CX.out _ (by first | exact iw | exact iw.drewN _ | (obtain ⟨s2, s3, s4⟩ := ‹_ ∧ _ ∧ InW _ _ _ _ _ _ _›; exact s4))).mono ?_); rintro e w8 ⟨rfl, hb8⟩; first
          | (have hI8 := (iw.drewN 1).later hb8)
          | (have hI8 := iw.later hb8)))
      have iw1 : InW w base G c n xs w8 := by assumption
      clear c1 c2 f1 f2 iw CX PS hI8 hb8
      generalize w8 = W1 at *
      have IW1 := Lib.hid iw1
      clear iw1
      by_cases hl : f x y < 0
      · have E := Lib.hid (YES.out hl)
        go_wp2_with fail
        refine ⟨⟨h + 1, j0, by omega, by omega, hj, by simp, rfl, IW1.out, by rw [← E.out]; exact HS.out⟩, by simp [intOf]; omega⟩
      · have E := Lib.hid (NO.out (by omega))
        have tl : decide (f x y < 0) = false := by simpa using hl
        have hge : 0 ≤ f x y := by omega
        go_wp2_with fail
        refine ⟨⟨i0, h, by omega, by omega, by omega, rfl, rfl, IW1.out, by rw [← E.out]; exact HS.out⟩, by simp [intOf]; omega⟩
    · have tl : decide ((i0 : Int) < (j0 : Int)) = false := by simp; omega
      have e := HS.out
      rw [bs_end (by omega)] at e
      subst e
      clear hS iw
      go_wp2_with fail
      go_loopw [13] (fun i wr => ∃ (k : Nat) (ys : List Int), a ≤ k ∧ k + 1 ≤ i0 ∧ i = .int .i64 k ∧ InW w base G c n ys wr ∧ AllOk Ok ys ∧ upS k (i0 - 1 - k) ys = upS a (i0 - 1 - a) xs) (fun i _ => i0 - (intOf i).toNat)
      case atStart => exact ⟨a, xs, Nat.le_refl _, by have := HM.out; omega, rfl, IW.out, AK.out, rfl⟩
      case round =>
        obtain ⟨k, ys, hk1, hk2, rfl, iw, ok, hU⟩ := hrel
        have IY := Lib.hid iw
        have UU := Lib.hid hU
        have OKY := Lib.hid ok
        by_cases hlt : k < i0 - 1
        · have tl2 : decide ((k : Int) < (i0 : Int) - 1) = true := by simp; omega
          obtain ⟨c1, f1, gs⟩ := iw.1.at (k := k) (by omega)
          obtain ⟨c2, f2, _⟩ := iw.1.at (k := k + 1) (by omega)
          obtain ⟨x, hx⟩ : ∃ x, x = ys.getD k 0 := ⟨_, rfl⟩
          obtain ⟨y, hy⟩ : ∃ x, x = ys.getD (k + 1) 0 := ⟨_, rfl⟩
          have KEY := Lib.hid (iw.1.sw k (k + 1))
          have AS := Lib.hid (ok.sw (i := k) (j := k + 1) (by rw [iw.1.1]; omega) (by rw [iw.1.1]; omega))
          rw [← hx] at c1 KEY
          rw [← hy] at c2 KEY
          clear hx hy ok hU iw
          go_wp2_with fail
          go_region
          generalize hW : (wr.setCell ⟨G, k, none⟩ (Value.int IntKind.i64 y)).setCell ⟨G, k + 1, none⟩ (Value.int IntKind.i64 x) = W
          rw [hW] at KEY
          clear hW
          have IWW := Lib.hid (InW.drew ⟨KEY.out.1, IY.out.2.trans KEY.out.2⟩)
          go_wp2_with fail
          refine ⟨⟨k + 1, Go.Proofs.Ytmmhoemddfncmaa.sw k (k + 1) ys, by omega, by omega, by simp, IWW.out, AS.out, ?_⟩, by simp [intOf]; omega⟩
          rw [← UU.out, show i0 - 1 - k = (i0 - 1 - (k + 1)) + 1 by omega]
          rfl
        · have tl2 : decide ((k : Int) < (i0 : Int) - 1) = false := by simp; omega
          have e := UU.out
          rw [show i0 - 1 - k = 0 by omega] at e
          have e : ys = upS a (i0 - 1 - a) xs := e
          subst e
          clear hU
          go_wp2_with fail
          exact ⟨rfl, .tuple #[], results_none rfl _ _ _, rfl, IY.out.1, OKY.out, IY.out.2⟩
set_option maxRecDepth 100000 in
set_option maxHeartbeats 1000000 in
theorem sym_b (f : Int → Int → Int) (Ok : Int → Prop) (p : Value) (base G c n : Nat) (xs : List Int) (a m b : Nat) (w : World) (A M B : Int) (hA : A = a) (hM : M = m) (hB : B = b) (own : SRow w base G c n xs) (hn : n ≤ 4096) (hc : c ≤ maxLen) (ham : a < m) (hma : m ≠ a + 1) (hm : b = m + 1) (hb : b ≤ n)
    (hok : AllOk Ok xs) (hcmp : CmpAt f Ok G p w) :
    Calls Try.prog 39 #[.slice (some ⟨G, 0, none⟩) n c, .int .i64 A, .int .i64 M, .int .i64 B, .func (.func 26) #[] #[p]] w fun e w' =>
      e = .returned (.tuple #[]) ∧ SRow w' base G c n (dnS m (m - bsS (fun h => !ltF f (xs.getD m 0) (xs.getD h 0)) a m) xs) ∧ AllOk Ok (dnS m (m - bsS (fun h => !ltF f (xs.getD m 0) (xs.getD h 0)) a m) xs) ∧ w.grownBy w' (some G) := by
  subst hA hM hB
  have hlen := own.1
  have OW := Lib.hid own
  have AK := Lib.hid hok
  have CM := Lib.hid hcmp
  have hmb : m < b := by omega
  obtain ⟨d1, hd1⟩ : ∃ d1 : Int, (m : Int) - (a : Int) = d1 := ⟨_, rfl⟩
  have tm : (d1 == 1) = false := by simp; omega
  obtain ⟨d2, hd2⟩ : ∃ d1 : Int, (b : Int) - (m : Int) = d1 := ⟨_, rfl⟩
  have tm2 : (d2 == 1) = true := by simp; omega
  have HM := Lib.hid hm
  obtain ⟨T, hT⟩ : ∃ T, T = bsS (fun h => !ltF f (xs.getD m 0) (xs.getD h 0)) a m := ⟨_, rfl⟩
  have hTb := bs_spec (fun h => !ltF f (xs.getD m 0) (xs.getD h 0)) a m (by omega)
  rw [← hT] at hTb
  obtain ⟨hT1, hT2, _, _⟩ := hTb
  rw [← hT]
  have HT := Lib.hid hT
  clear own hok hcmp hT hm hma
  go_enter Try.func39, Try.ntmps39
  go_wp2_with fail
  go_loopw [14, 15] (fun i j wr => ∃ (i0 j0 : Nat), a ≤ i0 ∧ i0 ≤ j0 ∧ j0 ≤ m ∧ i = .int .i64 i0 ∧ j = .int .i64 j0 ∧ InW w base G c n xs wr ∧ bsS (fun h => !ltF f (xs.getD m 0) (xs.getD h 0)) i0 j0 = T) (fun i j _ => (intOf j).toNat - (intOf i).toNat)
  case atStart => exact ⟨a, m, Nat.le_refl _, by omega, Nat.le_refl _, rfl, rfl, ⟨OW.out, World.grownBy.refl _ _⟩, HT.out.symm⟩
  case round =>
    obtain ⟨i0, j0, hi, hij, hj, rfl, rfl, iw, hS⟩ := hrel
    have IW := Lib.hid iw
    have HS := Lib.hid hS
    by_cases hlt : i0 < j0
    · have tl : decide ((i0 : Int) < (j0 : Int)) = true := by simp; omega
      obtain ⟨h, hh⟩ : ∃ h, h = (i0 + j0) / 2 := ⟨_, rfl⟩
      have hb1 : i0 ≤ h := by omega
      have hb2 : h < j0 := by omega
      obtain ⟨c1, f1, gs⟩ := iw.1.at (k := m) (by omega)
      obtain ⟨c2, f2, _⟩ := iw.1.at (k := h) (by omega)
      have ox := AK.out.at (k := m) (by omega)
      have oy := AK.out.at (k := h) (by omega)
      obtain ⟨x, hx⟩ : ∃ x, x = xs.getD m 0 := ⟨_, rfl⟩
      obtain ⟨y, hy⟩ : ∃ x, x = xs.getD h 0 := ⟨_, rfl⟩
      rw [← hx] at c1 ox
      rw [← hy] at c2 oy
      have YES := Lib.hid (fun hl : ¬ f x y < 0 => bs_yes (p := fun h => !ltF f (xs.getD m 0) (xs.getD h 0)) hlt hh (by show (!ltF f (xs.getD m 0) (xs.getD h 0)) = true; rw [← hx, ← hy]; simpa [ltF] using hl))
      have NO := Lib.hid (fun hl : f x y < 0 => bs_no (p := fun h => !ltF f (xs.getD m 0) (xs.getD h 0)) hlt hh (by show (!ltF f (xs.getD m 0) (xs.getD h 0)) = false; rw [← hx, ← hy]; simpa [ltF] using hl))
      have CX := Lib.hid (fun W (hW : InW w base G c n xs W) => CM.out W x y hW.2 ox oy)
      have eh : ((i0 : Int) + (j0 : Int)) / 2 = (h : Int) := by omega
      have h0 : (0 : Int) ≤ (h : Int) := by omega
      have hn1 : (h : Int) < (n : Int) := by omega
      have m0 : (0 : Int) ≤ (m : Int) := by omega
      have mn : (m : Int) < (n : Int) := by omega
      have HH := Lib.hid hh
      clear hh hx hy hS
      go_wp2_with fail
      have PS := Lib.hid (show ∀ w', InW w base G c n xs w' → w'.cell? ⟨G, m, none⟩ = some (.int .i64 x) ∧ w'.cell? ⟨G, h, none⟩ = some (.int .i64 y) ∧ InW w base G c n xs w' from fun w' hq9 =>
        ⟨(hq9.1.at (k := m) (by omega)).1.trans ((iw.1.at (k := m) (by omega)).1.symm.trans c1), (hq9.1.at (k := h) (by omega)).1.trans ((iw.1.at (k := h) (by omega)).1.symm.trans c2), hq9⟩)
      go_region_held3 (fun w' => w'.cell? ⟨G, m, none⟩ = some (.int .i64 x) ∧ w'.cell? ⟨G, h, none⟩ = some (.int .i64 y) ∧ InW w base G c n xs w')
        (first | (with_reducible assumption) | (refine PS.out _ ?_; first | (with_reducible exact hI8) | (with_reducible exact hI8.drewN _) | (with_reducible exact hI8.drew) | exact iw | exact iw.drewN _))
        (first
        | (go_at_call 26; (with_reducible refine (CX.out _ (by first | exact iw | exact iw.drewN _ | (obtain ⟨s2, s3, s4⟩ := ‹_ ∧ _ ∧ InW _ _ _ _ _ _ _›; exact s4))).mono ?_); rintro e w8 ⟨rfl, hb8⟩; first
          | (have hI8 := (iw.drewN 1).later hb8)
          | (have hI8 := iw.later hb8)))
      have iw1 : InW w base G c n xs w8 := by assumption
      clear c1 c2 f1 f2 iw CX PS hI8 hb8
      generalize w8 = W1 at *
      have IW1 := Lib.hid iw1
      clear iw1
      by_cases hl : f x y < 0
      · have E := Lib.hid (NO.out hl)
        have tl : decide (f x y < 0) = true := by simpa using hl
        simp only [tl, Bool.not_true]
        go_wp2_with fail
        refine ⟨⟨i0, h, by omega, by omega, by omega, rfl, rfl, IW1.out, by rw [← E.out]; exact HS.out⟩, by simp [intOf]; omega⟩
      · have E := Lib.hid (YES.out (by omega))
        have tl : decide (f x y < 0) = false := by simpa using hl
        simp only [tl, Bool.not_false]
        go_wp2_with fail
        refine ⟨⟨h + 1, j0, by omega, by omega, hj, by simp, rfl, IW1.out, by rw [← E.out]; exact HS.out⟩, by simp [intOf]; omega⟩
    · have tl : decide ((i0 : Int) < (j0 : Int)) = false := by simp; omega
      have e := HS.out
      rw [bs_end (by omega)] at e
      subst e
      clear hS iw
      go_wp2_with fail
      go_loopw [17] (fun i wr => ∃ (k : Nat) (ys : List Int), k ≤ m ∧ i0 ≤ k ∧ i = .int .i64 k ∧ InW w base G c n ys wr ∧ AllOk Ok ys ∧ dnS k (k - i0) ys = dnS m (m - i0) xs) (fun i _ => (intOf i).toNat)
      case atStart => exact ⟨m, xs, Nat.le_refl _, by omega, rfl, IW.out, AK.out, rfl⟩
      case round =>
        obtain ⟨k1, ys, hk1, hk2, rfl, iw, ok, hU⟩ := hrel
        have IY := Lib.hid iw
        have UU := Lib.hid hU
        have OKY := Lib.hid ok
        by_cases hlt : i0 < k1
        · have tl2 : decide ((i0 : Int) < (k1 : Int)) = true := by simp; omega
          obtain ⟨k, hk⟩ : ∃ k, k1 = k + 1 := ⟨k1 - 1, by omega⟩
          obtain ⟨c1, f1, gs⟩ := iw.1.at (k := k1) (by omega)
          obtain ⟨c2, f2, _⟩ := iw.1.at (k := k) (by omega)
          obtain ⟨x, hx⟩ : ∃ x, x = ys.getD k1 0 := ⟨_, rfl⟩
          obtain ⟨y, hy⟩ : ∃ x, x = ys.getD k 0 := ⟨_, rfl⟩
          have KEY := Lib.hid (iw.1.sw k1 k)
          have AS := Lib.hid (ok.sw (i := k1) (j := k) (by rw [iw.1.1]; omega) (by rw [iw.1.1]; omega))
          rw [← hx] at c1 KEY
          rw [← hy] at c2 KEY
          have HK := Lib.hid hk
          have j0' : (0 : Int) ≤ (k1 : Int) := by omega
          have jn : (k1 : Int) < (n : Int) := by omega
          have k0 : (0 : Int) ≤ (k : Int) := by omega
          have kn : (k : Int) < (n : Int) := by omega
          have ej : IntKind.i64.wrap ((k1 : Int) - 1) = (k : Int) := by rw [IntWalk.i64_in _ (by omega)]; omega
          have n1 : ¬ k1 = k := by omega
          have n2 : ¬ k = k1 := by omega
          clear hx hy ok hU iw hk
          go_wp2_with fail
          go_region
          generalize hW : (wr.setCell ⟨G, k1, none⟩ (Value.int IntKind.i64 y)).setCell ⟨G, k, none⟩ (Value.int IntKind.i64 x) = W
          rw [hW] at KEY
          clear hW
          have IWW := Lib.hid (InW.drew ⟨KEY.out.1, IY.out.2.trans KEY.out.2⟩)
          go_wp2_with fail
          refine ⟨⟨k, Go.Proofs.Ytmmhoemddfncmaa.sw k1 k ys, by have := HK.out; omega, by have := HK.out; omega, rfl, IWW.out, AS.out, ?_⟩, by have := HK.out; simp [intOf]; omega⟩
          rw [← UU.out, show k1 - i0 = (k - i0) + 1 by have := HK.out; omega]
          have := HK.out
          subst this
          rfl
        · have tl2 : decide ((i0 : Int) < (k1 : Int)) = false := by simp; omega
          have e := UU.out
          rw [show k1 - i0 = 0 by omega] at e
          have e : ys = dnS m (m - i0) xs := e
          subst e
          clear hU
          go_wp2_with fail
          exact ⟨rfl, .tuple #[], results_none rfl _ _ _, rfl, IY.out.1, OKY.out, IY.out.2⟩
end Go.Proofs.Ytmmhoemddfncmaa
