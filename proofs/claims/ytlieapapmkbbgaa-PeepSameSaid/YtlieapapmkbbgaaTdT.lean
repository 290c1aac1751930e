/- Contract of peep.Tidy. -/
import Derived.Test.YtlieapapmkbbgaaTdK
import Derived.Test.YtlieapapmkbbgaaAwP
import Derived.Test.YtlieapapmkbbgaaGH
namespace Go.Proofs.Ytlieapapmkbbgaa
open Go Go.RowKit
set_option linter.unusedVariables false

theorem own_iT {w : World} {base : Nat} {v : Value} {l : List Int} (h : OwnI w base v l) : ∃ a c, v = .slice a l.length c ∧ (l = [] ∨ ∃ g, a = some ⟨g, 0, none⟩ ∧ base ≤ g ∧ g < w.heap.size ∧ ∀ k x, l[k]? = some x → w.cell? ⟨g, k, none⟩ = some (.int .i64 x)) := by
  have hlt := h.lt
  have h' := h
  obtain ⟨_, ⟨hv, hn⟩ | ⟨g, cap, cur, hv, hg, hh, hc, hcm, _⟩⟩ := h
  · exact ⟨none, 0, by rw [hv, hn], Or.inl (List.eq_nil_of_length_eq_zero hn)⟩
  · refine ⟨some ⟨g, 0, none⟩, cap, hv, Or.inr ⟨g, rfl, hg, (hlt g (by rw [hv]; rfl)).2, fun k x hx => ?_⟩⟩
    have := h'.cells (g := g) (by rw [hv]; rfl) k (iv x) (by rw [List.getElem?_map, hx]; rfl)
    rw [add_at, Nat.zero_add] at this
    exact this
theorem own_lowT {w : World} {b b' : Nat} {e : TypeId} {s : Nat} {v : Value} {n : Nat} {xs : List Value} (h : w.ownsRow b e s v n xs) (hb : b' ≤ b) : w.ownsRow b' e s v n xs := by
  obtain ⟨h1, h | ⟨g, cap, cur, hv, hg, rest⟩⟩ := h
  · exact ⟨h1, .inl h⟩
  · exact ⟨h1, .inr ⟨g, cap, cur, hv, Nat.le_trans hb hg, rest⟩⟩
theorem putR_len : ∀ (r : List Q5) (x : Q5), (putR r x).length ≤ r.length + 1
  | [], x => by unfold putR; split <;> simp
  | y :: r, x => by
    unfold putR
    split
    · rename_i z _
      have := putR_len r z
      simp only [List.length_cons]; omega
    · split <;> simp
def TidyPost (w : World) (n : Nat) (t : List Q5) (e : Ending) (w' : World) : Prop := ∃ a c, e = .returned (.tuple #[.slice a t.length c, .int .i64 ((n : Int) - (t.length : Int)), .int .i64 0]) ∧ w'.ownsRow w.heap.size 46 5 (.slice a t.length c) t.length (flat t) ∧ Below w.heap.size w w'

set_option maxRecDepth 100000 in
set_option maxHeartbeats 1000000 in
theorem tidy_bad (a : Option Addr) (c : Nat) (l : List Q5) (w : World) (hl : L5 w a l) (hc : checkS l ≠ 0) :
    Calls Try.prog 6 #[.slice a l.length c] w (fun e w' => e = .returned (.tuple #[.slice none 0 0, .int .i64 0, .int .i64 (checkS l)]) ∧ Below w.heap.size w w') := by
  have HL := Lib.hid hl
  obtain ⟨q, hq⟩ : ∃ q, q = checkS l := ⟨_, rfl⟩
  rw [← hq] at hc ⊢
  have tc : (q != 0) = true := by simpa using hc
  have HQ := Lib.hid hq
  clear hl hq
  go_enter Try.func6, Try.ntmps6
  go_wp2_with fail
  refine (check_any a c l w HL.out).mono ?_
  rintro e w1 ⟨rfl, b1⟩
  have HB1 := Lib.hid b1
  clear b1
  rw [← HQ.out]
  go_wp2_with fail
  go_ret3
  exact ⟨rfl, HB1.out⟩

set_option maxRecDepth 100000 in
set_option maxHeartbeats 4000000 in
theorem tidy_any (a : Option Addr) (c : Nat) (l : List Q5) (P : List Int) (w : World) (hl : L5 w a l) (hc : checkS l = 0) (hP : endsS l = some P) :
    Calls Try.prog 6 #[.slice a l.length c] w (TidyPost w l.length (tidyS l P)) := by
  have HL := Lib.hid hl
  obtain ⟨hlen, _, _, _⟩ := check_good hc
  have EP := Lib.hid hP
  have PL := Lib.hid (ends_back hP).1
  obtain ⟨t, ht⟩ : ∃ t, t = tidyS l P := ⟨_, rfl⟩
  rw [← ht]
  have HT := Lib.hid ht
  clear ht
  clear hl
  go_enter Try.func6, Try.ntmps6
  go_wp2_with fail
  refine (check_any a c l w HL.out).mono ?_
  rintro e w1 ⟨rfl, b1⟩
  rw [hc]
  clear hc
  have HB1 := Lib.hid b1
  have L1 := Lib.hid (HL.out.later b1)
  have hs1 := b1.size
  clear b1
  go_wp2_with fail
  refine (ends_any a c l w1 L1.out).mono ?_
  unfold EndsPost
  rw [hP]
  rintro e w2 ⟨⟨v, rfl, hown⟩, b2⟩
  obtain ⟨a2, c2, rfl, hI2⟩ := own_iT hown
  have I2 := Lib.hid hI2
  have HB2 := Lib.hid (HB1.out.trans (b2.mono HB1.out.size))
  have L2 := Lib.hid (L1.out.later b2)
  have hs2 := b2.size
  clear b2 hown hI2 hP
  have ST0 : TdSt w2.heap.size w2.heap.size (w2.alloc (.cells #[.slice none 0 0] 44)) [] := ⟨none, 0, by simp, by simp, ⟨rfl, .inl ⟨rfl, rfl⟩⟩, by simp [Value.ownBlock], by simp, by simp⟩
  have ST := Lib.hid ST0
  have B3 := Lib.hid ((Below.refl w2.heap.size w2).alloc (Nat.le_refl _) (.cells #[.slice none 0 0] 44))
  have hs3 : (w2.alloc (.cells #[.slice none 0 0] 44)).heap.size = w2.heap.size + 1 := by simp
  clear ST0
  go_wp2_with fail
  generalize w2.alloc (.cells #[.slice none 0 0] 44) = w3 at *
  go_loopw [23] (fun i wr => ∃ (k : Nat) (r : List Q5), k ≤ l.length ∧ r.length ≤ k ∧ i = .int .i64 k ∧ TdSt w2.heap.size w2.heap.size wr r ∧ Below w2.heap.size w2 wr ∧ (tidyR l P (l.drop k) k r).reverse = t) (fun i _ => l.length - (intOf i).toNat)
  case atStart => exact ⟨0, [], Nat.zero_le _, Nat.le_refl _, rfl, ST.out, B3.out, by rw [List.drop_zero]; exact HT.out.symm⟩
  case round =>
    obtain ⟨k, r, hk, hrk, rfl, hst, hb2, hT⟩ := hrel
    have HST := Lib.hid hst
    have HB := Lib.hid (HB2.out.trans (hb2.mono HB2.out.size))
    have HB2r := Lib.hid hb2
    have TT := Lib.hid hT
    have hsr2 := hb2.size
    have LR := Lib.hid (L2.out.later hb2)
    clear hst hb2 hT
    by_cases hlt : k < l.length
    · have tl : decide ((k : Int) < (l.length : Int)) = true := by simp; omega
      obtain ⟨x, hx⟩ := lookup hlt
      have NX := Lib.hid (tidyR_next (P := P) (r := r) hx)
      have HX := Lib.hid hx
      obtain ⟨xo, xd, xa, xb, xi⟩ := x
      obtain ⟨_, hnil | ⟨bb, off, rfl, hbb, hcl⟩⟩ := LR.out
      · rw [hnil] at hlt; simp at hlt
      have CL := Lib.hid hcl
      obtain ⟨p0, p1, p2, p3, p4⟩ := hcl k _ hx
      have BA := Lib.hid ((Below.refl wr.heap.size wr).alloc (Nat.le_refl _) (.cells #[.int .i64 xo, .int .i64 xd, .int .i64 xa, .int .i64 xb, .int .i32 xi] 46))
      have hrl : r.length ≤ 20000 := by omega
      clear hcl hx
      by_cases h23 : xo = 23
      · have t0 : (xo == 23) = true := by simp [h23]
        have H23 := Lib.hid h23
        clear h23
        by_cases h1 : xi = 1
        · have t1 : (xi == 1) = true := by simp [h1]
          have H1 := Lib.hid h1
          clear h1
          have CV := Lib.hid (show convS l P k ⟨xo, xd, xa, xb, xi⟩ = ⟨1, xd, xa, xb, xi⟩ by
            unfold convS
            dsimp only
            rw [if_pos ⟨H23.out, H1.out⟩])
          go_wp2_with fail
          refine (put_any w2.heap.size w2.heap.size w2.heap.size (Nat.le_refl _) (Nat.le_refl _) r ⟨1, xd, xa, xb, xi⟩ _ hrl (HST.out.later ((Below.refl wr.heap.size wr).alloc (Nat.le_refl _) (.cells #[.int .i64 1, .int .i64 xd, .int .i64 xa, .int .i64 xb, .int .i32 xi] 46)))).mono ?_
          rintro e w5 ⟨rfl, st5, hb5⟩
          have S5 := Lib.hid st5
          have B5 := Lib.hid ((HB2r.out.trans (((Below.refl wr.heap.size wr).alloc (Nat.le_refl _) (.cells #[.int .i64 1, .int .i64 xd, .int .i64 xa, .int .i64 xb, .int .i32 xi] 46)).mono hsr2)).trans hb5)
          clear st5 hb5
          go_wp2_with fail
          refine ⟨⟨k + 1, putR r ⟨1, xd, xa, xb, xi⟩, by omega, by have := putR_len r ⟨1, xd, xa, xb, xi⟩; omega, by simp, S5.out, B5.out, ?_⟩, by simp [intOf]; omega⟩
          rw [← TT.out, NX.out, CV.out]
        · have t1 : (xi == 1) = false := by simp [h1]
          have H1 := Lib.hid h1
          clear h1
          have t2 : (xo == 24) = false := by rw [H23.out]; rfl
          have CV := Lib.hid (show convS l P k ⟨xo, xd, xa, xb, xi⟩ = ⟨xo, xd, xa, xb, xi⟩ by
            unfold convS
            dsimp only
            rw [if_neg (fun h => H1.out h.2), if_neg (fun h => by have := H23.out; have := h.1; omega)])
          go_wp2_with fail
          refine (put_any w2.heap.size w2.heap.size w2.heap.size (Nat.le_refl _) (Nat.le_refl _) r ⟨xo, xd, xa, xb, xi⟩ _ hrl (HST.out.later (BA.out))).mono ?_
          rintro e w5 ⟨rfl, st5, hb5⟩
          have S5 := Lib.hid st5
          have B5 := Lib.hid ((HB2r.out.trans ((BA.out).mono hsr2)).trans hb5)
          clear st5 hb5
          go_wp2_with fail
          refine ⟨⟨k + 1, putR r ⟨xo, xd, xa, xb, xi⟩, by omega, by have := putR_len r ⟨xo, xd, xa, xb, xi⟩; omega, by simp, S5.out, B5.out, ?_⟩, by simp [intOf]; omega⟩
          rw [← TT.out, NX.out, CV.out]
      · have t0 : (xo == 23) = false := by simp [h23]
        have H23 := Lib.hid h23
        clear h23
        by_cases h24 : xo = 24
        · have t2 : (xo == 24) = true := by simp [h24]
          obtain ⟨q, y, hq, hy⟩ := end_at EP.out HX.out (show (⟨xo, xd, xa, xb, xi⟩ : Q5).o = 24 from h24)
          have H24 := Lib.hid h24
          clear h24
          obtain ⟨yo, yd, ya, yb, yi⟩ := y
          have hql : q < l.length := by
            rcases Nat.lt_or_ge q l.length with h | h
            · exact h
            · rw [List.getElem?_eq_none h] at hy; cases hy
          have hkP : k < P.length := by rw [PL.out]; exact hlt
          rcases I2.out with hnil | ⟨g2, rfl, hg21, hg22, hc2⟩
          · rw [hnil] at hkP; simp at hkP
          have cq := (HB2r.out.cell (p := ⟨g2, k, none⟩) hg22).trans (hc2 k _ hq)
          obtain ⟨_, y1, _, _, y4⟩ := CL.out q _ hy
          have hPg : P.getD k 0 = (q : Int) := by rw [List.getD_eq_getElem?_getD, hq]; rfl
          have HPG := Lib.hid hPg
          have IO := Lib.hid (iOf_at hy)
          have DO := Lib.hid (dOf_atT hy)
          have hg2r : g2 < wr.heap.size := by omega
          have hkP2 : (k : Int) < (P.length : Int) := by omega
          have hq2 : (q : Int) < (l.length : Int) := by omega
          clear hq hy hc2 hPg
          by_cases h1 : yi = 1
          · have t1 : (yi == 1) = true := by simp [h1]
            have H1 := Lib.hid h1
            clear h1
            have CV := Lib.hid (show convS l P k ⟨xo, xd, xa, xb, xi⟩ = ⟨1, yd, 0, 0, 0⟩ by
              unfold convS
              dsimp only
              rw [if_neg (fun h => H23.out h.1), HPG.out, Int.toNat_natCast, IO.out, DO.out, if_pos ⟨H24.out, H1.out⟩])
            go_wp2_with fail
            refine (put_any w2.heap.size w2.heap.size w2.heap.size (Nat.le_refl _) (Nat.le_refl _) r ⟨1, yd, 0, 0, 0⟩ _ hrl (HST.out.later ((Below.refl wr.heap.size wr).alloc (Nat.le_refl _) (.cells #[.int .i64 1, .int .i64 yd, .int .i64 0, .int .i64 0, .int .i32 0] 46)))).mono ?_
            rintro e w5 ⟨rfl, st5, hb5⟩
            have S5 := Lib.hid st5
            have B5 := Lib.hid ((HB2r.out.trans (((Below.refl wr.heap.size wr).alloc (Nat.le_refl _) (.cells #[.int .i64 1, .int .i64 yd, .int .i64 0, .int .i64 0, .int .i32 0] 46)).mono hsr2)).trans hb5)
            clear st5 hb5
            go_wp2_with fail
            refine ⟨⟨k + 1, putR r ⟨1, yd, 0, 0, 0⟩, by omega, by have := putR_len r ⟨1, yd, 0, 0, 0⟩; omega, by simp, S5.out, B5.out, ?_⟩, by simp [intOf]; omega⟩
            rw [← TT.out, NX.out, CV.out]
          · have t1 : (yi == 1) = false := by simp [h1]
            have H1 := Lib.hid h1
            clear h1
            have CV := Lib.hid (show convS l P k ⟨xo, xd, xa, xb, xi⟩ = ⟨xo, xd, xa, xb, xi⟩ by
              unfold convS
              dsimp only
              rw [if_neg (fun h => H23.out h.1), HPG.out, Int.toNat_natCast, IO.out, if_neg (fun h => H1.out h.2)])
            go_wp2_with fail
            refine (put_any w2.heap.size w2.heap.size w2.heap.size (Nat.le_refl _) (Nat.le_refl _) r ⟨xo, xd, xa, xb, xi⟩ _ hrl (HST.out.later (BA.out))).mono ?_
            rintro e w5 ⟨rfl, st5, hb5⟩
            have S5 := Lib.hid st5
            have B5 := Lib.hid ((HB2r.out.trans ((BA.out).mono hsr2)).trans hb5)
            clear st5 hb5
            go_wp2_with fail
            refine ⟨⟨k + 1, putR r ⟨xo, xd, xa, xb, xi⟩, by omega, by have := putR_len r ⟨xo, xd, xa, xb, xi⟩; omega, by simp, S5.out, B5.out, ?_⟩, by simp [intOf]; omega⟩
            rw [← TT.out, NX.out, CV.out]
        · have t2 : (xo == 24) = false := by simp [h24]
          have H24 := Lib.hid h24
          clear h24
          have CV := Lib.hid (show convS l P k ⟨xo, xd, xa, xb, xi⟩ = ⟨xo, xd, xa, xb, xi⟩ by
            unfold convS
            dsimp only
            rw [if_neg (fun h => H23.out h.1), if_neg (fun h => H24.out h.1)])
          go_wp2_with fail
          refine (put_any w2.heap.size w2.heap.size w2.heap.size (Nat.le_refl _) (Nat.le_refl _) r ⟨xo, xd, xa, xb, xi⟩ _ hrl (HST.out.later (BA.out))).mono ?_
          rintro e w5 ⟨rfl, st5, hb5⟩
          have S5 := Lib.hid st5
          have B5 := Lib.hid ((HB2r.out.trans ((BA.out).mono hsr2)).trans hb5)
          clear st5 hb5
          go_wp2_with fail
          refine ⟨⟨k + 1, putR r ⟨xo, xd, xa, xb, xi⟩, by omega, by have := putR_len r ⟨xo, xd, xa, xb, xi⟩; omega, by simp, S5.out, B5.out, ?_⟩, by simp [intOf]; omega⟩
          rw [← TT.out, NX.out, CV.out]
    · obtain rfl : k = l.length := by omega
      have e := TT.out
      rw [List.drop_of_length_le (Nat.le_refl _)] at e
      have e : r.reverse = t := e
      have et : t.length = r.length := by rw [← e, List.length_reverse]
      obtain ⟨a9, c9, h1, h2, h3, h4, h5, h6⟩ := HST.out
      rw [e] at h3
      have O9 := Lib.hid (own_lowT h3 HB2.out.size)
      have ET := Lib.hid et
      rw [← et] at h1 O9
      clear h2 h3 e et
      have hlr : l.length ≤ 20000 := hlen
      have trl : r.length ≤ 20000 := by omega
      have ttl : t.length ≤ 20000 := by rw [ET.out]; exact trl
      go_wp2_with fail
      go_region
      go_wp2_with fail
      go_ret3
      exact ⟨a9, c9, rfl, O9.out, HB.out.drew⟩
end Go.Proofs.Ytlieapapmkbbgaa
