/- PeepSame: the walk. -/
import Derived.Test.YtlieapapmkbbgaaPsB
import Derived.Test.YtlieapapmkbbgaaPsE
import Derived.Test.YtlieapapmkbbgaaTdT
import Derived.Test.YtlieapapmkbbgaaGL
import Derived.Test.YtlieapapmkbbgaaGH
namespace Go.Proofs.Ytlieapapmkbbgaa
open Go Go.RowKit Pl
set_option linter.unusedVariables false

theorem own64 {w : World} {B : Nat} {v : Value} {xs : List Value} {e : TypeId} (h : w.ownsRow B e 1 v 64 xs) (hx : xs.length = 64) : ∃ g c, v = .slice (some ⟨g, 0, none⟩) 64 c ∧ (64 ≤ c ∧ c ≤ 9223372036854775807) ∧ B ≤ g ∧ g < w.heap.size ∧ RowAt w g xs := by
  obtain ⟨h1, ⟨_, h2⟩ | ⟨g, c, cur, rfl, hb, hh, hc, hm, hs, ht⟩⟩ := h
  · omega
  · refine ⟨g, c, rfl, ⟨hc, hm⟩, hb, (Array.getElem?_eq_some_iff.1 hh).1, (Array.getElem?_eq_some_iff.1 hh).1, fun j => ?_, fun j u hu => ?_⟩
    · simp [World.frozen?, hh]
    · rw [← ht] at hu
      rw [List.getElem?_take_of_lt (by
        refine Decidable.byContradiction fun e => ?_
        rw [List.getElem?_eq_none (by simp; omega)] at hu; simp at hu)] at hu
      simp only [World.cell?, hh]
      simpa using hu
theorem row_far {w w' : World} {g : Nat} {xs : List Value} {S : Nat → Prop} (h : RowAt w g xs) (k : Out S w w') (hs : ¬ S g) : RowAt w' g xs :=
  ⟨Nat.lt_of_lt_of_le h.lt k.size, fun j => (World.frozen?_of_block (k.block g h.lt hs)).trans (h.fr j), fun j u hu => (World.cell?_of_block (k.block g h.lt hs)).trans (h.cell j u hu)⟩
theorem l5_blk {w : World} {a : Option Addr} {l : List Q5} (h : L5 w a l) : l = [] ∨ ∀ x, a = some x → x.block < w.heap.size := by
  obtain ⟨_, h2 | ⟨b, o, e, hlt, _⟩⟩ := h
  · exact .inl h2
  · exact .inr fun x hx => by rw [e] at hx; cases hx; exact hlt
theorem l5_put {w : World} {base : Nat} {v : Value} {t : List Q5} (h : w.ownsRow base 46 5 v (0 + t.length) ([] ++ flat t)) (hne : t ≠ []) (hn : t.length ≤ 1000) :
    ∃ g c, v = .slice (some ⟨g, 0, none⟩) t.length c ∧ base ≤ g ∧ L5 w (some ⟨g, 0, none⟩) t := by
  rw [Nat.zero_add, List.nil_append] at h
  have hp : 0 < t.length := List.length_pos_iff.2 hne
  have hlt := h.lt
  have h' := h
  obtain ⟨_, ⟨hv, hn0⟩ | ⟨g, cap, cur, hv, hg, hh, hc, hcm, _⟩⟩ := h
  · omega
  · refine ⟨g, cap, hv, hg, l5_mk (by omega) (hlt g (by rw [hv]; rfl)).2 fun j u hj => ?_⟩
    have := h'.cells (g := g) (by rw [hv]; rfl) j u hj
    rw [add_at] at this
    exact this
theorem l5_ownT {w : World} {base : Nat} {a : Option Addr} {c : Nat} {t : List Q5} (h : w.ownsRow base 46 5 (.slice a t.length c) t.length (flat t)) (hn : t.length ≤ 1000) : L5 w a t := by
  by_cases he : t = []
  · subst he; exact ⟨by simp, .inl rfl⟩
  · obtain ⟨g, c', hv, _, hL⟩ := l5_put (t := t) (by rw [Nat.zero_add, List.nil_append]; exact h) he hn
    obtain ⟨rfl, _⟩ : a = some ⟨g, 0, none⟩ ∧ c = c' := by injection hv with e1 e2 e3; exact ⟨e1, e3⟩
    exact hL
def KP : Bk := ⟨4096, 2147483648, noughts 256⟩
theorem kp_ok : FlOk KP := fun x hx => by rw [List.eq_of_mem_replicate (show x ∈ noughts 256 from hx)]; omega
theorem kp_len : KP.Fb.length = 256 := noughts_lenM 256
theorem bb_len {tb : List Nat} (h : tb.length ≤ 128) : (setB (noughts 128) 0 tb).length = 128 := by rw [setB_length _ _ _ (by rw [noughts_lenM]; omega), noughts_lenM]
theorem bb_ok {tb : List Nat} (h : ∀ x ∈ tb, x < 256) : ∀ x ∈ setB (noughts 128) 0 tb, x < 256 := by
  intro x hx
  unfold setB at hx
  rcases List.mem_append.1 hx with hx | hx
  · rcases List.mem_append.1 hx with hx | hx
    · simp at hx
    · exact h x hx
  · rw [List.eq_of_mem_replicate (show x ∈ List.replicate 128 0 from List.mem_of_mem_drop hx)]; omega
theorem btP {w a b : World} (h : Below w.heap.size w a) (k : Below a.heap.size a b) : Below w.heap.size w b := h.trans (k.mono h.size)
set_option maxRecDepth 100000 in
set_option maxHeartbeats 4000000 in
theorem ps_bad (w : World) (a0 : Option Addr) (c0 : Nat) (l0 l : List Q5) (a5 : Option Addr) (c5 : Nat) (b5 : List Nat) (w0 : L5In w a0 l0 c0) (hl : l = l0.take 60) (hc : checkS l ≠ 0) :
    Calls Try.prog 3 #[.slice a0 l0.length c0, .slice a5 b5.length c5] w fun e w' => e = .returned (.bool true) ∧ Below w.heap.size w w' := by
  have HL := Lib.hid hl
  have W0 := Lib.hid w0
  obtain ⟨q, hq⟩ : ∃ q, q = checkS l := ⟨_, rfl⟩
  have HQ := Lib.hid hq
  have HC := Lib.hid hc
  rw [← hq] at hc
  have hqb : (q != 0) = true := by simpa using hc
  clear hl w0 hc hq
  go_enter Try.func3, Try.ntmps3
  go_wp2_with fail
  refine (fewL_at a0 c0 l0 l w W0.out HL.out).mono ?_
  rintro e w1 ⟨a1, c1, rfl, s1, b1⟩
  have S1 := Lib.hid s1
  have B1 := Lib.hid b1
  clear s1 b1
  go_wp2_with fail
  refine (tidy_bad a1 c1 l w1 S1.out HC.out).mono ?_
  rw [← HQ.out]
  rintro e w4 ⟨rfl, b4⟩
  have B4 := Lib.hid (btP B1.out b4)
  clear b4
  go_wp2_with fail
  refine (lives39 _).mono ?_
  rintro e wb ⟨rfl, bb⟩
  have BB := Lib.hid (btP B4.out bb)
  clear bb
  go_wp2_with fail
  go_ret
  exact ⟨rfl, BB.out⟩
set_option maxRecDepth 100000 in
set_option maxHeartbeats 8000000 in
theorem ps_good (w : World) (a0 : Option Addr) (c0 : Nat) (l0 l t : List Q5) (P E : List Int) (a5 : Option Addr) (c5 : Nat) (b5 : List Nat) (w0 : L5In w a0 l0 c0) (w5 : SliceIn w a5 b5 c5) (hl : l = l0.take 60) (hc : checkS l = 0) (hp : Prog1 l P) (hcnt : countedS l = true) (ht : t = tidyS l P) (hct : checkS t = 0) (hpt : Prog1 t E) (htl : t.length ≤ 60) :
    Calls Try.prog 3 #[.slice a0 l0.length c0, .slice a5 b5.length c5] w fun e w' => e = .returned (.bool true) ∧ Below w.heap.size w w' := by
  have HL := Lib.hid hl
  have HLL := Lib.hid (show l.length ≤ 60 by rw [hl, List.length_take]; omega)
  have W0 := Lib.hid w0
  have W5 := Lib.hid w5
  have HC := Lib.hid hc
  have HP := Lib.hid hp
  have HT := Lib.hid ht
  have HCT := Lib.hid hct
  have HPT := Lib.hid hpt
  have HTL := Lib.hid htl
  obtain ⟨tb, htb⟩ : ∃ x, x = b5.take 100 := ⟨_, rfl⟩
  have HTB := Lib.hid htb
  have tbl : tb.length ≤ 128 := by rw [htb, List.length_take]; omega
  have tbk : ∀ x ∈ tb, x < 256 := fun x hx => w5.1 x (by rw [htb] at hx; exact List.mem_of_mem_take hx)
  obtain ⟨bb, hbb⟩ : ∃ x, x = setB (noughts 128) 0 tb := ⟨_, rfl⟩
  have BBL := Lib.hid (show bb.length = 128 by rw [hbb]; exact bb_len tbl)
  have HBB := Lib.hid hbb
  obtain ⟨hn, hsm⟩ := same_core (K := KP) kp_ok (by have := HLL.out; omega) hp.cn hcnt hp.E (by rw [← ht]; exact hpt.E) (fun _ => 0) bb ⟨fun k => ⟨Int.le_refl 0, by show (0 : Int) < 4294967296; decide⟩, by rw [hbb]; exact bb_ok tbk⟩ 3000
  rw [← ht] at hn hsm
  obtain ⟨r1, hr1⟩ : ∃ r, r = runL KP l P 3000 ⟨0, fun _ => 0, bb⟩ := ⟨_, rfl⟩
  obtain ⟨r2, hr2⟩ : ∃ r, r = runL KP t E 3000 ⟨0, fun _ => 0, bb⟩ := ⟨_, rfl⟩
  rw [← hr1, ← hr2] at hn hsm
  have HR1 := Lib.hid hr1
  have HR2 := Lib.hid hr2
  have HSM := Lib.hid hsm
  have hni : (r2.n : Int) ≤ (r1.n : Int) := by omega
  have hni2 : ¬ ((r1.n : Int) < (r2.n : Int)) := by omega
  have LV := Lib.hid lives39
  clear hl w0 w5 hc hp hcnt ht hct hpt htl htb tbl tbk hbb hn hsm hr1 hr2
  go_enter Try.func3, Try.ntmps3
  go_wp2_with fail
  refine (fewL_at a0 c0 l0 l w W0.out HL.out).mono ?_
  rintro e w1 ⟨a1, c1, rfl, s1, b1⟩
  have S1 := Lib.hid s1
  have B1 := Lib.hid b1
  clear s1 b1
  go_wp2_with fail
  refine (tidy_any a1 c1 l P w1 S1.out HC.out HP.out.E).mono ?_
  rw [← HT.out]
  rintro e w2 ⟨a3, c3, rfl, own, b2⟩
  have S2 := Lib.hid (S1.out.later b2)
  have T2 := Lib.hid (l5_ownT own (by have := HTL.out; omega))
  have B2 := Lib.hid (btP B1.out b2)
  clear own b2
  obtain ⟨nl, hnl⟩ : ∃ n : Int, n = (l.length : Int) - (t.length : Int) := ⟨_, rfl⟩
  rw [← hnl]
  clear hnl
  go_wp2_with fail
  refine (memy_any a5 c5 b5 tb w2 (W5.out.later B2.out) HTB.out).mono ?_
  rintro e w3 ⟨M1, F1, R1, rfl, m1, lo1, hi1, b3⟩
  have M1I := Lib.hid m1
  have B23 := Lib.hid b3
  have B3 := Lib.hid (btP B2.out b3)
  clear m1 b3
  go_wp2_with fail
  refine (memy_any a5 c5 b5 tb w3 (W5.out.later B3.out) HTB.out).mono ?_
  rintro e w4 ⟨M2, F2, R2, rfl, m2, lo2, hi2, b4⟩
  have M2I := Lib.hid m2
  have M1J := Lib.hid (M1I.out.out (Out.of_below (fun _ => False) b4) id id id)
  have B24 := Lib.hid (btP B23.out b4)
  have hs34 := b4.size
  have B4 := Lib.hid (btP B3.out b4)
  clear m2 b4
  have RUN1 := run_mem 3000 l a1 c1 P w4 KP M1 F1 R1 bb HP.out HLL.out (S2.out.later B24.out) ((l5_blk S2.out).imp id fun h x hx => by have := h x hx; omega) (by rw [HBB.out]; exact M1J.out) (by rw [kp_len, BBL.out]; exact banks_mapM) (by omega) HC.out (by decide)
  unfold RunPost at RUN1
  rw [show (3000 : Int).toNat = 3000 from rfl, ← HR1.out] at RUN1
  have HRUN1 := Lib.hid RUN1
  clear RUN1
  go_wp2_with fail
  refine HRUN1.out.mono ?_
  rintro e w5 ⟨v1, rfl, own1, k1, kb1, o1⟩
  obtain ⟨g1, e1, rfl, ec1, eg1, el1, row1⟩ := own64 own1 (cellsF_len _)
  have ROW1 := Lib.hid row1
  have K1 := Lib.hid k1
  have B25 := Lib.hid (o1.below B24.out (Nat.le_refl _) (fun j hj => by rcases hj with h | h <;> omega))
  have M2J := Lib.hid (M2I.out.out o1 (by rintro (h | h) <;> omega) (by rintro (h | h) <;> omega) (by rintro (h | h) <;> omega))
  have hs45 := o1.size
  clear own1 k1 o1 row1
  have RUN2 := run_mem 3000 t a3 c3 E w5 KP M2 F2 R2 bb HPT.out HTL.out (T2.out.later B25.out) ((l5_blk T2.out).imp id fun h x hx => by have := h x hx; omega) (by rw [HBB.out]; exact M2J.out) (by rw [kp_len, BBL.out]; exact banks_mapM) (by omega) HCT.out (by decide)
  unfold RunPost at RUN2
  rw [show (3000 : Int).toNat = 3000 from rfl, ← HR2.out] at RUN2
  have HRUN2 := Lib.hid RUN2
  clear RUN2
  go_wp2_with fail
  refine HRUN2.out.mono ?_
  rintro e w6 ⟨v2, rfl, own2, k2, kb2, o2⟩
  obtain ⟨g2, e2, rfl, ec2, eg2, el2, row2⟩ := own64 own2 (cellsF_len _)
  have ROW2 := Lib.hid row2
  have K2 := Lib.hid k2
  have B6 := Lib.hid (o2.below (btP B2.out B25.out) (Nat.le_refl _) (fun j hj => by have := B2.out.size; have := B25.out.size; rcases hj with h | h <;> omega))
  have K1J := Lib.hid (K1.out.out o2 (by rintro (h | h) <;> omega) (by rintro (h | h) <;> omega) (by rintro (h | h) <;> omega))
  have ROW1J := Lib.hid (row_far ROW1.out o2 (by rintro (h | h) <;> omega))
  clear own2 k2 o2 row2
  by_cases hn3 : r1.n < 3000
  · obtain ⟨e1t, e1f, e1b⟩ := HSM.out hn3
    have hn3i : ¬ (3000 : Int) ≤ (r1.n : Int) := by omega
    have WS := Lib.hid (words_same w6 ROW1J.out (show RowAt w6 g2 (cellsF r1.s.f) by rw [← e1f]; exact ROW2.out) ec1 ec2)
    have BS := Lib.hid (fun (W : World) (hW : Below w6.heap.size w6 W) => bytes_same (b := r1.s.b) W (K1J.out.out (Out.of_below (fun _ => False) hW) id id id) (show MemIs M2 F2 R2 4096 2147483648 (noughts 256) r1.s.b W by rw [← e1b]; exact K2.out.out (Out.of_below (fun _ => False) hW) id id id) (kb1.trans BBL.out))
    have hte : (r1.t == r2.t) = true := by rw [e1t]; simp
    have hn3j : decide ((3000 : Int) ≤ (r1.n : Int)) = false := by simpa using hn3i
    generalize r1.t = t1 at *
    generalize r2.t = t2 at *
    clear e1t e1f e1b hn3
    go_wp2_with (first
      | (go_at_call 10; (with_reducible refine WS.out.mono ?_); rintro e w7 ⟨rfl, hb7⟩; have HB67 := Lib.hid hb7; have HB7 := Lib.hid (btP B6.out hb7); clear hb7)
      | (go_at_call 11; (with_reducible refine (BS.out w7 HB67.out).mono ?_); rintro e w8 ⟨rfl, hb8⟩; have HB8 := Lib.hid (btP HB7.out hb8); clear hb8)
      | (go_at_call 7; (with_reducible refine (LV.out _).mono ?_); rintro e w9 ⟨rfl, hb9⟩; have HB9 := Lib.hid (btP HB8.out hb9); clear hb9))
    go_returns
    exact ⟨rfl, HB9.out⟩
  · have hn3i : (3000 : Int) ≤ (r1.n : Int) := by omega
    go_wp2_with (go_at_call 7; (with_reducible refine (LV.out _).mono ?_); rintro e w9 ⟨rfl, hb9⟩; have HB9 := Lib.hid (btP B6.out hb9); clear hb9)
    go_returns
    exact ⟨rfl, HB9.out⟩
end Go.Proofs.Ytlieapapmkbbgaa
