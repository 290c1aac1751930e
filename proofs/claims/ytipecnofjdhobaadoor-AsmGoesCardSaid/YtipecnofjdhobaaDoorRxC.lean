/- relax.sizesOf. -/
import Derived.Test.YtipecnofjdhobaaDoorRxB
import Derived.Test.YtipecnofjdhobaaDoorPseudo
namespace Go.Proofs.YtipecnofjdhobaaDoor
open Go Go.RowKit Go.Maps Pl
set_option linter.unusedVariables false
set_option linter.unusedSimpArgs false
set_option maxRecDepth 100000

/-- how long an item is, if no branch is far -/
def szI (x : It) : Int := if x.kd = 1 ∨ x.kd = 3 ∨ x.kd = 4 then 4 else if x.kd = 5 then 4 * ((setS x.rd x.im).length : Int) else 0
def szL (l : List It) (i : Nat) : Int := match l[i]? with | some x => szI x | none => 0
theorem szL_at {l : List It} {i : Nat} {x : It} (h : l[i]? = some x) : szL l i = szI x := by unfold szL; rw [h]
theorem setS_len (rd n : Int) : (setS rd n).length ≤ 2 := by
  unfold setS
  split
  · split
    · simp
    · split <;> simp
  · simp
theorem szI_bd (x : It) : 0 ≤ szI x ∧ szI x ≤ 8 := by
  unfold szI
  have := setS_len x.rd x.im
  split
  · omega
  · split <;> omega
theorem szL_bd (l : List It) (i : Nat) : 0 ≤ szL l i ∧ szL l i ≤ 8 := by
  unfold szL
  split
  · exact szI_bd _
  · omega
theorem own_slI {w : World} {B : Nat} {v : Value} {l : List Q5} (h : OwnIns w B v l) : ∃ a c, v = .slice a l.length c := by
  obtain ⟨h1, ⟨rfl, h2⟩ | ⟨g, c, cur, rfl, hb, hg, hc, hm, _⟩⟩ := h
  · rw [h2]; exact ⟨none, 0, rfl⟩
  · exact ⟨_, c, rfl⟩
theorem sizes_if (l : List It) (k j : Nat) : (if j < k + 1 then szL l j else 0) = if j = k then szL l k else if j < k then szL l j else 0 := by
  by_cases e : j = k
  · subst e; rw [if_pos (by omega), if_pos rfl]
  · rw [if_neg e]
    by_cases h : j < k
    · rw [if_pos h, if_pos (by omega)]
    · rw [if_neg h, if_neg (by omega)]
theorem sizes_0 (l : List It) (n : Nat) : iR n (fun j => if j < 0 then szL l j else 0) = iR n fun _ => 0 := iR_eq fun j _ => by rw [if_neg (by omega)]
theorem sizes_keep {w : World} {B n k : Nat} {l : List It} (h : RowAt w B (iR n (fun j => if j < k then szL l j else 0))) (h0 : szL l k = 0) : RowAt w B (iR n (fun j => if j < k + 1 then szL l j else 0)) := by
  rw [iR_eq (g := fun j => if j < k then szL l j else 0) (fun j _ => by
    rw [sizes_if]
    by_cases e : j = k
    · subst e; rw [if_pos rfl, h0, if_neg (by omega)]
    · rw [if_neg e])]
  exact h
set_option maxHeartbeats 8000000 in
theorem sizes_any (l : List It) (hok : ∀ x ∈ l, x.okay) (at0 : Option Addr) (c : Nat) (w : World) (hA : ItAt w at0 l) (hl : l.length ≤ 4000) (hc : c ≤ 9223372036854775807) :
    Calls Tryd.prog 40 #[.slice at0 l.length c] w fun e w' => ∃ b, e = .returned (.slice (some ⟨b, 0, none⟩) l.length l.length) ∧ w.heap.size ≤ b ∧ RowAt w' b (iR l.length (szL l)) ∧ Below w.heap.size w w' := by
  have HA := Lib.hid hA
  have HOK := Lib.hid hok
  have hli : (l.length : Int) ≤ 4000 := by omega
  have hmk := fun W => run_make_row' (P := Tryd.prog) 31 3 (.int .i64 0) 8 Tryd.underlying31 info_intO rfl .i64 .i64 l.length (by omega) (by omega) W
  clear hA hok
  go_enter Tryd.func40, Tryd.ntmps40
  go_upto_region 2 with fail
  have RB := Lib.hid (iR_made w l.length)
  have HB0 := Lib.hid (Below.alloc (Below.refl w.heap.size w) (Nat.le_refl _) (.cells (madeCells #[Value.int .i64 0] l.length) 3))
  obtain ⟨B, hB⟩ : ∃ B, B = w.heap.size := ⟨_, rfl⟩
  rw [← hB] at RB ⊢
  have HBB := Lib.hid (show w.heap.size ≤ B by omega)
  clear hmk hB
  generalize w.alloc (.cells (madeCells #[Value.int .i64 0] l.length) 3) = W1 at *
  go_wp2_with fail
  go_loopw [11] (fun s11 wr => ∃ k : Nat, k ≤ l.length ∧ s11 = .int .i64 k ∧ RowAt wr B (iR l.length (fun j => if j < k then szL l j else 0)) ∧ Out (fun j => j = B) W1 wr) (fun s11 _ => l.length - (intOf s11).toNat)
  case atStart => exact ⟨0, Nat.zero_le _, rfl, by rw [sizes_0]; exact RB.out, Out.refl _ _⟩
  case round =>
    obtain ⟨k, hk, rfl, hRr, hO⟩ := hrel
    have HR := Lib.hid hRr
    have HU := Lib.hid hO
    have HBr := Lib.hid (hO.below HB0.out (Nat.le_refl _) (fun j hj => by subst hj; exact HBB.out))
    clear hRr hO
    by_cases hkl : k < l.length
    · obtain ⟨x, hx⟩ : ∃ x, l[k]? = some x := ⟨_, List.getElem?_eq_getElem hkl⟩
      obtain ⟨g, off, hat, hg, c0, c1, c2, c3, c4, c5, c6⟩ := (HA.out.later HBr.out) k x hx
      subst hat
      have HX := Lib.hid (HOK.out x (List.mem_of_getElem? hx))
      have HKL := Lib.hid hkl
      have HSZ := Lib.hid (szL_at hx)
      have k0 : (0 : Int) ≤ (k : Int) := by omega
      have k1 : (k : Int) < (l.length : Int) := by omega
      obtain ⟨kd, o, d, a, b, i, lb⟩ := x
      dsimp only at c0 c1 c2 c3 c4 c5 c6
      clear hx hkl hk
      go_upto_region 5 with fail
      have hal : Below wr.heap.size wr (wr.alloc (.cells #[.int .i64 kd, .int .i64 o, .int .i64 d, .int .i64 a, .int .i64 b, .int .i32 i, .int .i64 lb] 41)) := Below.alloc (Below.refl _ _) (Nat.le_refl _) _
      have RA := Lib.hid (RowAt.new wr [.int .i64 kd, .int .i64 o, .int .i64 d, .int .i64 a, .int .i64 b, .int .i32 i, .int .i64 lb] 41)
      have HRA := Lib.hid (HR.out.over hal)
      have HOA := Lib.hid (HU.out.trans (Out.of_below (fun j => j = B) hal))
      obtain ⟨A, hA⟩ : ∃ A, A = wr.heap.size := ⟨_, rfl⟩
      rw [← hA] at RA ⊢
      obtain ⟨W, hW⟩ : ∃ W, W = wr.alloc (.cells #[.int .i64 kd, .int .i64 o, .int .i64 d, .int .i64 a, .int .i64 b, .int .i32 i, .int .i64 lb] 41) := ⟨_, rfl⟩
      have hE : wr.alloc (.cells [Value.int .i64 kd, .int .i64 o, .int .i64 d, .int .i64 a, .int .i64 b, .int .i32 i, .int .i64 lb].toArray 41) = W := by rw [hW]
      rw [hE] at RA
      rw [← hW] at HRA HOA ⊢
      clear hal hA hW hE c0 c1 c2 c3 c4 c5 c6
      have a0 := RA.out.cell 0 _ rfl
      have a2 := RA.out.cell 2 _ rfl
      have a5 := RA.out.cell 5 _ rfl
      have al := RA.out.lt
      have d0 := HRA.out.cell k _ (iR_at _ HKL.out)
      rw [if_neg (Nat.lt_irrefl k)] at d0
      have df := HRA.out.fr k
      have dl := HRA.out.lt
      have HF := Lib.hid (fun j (_ : j < l.length) => sizes_if l k j)
      rw [HSZ.out] at HF
      by_cases h4 : kd = 1 ∨ kd = 3 ∨ kd = 4
      · have HV := Lib.hid (show szI ⟨kd, o, d, a, b, i, lb⟩ = 4 by unfold szI; rw [if_pos h4])
        rw [HV.out] at HF
        have tt : ∃ p q : Bool, (kd == 1) = p ∧ (kd == 3) = q ∧ (kd == 4) = (!p && !q) := ⟨_, _, rfl, rfl, by rcases h4 with h | h | h <;> subst h <;> rfl⟩
        obtain ⟨p, q, t1, t3, t4⟩ := tt
        clear h4
        cases p <;> cases q <;> simp only [Bool.not_true, Bool.not_false, Bool.and_true, Bool.and_false, Bool.true_and, Bool.false_and] at t4
        all_goals (go_wp2_with fail)
        all_goals exact ⟨⟨k + 1, by have := HKL.out; omega, rfl, iR_row HRA.out HKL.out HF.out, HOA.out.trans (out_setB W B k (.int .i64 4))⟩, by have := HKL.out; simp [intOf]; omega⟩
      · have t1 : (kd == 1) = false := by simp; omega
        have t3 : (kd == 3) = false := by simp; omega
        have t4 : (kd == 4) = false := by simp; omega
        by_cases h5 : kd = 5
        · have t5 : (kd == 5) = true := by simp [h5]
          have HV := Lib.hid (show szI ⟨kd, o, d, a, b, i, lb⟩ = 4 * ((setS d i).length : Int) by unfold szI; rw [if_neg h4, if_pos h5])
          rw [HV.out] at HF
          have HST := Lib.hid (fun W => set_any d i W HX.out.2.2.2.2.2.1)
          have hs2 : ((setS d i).length : Int) ≤ 2 := by have := setS_len d i; omega
          have hs0 : (0 : Int) ≤ ((setS d i).length : Int) := by omega
          obtain ⟨L, hL⟩ : ∃ L, L = setS d i := ⟨_, rfl⟩
          rw [← hL] at HF HST hs2 hs0
          clear h4 h5 hL
          go_wp2_with (go_at_call 32; refine (HST.out _).mono ?_; unfold SetPost; rintro e w5 ⟨v5, rfl, hv5, hb5⟩; obtain ⟨va, vc, rfl⟩ := own_slI hv5; have HB5 := Lib.hid hb5; have HR5 := Lib.hid (HRA.out.over hb5); clear hv5 hb5 d0 df dl; have d0 := HR5.out.cell k _ (iR_at _ HKL.out); rw [if_neg (Nat.lt_irrefl k)] at d0; have df := HR5.out.fr k; have dl := HR5.out.lt)
          exact ⟨⟨k + 1, by have := HKL.out; omega, rfl, iR_row HR5.out HKL.out HF.out, (HOA.out.trans (Out.of_below (fun j => j = B) HB5.out)).trans (out_setB w5 B k (.int .i64 _))⟩, by have := HKL.out; simp [intOf]; omega⟩
        · have t5 : (kd == 5) = false := by simp [h5]
          have HV := Lib.hid (show szI ⟨kd, o, d, a, b, i, lb⟩ = 0 by unfold szI; rw [if_neg h4, if_neg h5])
          clear h4 h5
          have HRK := Lib.hid (sizes_keep HRA.out (HSZ.out.trans HV.out))
          go_wp2_with fail
          exact ⟨⟨k + 1, by have := HKL.out; omega, rfl, HRK.out, HOA.out⟩, by have := HKL.out; simp [intOf]; omega⟩
    · obtain rfl : k = l.length := by omega
      have kx : ¬ ((l.length : Int) < (l.length : Int)) := by omega
      have RF := Lib.hid (show RowAt wr B (iR l.length (szL l)) by
        have h := HR.out
        rw [iR_eq (g := szL l) (fun j hj => by rw [if_pos (by omega)])] at h
        exact h)
      clear hkl hk
      go_wp2_with fail
      go_ret
      exact ⟨B, rfl, HBB.out, RF.out, HBr.out⟩
end Go.Proofs.YtipecnofjdhobaaDoor
