/- Contract of quant.Steps. -/
import Derived.Test.YtghclbeoabkgcaaClamp
import Derived.Test.YtghclbeoabkgcaaLives
namespace Go.Proofs.Ytghclbeoabkgcaa
open Go Go.RowKit Pl
set_option linter.unusedVariables false

theorem canqS_ap (d a t s : Int) : canqS d a t s = ((decide (0 ≤ s) && decide (s ≤ 31)) && (apS d t && apS a t)) := by
  unfold canqS varsS apS varB
  rw [Bool.eq_iff_iff]
  simp
  omega
theorem isShift_any (s : Int) (w : World) : Calls Try.prog 36 #[.int .i64 s] w fun e w' => e = .returned (.bool (decide (0 ≤ s) && decide (s ≤ 31))) ∧ w = w' := by
  cases h : decide (0 ≤ s)
  all_goals
    go_enter Try.func36, Try.ntmps36
    go_wp2
    go_ret
    exact ⟨rfl, rfl⟩

set_option maxHeartbeats 2000000 in
theorem steps_none (d a t m s : Int) (w : World) (h : canqS d a t s = false) : Calls Try.prog 14 #[.int .i64 d, .int .i64 a, .int .i64 t, .int .i32 m, .int .i64 s] w fun e w' => e = .returned (.slice none 0 0) ∧ w = w' := by
  rw [canqS_ap] at h
  cases h0 : (decide (0 ≤ s) && decide (s ≤ 31))
  · (go_enter Try.func14, Try.ntmps14; go_wp2_with (first | (go_at_call 36; refine (isShift_any _ _).mono ?_; rintro e w9 ⟨rfl, rfl⟩) | (go_at_call 37; refine (apart_any _ _ _).mono ?_; rintro e w9 ⟨rfl, rfl⟩)); go_ret; exact ⟨rfl, rfl⟩)
  · cases h1 : apS d t
    · (go_enter Try.func14, Try.ntmps14; go_wp2_with (first | (go_at_call 36; refine (isShift_any _ _).mono ?_; rintro e w9 ⟨rfl, rfl⟩) | (go_at_call 37; refine (apart_any _ _ _).mono ?_; rintro e w9 ⟨rfl, rfl⟩)); go_ret; exact ⟨rfl, rfl⟩)
    · cases h2 : apS a t
      · (go_enter Try.func14, Try.ntmps14; go_wp2_with (first | (go_at_call 36; refine (isShift_any _ _).mono ?_; rintro e w9 ⟨rfl, rfl⟩) | (go_at_call 37; refine (apart_any _ _ _).mono ?_; rintro e w9 ⟨rfl, rfl⟩)); go_ret; exact ⟨rfl, rfl⟩)
      · (rw [h0, h1, h2] at h; cases h)
theorem steps8_len (D A T : Nat) (m : Int) : (stepsQ8 D A T m).length = 8 := rfl
theorem stepsQ_zero (D A T : Nat) (m : Int) : stepsQ D A T m 0 = stepsQ8 D A T m := by unfold stepsQ stepsQ2; simp
theorem stepsQ_some (D A T : Nat) (m : Int) {s : Int} (h : ¬ s = 0) : stepsQ D A T m s = stepsQ8 D A T m ++ [⟨13, D, D, 0, 2 ^ (s - 1).toNat⟩, ⟨16, D, D, 0, s⟩] := by unfold stepsQ stepsQ2; rw [if_neg h]
set_option maxRecDepth 100000 in
set_option maxHeartbeats 2000000 in
theorem steps_zero (D A T : Nat) (m : Int) (w : World) (h : canqS D A T 0 = true) : Calls Try.prog 14 #[.int .i64 D, .int .i64 A, .int .i64 T, .int .i32 m, .int .i64 0] w (StepsIn (stepsQ D A T m 0) w) := by
  rw [canqS_ap] at h
  have h1 : apS (D : Int) (T : Int) = true := by revert h; cases apS (D : Int) (T : Int) <;> simp
  have h2 : apS (A : Int) (T : Int) = true := by revert h; cases apS (A : Int) (T : Int) <;> simp
  have hT : 0 ≤ (T : Int) ∧ (T : Int) < 64 := by unfold apS at h1; simp at h1; exact varB_t h1.2.1
  have uT := IntWalk.i64_in ((T : Int) + 1) (by omega)
  have Z := Lib.hid (stepsQ_zero D A T m)
  clear h
  go_enter Try.func14, Try.ntmps14
  go_wp2_with (first | (go_at_call 36; refine (isShift_any _ _).mono ?_; rintro e w9 ⟨rfl, rfl⟩) | (go_at_call 37; refine (apart_any _ _ _).mono ?_; rintro e w9 ⟨rfl, rfl⟩))
  go_ret
  rw [Z.out]
  exact ⟨w.heap.size, 8, rfl, l5_lit w _ (stepsQ8 D A T m) _ rfl _ rfl (by rw [steps8_len]; omega), Nat.le_refl _, by simp, (Below.refl _ _).alloc (Nat.le_refl _) _⟩
def a8 (D A T : Nat) (m : Int) : Array Value := #[.int .i64 1, .int .i64 T, .int .i64 0, .int .i64 0, .int .i32 m, .int .i64 6, .int .i64 ((T : Int) + 1), .int .i64 A, .int .i64 T, .int .i32 0, .int .i64 5, .int .i64 T, .int .i64 A, .int .i64 T, .int .i32 0, .int .i64 15, .int .i64 T, .int .i64 T, .int .i64 0, .int .i32 30, .int .i64 13, .int .i64 T, .int .i64 T, .int .i64 0, .int .i32 1, .int .i64 15, .int .i64 T, .int .i64 T, .int .i64 0, .int .i32 1, .int .i64 14, .int .i64 ((T : Int) + 1), .int .i64 ((T : Int) + 1), .int .i64 0, .int .i32 1, .int .i64 3, .int .i64 D, .int .i64 ((T : Int) + 1), .int .i64 T, .int .i32 0]
def a2 (D : Nat) (s : Int) : Array Value := #[.int .i64 13, .int .i64 D, .int .i64 D, .int .i64 0, .int .i32 (wrap32 (2 ^ (s.toNat - 1))), .int .i64 16, .int .i64 D, .int .i64 D, .int .i64 0, .int .i32 s]
theorem own_steps {w : World} {base : Nat} {e : TypeId} {v : Value} {n : Nat} {l : List Q5} (h : w.ownsRow base e 5 v n (flat l)) (hn : n = l.length) (h1 : 1 ≤ n) (hl : l.length ≤ 1000000000000) :
    ∃ g c, v = .slice (some ⟨g, 0, none⟩) l.length c ∧ L5 w (some ⟨g, 0, none⟩) l ∧ base ≤ g ∧ g < w.heap.size := by
  subst hn
  have hlt := h.lt
  have h' := h
  obtain ⟨_, ⟨hv, hn⟩ | ⟨g, cap, cur, hv, hg, hh, hc, hcm, _⟩⟩ := h
  · omega
  · refine ⟨g, cap, hv, l5_mk hl (hlt g (by rw [hv]; rfl)).2 ?_, hg, (hlt g (by rw [hv]; rfl)).2⟩
    intro j u hj
    have := h'.cells (g := g) (by rw [hv]; rfl) j u hj
    rw [add_at] at this
    exact this
set_option maxRecDepth 100000 in
set_option maxHeartbeats 4000000 in
theorem steps_pos (D A T : Nat) (m s : Int) (w : World) (h : canqS D A T s = true) (hs : ¬ s = 0) : Calls Try.prog 14 #[.int .i64 D, .int .i64 A, .int .i64 T, .int .i32 m, .int .i64 s] w (StepsIn (stepsQ D A T m s) w) := by
  rw [canqS_ap] at h
  have h1 : apS (D : Int) (T : Int) = true := by revert h; cases apS (D : Int) (T : Int) <;> simp
  have h2 : apS (A : Int) (T : Int) = true := by revert h; cases apS (A : Int) (T : Int) <;> simp
  have hT : 0 ≤ (T : Int) ∧ (T : Int) < 64 := by unfold apS at h1; simp at h1; exact varB_t h1.2.1
  have h0 : (decide (0 ≤ s) && decide (s ≤ 31)) = true := by revert h; cases (decide (0 ≤ s) && decide (s ≤ 31)) <;> simp
  have hsb : 0 ≤ s ∧ s ≤ 31 := by simpa using h0
  have t1 : decide (0 < s) = true := by simp; omega
  have uT := IntWalk.i64_in ((T : Int) + 1) (by omega)
  have us := IntWalk.i64_in (s - 1) (by omega)
  have ui : IntKind.i32.wrap s = s := by rw [IntKind.wrap_i32]; omega
  have HS := Lib.hid hs
  have PB := pow_bd30 (y := (s - 1).toNat) (by omega)
  have up : IntKind.i32.wrap (2 ^ (s - 1).toNat) = 2 ^ (s - 1).toNat := by rw [IntKind.wrap_i32]; omega
  have sn : ¬ s - 1 < 0 := by omega
  have sn2 : decide (s - 1 < 0) = false := by simp; omega
  have s32 : decide (s - 1 < 32) = true := by simp; omega
  obtain ⟨i0, hi, hz0, hz1, hz2⟩ := info_parts info_lop
  clear h hs
  have OWN := Lib.hid ((World.ownsRow_lit (base := w.heap.size) (size := 5) (e := 29) w (a8 D A T m) 8 (Nat.le_refl _) (by decide) rfl).alloc (.cells (a2 D s) 29))
  have NW := Lib.hid (show ∀ j u, (a2 D s).toList[j]? = some u → ((w.alloc (.cells (a8 D A T m) 29)).alloc (.cells (a2 D s) 29)).cell? ((⟨w.heap.size + 1, 0, none⟩ : Addr).add j) = some u from fun j u h => by
    have e1 : (⟨w.heap.size + 1, 0, none⟩ : Addr).add j = ⟨(w.alloc (.cells (a8 D A T m) 29)).heap.size, j, none⟩ := by unfold Addr.add; split <;> simp_all
    rw [e1, World.cell?_alloc_new]
    simpa using h)
  have BL := Lib.hid (show Below w.heap.size w ((w.alloc (.cells (a8 D A T m) 29)).alloc (.cells (a2 D s) 29)) by go_grown)
  have ONE2 := Lib.hid (show ∀ u ∈ (a2 D s).toList, u.oneCell' = true from flat_one [⟨13, D, D, 0, wrap32 (2 ^ (s.toNat - 1))⟩, ⟨16, D, D, 0, s⟩])
  have FL := Lib.hid (show (a8 D A T m).toList ++ (a2 D s).toList = flat (stepsQ D A T m s) by
    rw [stepsQ_some D A T m HS.out, flat_app, show (2 : Int) ^ (s - 1).toNat = wrap32 (2 ^ (s.toNat - 1)) by rw [show (s - 1).toNat = s.toNat - 1 by omega] at PB ⊢; unfold wrap32; omega]
    rfl)
  have LN := Lib.hid (show 10 = (stepsQ D A T m s).length by rw [stepsQ_some D A T m HS.out]; rfl)
  clear PB up
  go_enter Try.func14, Try.ntmps14
  go_wp2_with (first | (go_at_call 36; refine (isShift_any _ _).mono ?_; rintro e w9 ⟨rfl, rfl⟩) | (go_at_call 37; refine (apart_any _ _ _).mono ?_; rintro e w9 ⟨rfl, rfl⟩) | (at_builtin; go_loud (refine wpList_append_own ((w.alloc (.cells (a8 D A T m) 29)).alloc (.cells (a2 D s) 29)) rfl (.tmp 60) (.tmp 72) 27 rfl w.heap.size 29 i0 (.agg #[.int .i64 0, .int .i64 0, .int .i64 0, .int .i64 0, .int .i32 0]) 5 40 Try.underlying27 hi hz0 hz1 hz2 rfl (by decide) (.slice (some ⟨w.heap.size, 0, none⟩) 8 8) 8 (a8 D A T m).toList rfl OWN.out ⟨w.heap.size + 1, 0, none⟩ 2 2 (a2 D s).toList rfl rfl NW.out ONE2.out (by decide) (by decide) BL.out.size ?_); intro v1 w1 hown hg hn))
  go_ret
  have b1 := below_grown BL.out hg (fun k hk => by cases hk; exact Nat.le_refl _)
  rw [FL.out] at hown
  obtain ⟨g, cap, rfl, h5, hge, hlt⟩ := own_steps hown LN.out (by omega) (by rw [← LN.out]; omega)
  exact ⟨g, cap, rfl, h5, hge, hlt, b1⟩
theorem steps_some (D A T : Nat) (m s : Int) (w : World) (h : canqS D A T s = true) : Calls Try.prog 14 #[.int .i64 D, .int .i64 A, .int .i64 T, .int .i32 m, .int .i64 s] w (StepsIn (stepsQ D A T m s) w) := by
  by_cases hs : s = 0
  · subst hs; exact steps_zero D A T m w h
  · exact steps_pos D A T m s w h hs
end Go.Proofs.Ytghclbeoabkgcaa
