/- Contracts of quant.Clamps, quant.Steps and what the document tells of them. -/
import Derived.Test.YtghclbeoabkgcaaQuantf
import Derived.Test.YtghclbeoabkgcaaOpen
import Derived.Test.YtghclbeoabkgcaaFive
import Derived.WalkSpells
import Derived.Laws.StructEq
import Derived.Deep.QuietTactic
import Derived.OwnWalk
import Derived.Deep.OwnRows
import Derived.BigRegion
namespace Go.Proofs.Ytghclbeoabkgcaa
open Go Go.RowKit Pl
set_option linter.unusedVariables false

def varB (n : Int) : Bool := decide (0 ≤ n) && decide (n < 64)
def apS (v t : Int) : Bool := varB v && (varB t && (varB (t + 1) && ((v != t) && (v != t + 1))))
theorem varB_t {n : Int} (h : varB n = true) : 0 ≤ n ∧ n < 64 := by unfold varB at h; simpa using h
theorem varB_mk {n : Int} (h : 0 ≤ n ∧ n < 64) : varB n = true := by unfold varB; simpa using h
theorem var_any (n : Int) (w : World) : Calls Try.prog 67 #[.int .i64 n] w fun e w' => e = .returned (.bool (varB n)) ∧ w = w' := by
  unfold varB
  cases h : decide (0 ≤ n)
  all_goals
    go_enter Try.func67, Try.ntmps67
    go_wp2
    go_ret
    exact ⟨rfl, rfl⟩
theorem apart_any (v t : Int) (w : World) : Calls Try.prog 37 #[.int .i64 v, .int .i64 t] w fun e w' => e = .returned (.bool (apS v t)) ∧ w = w' := by
  unfold apS
  cases h1 : varB v
  · (go_enter Try.func37, Try.ntmps37; go_wp2_with ((go_at_call 67; refine (var_any _ _).mono ?_; rintro e w9 ⟨rfl, rfl⟩)); go_ret; first | exact ⟨rfl, rfl⟩ | exact ⟨by simp, rfl⟩)
  · skip
    cases h2 : varB t
    · (go_enter Try.func37, Try.ntmps37; go_wp2_with ((go_at_call 67; refine (var_any _ _).mono ?_; rintro e w9 ⟨rfl, rfl⟩)); go_ret; first | exact ⟨rfl, rfl⟩ | exact ⟨by simp, rfl⟩)
    · skip
      have b2 := varB_t h2
      have u2 := IntWalk.i64_in (t + 1) (by omega)
      cases h3 : varB (t + 1)
      · (go_enter Try.func37, Try.ntmps37; go_wp2_with ((go_at_call 67; refine (var_any _ _).mono ?_; rintro e w9 ⟨rfl, rfl⟩)); go_ret; first | exact ⟨rfl, rfl⟩ | exact ⟨by simp, rfl⟩)
      · skip
        cases h4 : (v != t)
        · (go_enter Try.func37, Try.ntmps37; go_wp2_with ((go_at_call 67; refine (var_any _ _).mono ?_; rintro e w9 ⟨rfl, rfl⟩)); go_ret; first | exact ⟨rfl, rfl⟩ | exact ⟨by simp, rfl⟩)
        · skip
          cases h5 : (v != t + 1)
          · (go_enter Try.func37, Try.ntmps37; go_wp2_with ((go_at_call 67; refine (var_any _ _).mono ?_; rintro e w9 ⟨rfl, rfl⟩)); go_ret; first | exact ⟨rfl, rfl⟩ | exact ⟨by simp, rfl⟩)
          · skip
            (go_enter Try.func37, Try.ntmps37; go_wp2_with ((go_at_call 67; refine (var_any _ _).mono ?_; rintro e w9 ⟨rfl, rfl⟩)); go_ret; first | exact ⟨rfl, rfl⟩ | exact ⟨by simp, rfl⟩)
def varsS (a b c : Int) : Bool := decide (0 ≤ a) && (decide (a < 64) && (decide (0 ≤ b) && (decide (b < 64) && (decide (0 ≤ c) && (decide (c < 64) && ((a != b) && ((b != c) && (c != a))))))))
set_option maxHeartbeats 1000000 in
theorem vars_any (a b c : Int) (w : World) : Calls Try.prog 33 #[.int .i64 a, .int .i64 b, .int .i64 c] w fun e w' => e = .returned (.bool (varsS a b c)) ∧ w = w' := by
  unfold varsS
  cases pa : decide (0 ≤ a)
  · (go_enter Try.func33, Try.ntmps33; go_wp2_with fail; go_ret; first | exact ⟨rfl, rfl⟩ | exact ⟨by simp, rfl⟩)
  · skip
    cases qa : decide (a < 64)
    · (go_enter Try.func33, Try.ntmps33; go_wp2_with fail; go_ret; first | exact ⟨rfl, rfl⟩ | exact ⟨by simp, rfl⟩)
    · skip
      cases pb : decide (0 ≤ b)
      · (go_enter Try.func33, Try.ntmps33; go_wp2_with fail; go_ret; first | exact ⟨rfl, rfl⟩ | exact ⟨by simp, rfl⟩)
      · skip
        cases qb : decide (b < 64)
        · (go_enter Try.func33, Try.ntmps33; go_wp2_with fail; go_ret; first | exact ⟨rfl, rfl⟩ | exact ⟨by simp, rfl⟩)
        · skip
          cases pc : decide (0 ≤ c)
          · (go_enter Try.func33, Try.ntmps33; go_wp2_with fail; go_ret; first | exact ⟨rfl, rfl⟩ | exact ⟨by simp, rfl⟩)
          · skip
            cases qc : decide (c < 64)
            · (go_enter Try.func33, Try.ntmps33; go_wp2_with fail; go_ret; first | exact ⟨rfl, rfl⟩ | exact ⟨by simp, rfl⟩)
            · skip
              cases h4 : (a != b)
              · (go_enter Try.func33, Try.ntmps33; go_wp2_with fail; go_ret; first | exact ⟨rfl, rfl⟩ | exact ⟨by simp, rfl⟩)
              · skip
                cases h5 : (b != c)
                · (go_enter Try.func33, Try.ntmps33; go_wp2_with fail; go_ret; first | exact ⟨rfl, rfl⟩ | exact ⟨by simp, rfl⟩)
                · skip
                  cases h6 : (c != a)
                  · (go_enter Try.func33, Try.ntmps33; go_wp2_with fail; go_ret; first | exact ⟨rfl, rfl⟩ | exact ⟨by simp, rfl⟩)
                  · skip
                    (go_enter Try.func33, Try.ntmps33; go_wp2_with fail; go_ret; first | exact ⟨rfl, rfl⟩ | exact ⟨by simp, rfl⟩)
def boundsS (d t lo hi : Int) : Bool := decide (t < 63) && (varsS d t (t + 1) && (decide (lo ≤ hi) && (decide (-536870912 ≤ lo) && decide (hi ≤ 536870912))))
set_option maxHeartbeats 1000000 in
theorem bounds_any (d t lo hi : Int) (w : World) (ht : -9223372036854775808 ≤ t ∧ t ≤ 9223372036854775807) : Calls Try.prog 12 #[.int .i64 d, .int .i64 t, .int .i32 lo, .int .i32 hi] w fun e w' => e = .returned (.bool (boundsS d t lo hi)) ∧ w = w' := by
  unfold boundsS
  cases h1 : decide (t < 63)
  · (go_enter Try.func12, Try.ntmps12; go_wp2_with ((go_at_call 33; refine (vars_any _ _ _ _).mono ?_; rintro e w9 ⟨rfl, rfl⟩)); go_ret; first | exact ⟨rfl, rfl⟩ | exact ⟨by simp, rfl⟩)
  · skip
    have u2 := IntWalk.i64_in (t + 1) (by simp at h1; omega)
    cases h2 : varsS d t (t + 1)
    · (go_enter Try.func12, Try.ntmps12; go_wp2_with ((go_at_call 33; refine (vars_any _ _ _ _).mono ?_; rintro e w9 ⟨rfl, rfl⟩)); go_ret; first | exact ⟨rfl, rfl⟩ | exact ⟨by simp, rfl⟩)
    · skip
      cases h3 : decide (lo ≤ hi)
      · (go_enter Try.func12, Try.ntmps12; go_wp2_with ((go_at_call 33; refine (vars_any _ _ _ _).mono ?_; rintro e w9 ⟨rfl, rfl⟩)); go_ret; first | exact ⟨rfl, rfl⟩ | exact ⟨by simp, rfl⟩)
      · skip
        cases h4 : decide (-536870912 ≤ lo)
        · (go_enter Try.func12, Try.ntmps12; go_wp2_with ((go_at_call 33; refine (vars_any _ _ _ _).mono ?_; rintro e w9 ⟨rfl, rfl⟩)); go_ret; first | exact ⟨rfl, rfl⟩ | exact ⟨by simp, rfl⟩)
        · skip
          cases h5 : decide (hi ≤ 536870912)
          · (go_enter Try.func12, Try.ntmps12; go_wp2_with ((go_at_call 33; refine (vars_any _ _ _ _).mono ?_; rintro e w9 ⟨rfl, rfl⟩)); go_ret; first | exact ⟨rfl, rfl⟩ | exact ⟨by simp, rfl⟩)
          · skip
            (go_enter Try.func12, Try.ntmps12; go_wp2_with ((go_at_call 33; refine (vars_any _ _ _ _).mono ?_; rintro e w9 ⟨rfl, rfl⟩)); go_ret; first | exact ⟨rfl, rfl⟩ | exact ⟨by simp, rfl⟩)
def canqS (d a t s : Int) : Bool := decide (t < 63) && (decide (0 ≤ s) && (decide (s ≤ 31) && (varsS d t (t + 1) && varsS a t (t + 1))))
set_option maxHeartbeats 1000000 in
theorem canq_any (d a t s : Int) (w : World) (ht : -9223372036854775808 ≤ t ∧ t ≤ 9223372036854775807) : Calls Try.prog 11 #[.int .i64 d, .int .i64 a, .int .i64 t, .int .i64 s] w fun e w' => e = .returned (.bool (canqS d a t s)) ∧ w = w' := by
  unfold canqS
  cases h1 : decide (t < 63)
  · (go_enter Try.func11, Try.ntmps11; go_wp2_with ((go_at_call 33; refine (vars_any _ _ _ _).mono ?_; rintro e w9 ⟨rfl, rfl⟩)); go_ret; first | exact ⟨rfl, rfl⟩ | exact ⟨by simp, rfl⟩)
  · skip
    have u2 := IntWalk.i64_in (t + 1) (by simp at h1; omega)
    cases h2 : decide (0 ≤ s)
    · (go_enter Try.func11, Try.ntmps11; go_wp2_with ((go_at_call 33; refine (vars_any _ _ _ _).mono ?_; rintro e w9 ⟨rfl, rfl⟩)); go_ret; first | exact ⟨rfl, rfl⟩ | exact ⟨by simp, rfl⟩)
    · skip
      cases h3 : decide (s ≤ 31)
      · (go_enter Try.func11, Try.ntmps11; go_wp2_with ((go_at_call 33; refine (vars_any _ _ _ _).mono ?_; rintro e w9 ⟨rfl, rfl⟩)); go_ret; first | exact ⟨rfl, rfl⟩ | exact ⟨by simp, rfl⟩)
      · skip
        cases h4 : varsS d t (t + 1)
        · (go_enter Try.func11, Try.ntmps11; go_wp2_with ((go_at_call 33; refine (vars_any _ _ _ _).mono ?_; rintro e w9 ⟨rfl, rfl⟩)); go_ret; first | exact ⟨rfl, rfl⟩ | exact ⟨by simp, rfl⟩)
        · skip
          cases h5 : varsS a t (t + 1)
          · (go_enter Try.func11, Try.ntmps11; go_wp2_with ((go_at_call 33; refine (vars_any _ _ _ _).mono ?_; rintro e w9 ⟨rfl, rfl⟩)); go_ret; first | exact ⟨rfl, rfl⟩ | exact ⟨by simp, rfl⟩)
          · skip
            (go_enter Try.func11, Try.ntmps11; go_wp2_with ((go_at_call 33; refine (vars_any _ _ _ _).mono ?_; rintro e w9 ⟨rfl, rfl⟩)); go_ret; first | exact ⟨rfl, rfl⟩ | exact ⟨by simp, rfl⟩)
theorem boundsS_ap (d t lo hi : Int) : boundsS d t lo hi = (apS d t && (!decide (hi < lo) && (!decide (lo < -536870912) && !decide (536870912 < hi)))) := by
  unfold boundsS varsS apS varB
  rw [Bool.eq_iff_iff]
  simp
  omega
/-- a slice of steps in a block of the call's own -/
def StepsIn (l : List Q5) (w : World) (e : Ending) (w' : World) : Prop := ∃ b c, e = .returned (.slice (some ⟨b, 0, none⟩) l.length c) ∧ L5 w' (some ⟨b, 0, none⟩) l ∧ w.heap.size ≤ b ∧ b < w'.heap.size ∧ Below w.heap.size w w'
theorem negW {x : Int} (h : -536870912 ≤ x ∧ x ≤ 536870912) : IntKind.i32.wrap (-x) = -x := by rw [IntKind.wrap_i32]; omega
theorem clamps_len (D T : Nat) (lo hi : Int) : (clampsQ D T lo hi).length = 8 := rfl
set_option maxRecDepth 100000 in
set_option maxHeartbeats 2000000 in
theorem clamps_none (d t lo hi : Int) (w : World) (h : boundsS d t lo hi = false) : Calls Try.prog 16 #[.int .i64 d, .int .i64 t, .int .i32 lo, .int .i32 hi] w fun e w' => e = .returned (.slice none 0 0) ∧ w = w' := by
  rw [boundsS_ap] at h
  cases h1 : apS d t
  · (go_enter Try.func16, Try.ntmps16; go_wp2_with ((go_at_call 37; refine (apart_any _ _ _).mono ?_; rintro e w9 ⟨rfl, rfl⟩)); go_ret; exact ⟨rfl, rfl⟩)
  · skip
    cases h2 : decide (hi < lo)
    · skip
      cases h3 : decide (lo < -536870912)
      · skip
        cases h4 : decide (536870912 < hi)
        · skip
          (rw [h1, h2, h3, h4] at h; cases h)
        · (go_enter Try.func16, Try.ntmps16; go_wp2_with ((go_at_call 37; refine (apart_any _ _ _).mono ?_; rintro e w9 ⟨rfl, rfl⟩)); go_ret; exact ⟨rfl, rfl⟩)
      · (go_enter Try.func16, Try.ntmps16; go_wp2_with ((go_at_call 37; refine (apart_any _ _ _).mono ?_; rintro e w9 ⟨rfl, rfl⟩)); go_ret; exact ⟨rfl, rfl⟩)
    · (go_enter Try.func16, Try.ntmps16; go_wp2_with ((go_at_call 37; refine (apart_any _ _ _).mono ?_; rintro e w9 ⟨rfl, rfl⟩)); go_ret; exact ⟨rfl, rfl⟩)
set_option maxRecDepth 100000 in
set_option maxHeartbeats 2000000 in
theorem clamps_some (D T : Nat) (lo hi : Int) (w : World) (h : boundsS D T lo hi = true) : Calls Try.prog 16 #[.int .i64 D, .int .i64 T, .int .i32 lo, .int .i32 hi] w (StepsIn (clampsQ D T lo hi) w) := by
  rw [boundsS_ap] at h
  have hA : apS (D : Int) (T : Int) = true := by revert h; cases apS (D : Int) (T : Int) <;> simp
  rw [hA] at h
  have t1 : decide (hi < lo) = false := by revert h; cases decide (hi < lo) <;> simp
  have t2 : decide (lo < -536870912) = false := by revert h; cases decide (lo < -536870912) <;> simp
  have t3 : decide (536870912 < hi) = false := by revert h; cases decide (536870912 < hi) <;> simp
  have hb : -536870912 ≤ lo ∧ lo ≤ hi ∧ hi ≤ 536870912 := by simp at t1 t2 t3; omega
  have n1 := negW (x := lo) (by omega)
  have n2 : IntKind.i32.wrap (lo - hi) = lo - hi := by rw [IntKind.wrap_i32]; omega
  clear h
  go_enter Try.func16, Try.ntmps16
  go_wp2_with ((go_at_call 37; refine (apart_any _ _ _).mono ?_; rintro e w9 ⟨rfl, rfl⟩))
  go_ret
  exact ⟨w.heap.size, 8, rfl, l5_lit w _ (clampsQ D T lo hi) _ rfl _ rfl (by rw [clamps_len]; omega), Nat.le_refl _, by simp, (Below.refl _ _).alloc (Nat.le_refl _) _⟩
end Go.Proofs.Ytghclbeoabkgcaa
