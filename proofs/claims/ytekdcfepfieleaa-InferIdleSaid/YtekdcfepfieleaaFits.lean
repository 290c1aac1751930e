/- infer.Fits, and the document's: what they tell of any three numbers. -/
import Derived.Test.YtekdcfepfieleaaTensor
import Derived.Deep.RegionHeld3
namespace Go.Proofs.Ytekdcfepfieleaa
open Go Go.RowKit Pl
set_option linter.unusedVariables false
theorem good_b (x y z : Int) (w : World) : Calls Try.prog 12 #[.agg #[.int .i64 x, .int .i64 y, .int .i64 z]] w fun e w' => e = .returned (.bool (goodB x y z)) ∧ Below w.heap.size w w' :=
  (good_any x y z w).mono fun e w' ⟨h, g⟩ => ⟨h, by subst g; go_grown⟩
theorem ref_good_b (x y z : Int) (w : World) : Calls Try.prog 8 #[.agg #[.int .i64 x, .int .i64 y, .int .i64 z]] w fun e w' => e = .returned (.bool (goodB x y z)) ∧ Below w.heap.size w w' :=
  (ref_good x y z w).mono fun e w' ⟨h, g⟩ => ⟨h, by subst g; go_grown⟩
/-- 0: no number below 1, and good; 1: a number below 1; 2: too great -/
def fitsN (x y z : Int) : Nat := if x < 1 ∨ y < 1 ∨ z < 1 then 1 else if goodB x y z then 0 else 2
def errOf : Nat → Int
  | 0 => 0
  | 1 => 10
  | _ => 12
theorem fitsN_1 {x y z : Int} (h : x < 1 ∨ y < 1 ∨ z < 1) : errOf (fitsN x y z) = 10 := by simp [fitsN, h, errOf]
theorem fitsN_0 {x y z : Int} (h : ¬ (x < 1 ∨ y < 1 ∨ z < 1)) (g : goodB x y z = true) : errOf (fitsN x y z) = 0 := by simp [fitsN, h, g, errOf]
theorem fitsN_2 {x y z : Int} (h : ¬ (x < 1 ∨ y < 1 ∨ z < 1)) (g : goodB x y z = false) : errOf (fitsN x y z) = 12 := by simp [fitsN, h, g, errOf]
theorem ret_k {k : IntKind} {a b : Int} (h : a = b) : Ending.returned (.int k a) = .returned (.int k b) := by rw [h]
set_option maxHeartbeats 1000000 in
theorem fits_any (x y z : Int) (w : World) :
    Calls Try.prog 10 #[.agg #[.int .i64 x, .int .i64 y, .int .i64 z]] w fun e w' => e = .returned (.int .i64 (errOf (fitsN x y z))) ∧ Below w.heap.size w w' := by
  have i0 : ∀ w, (Instr.index 22 (.agg #[.int .i64 x, .int .i64 y, .int .i64 z]) (.int .i64 0)).run Try.prog w = .ok (.int .i64 x) w := fun _ => by kernel_rfl
  have i1 : ∀ w, (Instr.index 22 (.agg #[.int .i64 x, .int .i64 y, .int .i64 z]) (.int .i64 1)).run Try.prog w = .ok (.int .i64 y) w := fun _ => by kernel_rfl
  have i2 : ∀ w, (Instr.index 22 (.agg #[.int .i64 x, .int .i64 y, .int .i64 z]) (.int .i64 2)).run Try.prog w = .ok (.int .i64 z) w := fun _ => by kernel_rfl
  have G := Lib.hid (good_b x y z)
  have F1 := Lib.hid (@fitsN_1 x y z)
  have F0 := Lib.hid (@fitsN_0 x y z)
  have F2 := Lib.hid (@fitsN_2 x y z)
  generalize errOf (fitsN x y z) = r at F1 F0 F2
  cases hg : goodB x y z
  all_goals
    rw [hg] at G F0 F2
    clear hg
    go_enter Try.func10, Try.ntmps10
    go_wp2_with (first | (go_at_call 12; refine (G.out _).mono ?_; rintro e w1 ⟨rfl, hb⟩))
    refine wp_loop_rounds 4 ?_
    repeat any_goals (rw [rounds_succ]; go_wp2_with (first | (go_at_call 12; refine (G.out _).mono ?_; rintro e w1 ⟨rfl, hb⟩)))
    all_goals (try go_wp2_with (first | (go_at_call 12; refine (G.out _).mono ?_; rintro e w1 ⟨rfl, hb⟩)))
    all_goals go_ret
    all_goals first | exact ⟨ret_k (F1.out (by omega)).symm, by go_grown⟩ | exact ⟨ret_k (F0.out (by omega) (by trivial)).symm, ((Below.refl _ _).alloc (Nat.le_refl _) _).trans (hb.mono (by simp))⟩ | exact ⟨ret_k (F2.out (by omega) (by trivial)).symm, ((Below.refl _ _).alloc (Nat.le_refl _) _).trans (hb.mono (by simp))⟩ | trace_state
end Go.Proofs.Ytekdcfepfieleaa
