/- Package flow: target, Back; the document's Goes; the law's few. -/
import Derived.Test.YtmlhoagcppofgaaDoorFlW
import Derived.Test.YtmlhoagcppofgaaDoorInstT
namespace Go.Proofs.YtmlhoagcppofgaaDoor
open Go Go.RowKit Pl
set_option linter.unusedVariables false

set_option maxHeartbeats 2000000 in
theorem target_no (i : Nat) (o d u v im : Int) (W : World) (i0 : -2147483648 ≤ im) (i1 : im ≤ 2147483647) (h : ¬ (aimO o = true ∧ im % 4 = 0)) :
    Calls Tryd.prog 24 #[.int .i64 (i : Nat), .agg #[.int .i64 o, .int .i64 d, .int .i64 u, .int .i64 v, .int .i32 im]] W fun e w' => e = .returned (.tuple #[.int .i64 0, .bool false]) ∧ Below W.heap.size W w' := by
  have hm : im.tmod 4 = 0 ↔ im % 4 = 0 := by
    constructor
    · intro g; exact Int.emod_eq_zero_of_dvd (Int.dvd_of_tmod_eq_zero g)
    · intro g; exact Int.tmod_eq_zero_of_dvd (Int.dvd_of_emod_eq_zero g)
  by_cases ha : aimO o = true
  · have hb : im.tmod 4 ≠ 0 := fun g => h ⟨ha, hm.1 g⟩
    have t5 : (im.tmod 4 == 0) = false := by simp; exact hb
    have t6 : (im.tmod 4 != 0) = true := by simp; exact hb
    have ho := of_decide_eq_true ha
    clear h hb hm ha
    by_cases h44 : o = 44
    · subst h44
      go_enter Tryd.func24, Tryd.ntmps24
      go_wp2
      go_ret2
      exact ⟨rfl, by go_grown⟩
    · have t1 : decide (36 ≤ o) = true := by simp; omega
      have t1' : decide (o ≥ 36) = true := by simp; omega
      have t2 : decide (o ≤ 41) = true := by simp; omega
      clear ho h44
      go_enter Tryd.func24, Tryd.ntmps24
      go_wp2
      go_ret2
      exact ⟨rfl, by go_grown⟩
  · have ho : ¬ ((36 ≤ o ∧ o ≤ 41) ∨ o = 44) := fun g => ha (decide_eq_true g)
    have t3 : (o == 44) = false := by simp; omega
    have t4 : (o != 44) = true := by simp; omega
    clear h hm ha
    by_cases h36 : 36 ≤ o
    · have t1 : decide (36 ≤ o) = true := by simp; omega
      have t2 : decide (o ≤ 41) = false := by simp; omega
      clear ho
      go_enter Tryd.func24, Tryd.ntmps24
      go_wp2
      go_ret2
      exact ⟨rfl, by go_grown⟩
    · have t1 : decide (36 ≤ o) = false := by simp; omega
      clear ho
      go_enter Tryd.func24, Tryd.ntmps24
      go_wp2
      go_ret2
      exact ⟨rfl, by go_grown⟩
set_option maxHeartbeats 2000000 in
theorem target_yes (i : Nat) (o d u v im : Int) (k : Int) (W : World) (hi : i ≤ 1000) (i0 : -2147483648 ≤ im) (i1 : im ≤ 2147483647) (h : aimO o = true) (h4 : im % 4 = 0) (hk : (i : Int) + im / 4 = k) :
    Calls Tryd.prog 24 #[.int .i64 (i : Nat), .agg #[.int .i64 o, .int .i64 d, .int .i64 u, .int .i64 v, .int .i32 im]] W fun e w' => e = .returned (.tuple #[.int .i64 k, .bool true]) ∧ Below W.heap.size W w' := by
  have hm : im.tmod 4 = 0 := Int.tmod_eq_zero_of_dvd (Int.dvd_of_emod_eq_zero h4)
  have hq : im.tdiv 4 = im / 4 := Int.tdiv_eq_ediv_of_dvd (Int.dvd_of_emod_eq_zero h4)
  have t5 : (im.tmod 4 == 0) = true := by simp; exact hm
  have t6 : (im.tmod 4 != 0) = false := by simp; exact hm
  have t7 : IntKind.i64.wrap (im.tdiv 4) = im.tdiv 4 := IntWalk.i64_in _ (by omega)
  have t8 : (i : Int) + im.tdiv 4 = k := by rw [hq]; exact hk
  have t9 : IntKind.i64.wrap k = k := IntWalk.i64_in _ (by omega)
  have T8 := Lib.hid (show wrap64 ((i : Int) + im.tdiv 4) = k by rw [t8]; exact IntWalk.wrap64_in _ (by omega))
  have ho := of_decide_eq_true h
  clear hm hq h4 hk h t8
  by_cases h44 : o = 44
  · subst h44
    go_enter Tryd.func24, Tryd.ntmps24
    go_wp2
    go_ret2
    exact ⟨T8.out ▸ rfl, by go_grown⟩
  · have t1 : decide (36 ≤ o) = true := by simp; omega
    have t2 : decide (o ≤ 41) = true := by simp; omega
    clear ho h44
    go_enter Tryd.func24, Tryd.ntmps24
    go_wp2
    go_ret2
    exact ⟨T8.out ▸ rfl, by go_grown⟩
end Go.Proofs.YtmlhoagcppofgaaDoor
