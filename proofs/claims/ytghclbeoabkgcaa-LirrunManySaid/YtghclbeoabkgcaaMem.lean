/- Contracts of package mem and pintleref05 on targets: which can be; a new memory. -/
import Derived.Test.YtghclbeoabkgcaaProg
import Derived.WalkSpells
import Derived.WalkSmall
import Derived.Handy
import Derived.Lib.Hide
import Derived.BigQuiet
import Derived.OwnWalk
import Derived.Laws.StructEq
import Derived.Deep.QuietTactic
import Derived.Deep.OwnRows
import Derived.Deep.RegionHeld3
namespace Go.Proofs.Ytghclbeoabkgcaa
open Go Go.RowKit
set_option linter.unusedVariables false

theorem ret_boolM {a b : Bool} (h : a = b) : Ending.returned (.bool a) = .returned (.bool b) := by rw [h]
def oneB (a s : Int) : Bool := decide (a % 4 = 0 ∧ s % 4 = 0 ∧ 4 ≤ s ∧ s ≤ 1048576 ∧ a + s ≤ 4294967296)
def canM (f fs r rs : Int) : Bool := oneB f fs && oneB r rs && (decide (f + fs ≤ r) || decide (r + rs ≤ f))
theorem oneB_out {a s : Int} (h : oneB a s = true) : a % 4 = 0 ∧ s % 4 = 0 ∧ 4 ≤ s ∧ s ≤ 1048576 ∧ a + s ≤ 4294967296 := of_decide_eq_true h

set_option maxHeartbeats 400000 in
theorem end_any (a s : Int) (w : World) (ha : 0 ≤ a ∧ a < 4294967296) (hs : 0 ≤ s ∧ s < 4294967296) : Calls Try.prog 93 #[.int .u32 a, .int .u32 s] w fun e w' => e = .returned (.int .u64 (a + s)) ∧ w = w' := by
  go_enter Try.func93, Try.ntmps93
  go_wp2
  go_ret
  exact ⟨rfl, rfl⟩

theorem end_q (a s : Int) (w : World) (n : Nat) (ha : 0 ≤ a ∧ a < 4294967296) (hs : 0 ≤ s ∧ s < 4294967296) : Calls Try.prog 93 #[.int .u32 a, .int .u32 s] (w.drewN n) fun e w' => e = .returned (.int .u64 (a + s)) ∧ ∃ m, w' = w.drewN m :=
  (end_any a s _ ha hs).mono fun e w' ⟨he, hm⟩ => ⟨he, n, hm.symm⟩

set_option maxHeartbeats 400000 in
theorem sized_any (a s : Int) (w : World) (ha : 0 ≤ a ∧ a < 4294967296) (hs : 0 ≤ s ∧ s < 4294967296) : Calls Try.prog 92 #[.int .u32 a, .int .u32 s] w fun e w' => e = .returned (.bool (oneB a s)) ∧ w = w' := by
  by_cases h0 : a % 4 = 0
  · have t0 : (a % 4 == 0) = true := by simp; omega
    by_cases h1 : s % 4 = 0
    · have t1 : (s % 4 == 0) = true := by simp; omega
      by_cases h2 : 4 ≤ s
      · have t2 : (decide (4 ≤ s)) = true := by simp; omega
        by_cases h3 : s ≤ 1048576
        · have t3 : (decide (s ≤ 1048576)) = true := by simp; omega
          by_cases h4 : a + s ≤ 4294967296
          · have t4 : (decide (a + s ≤ 4294967296)) = true := by simp; omega
            have e : oneB a s = true := decide_eq_true (by omega)
            rw [e]
            clear e h0 h1 h2 h3 h4
            go_enter Try.func92, Try.ntmps92
            go_wp2_with fail
            refine (end_any a s _ ha hs).mono ?_
            rintro e w1 ⟨rfl, rfl⟩
            go_wp2_with fail
            go_ret
            exact ⟨rfl, rfl⟩
          · have e : oneB a s = false := decide_eq_false (by omega)
            rw [e]
            have t4 : (decide (a + s ≤ 4294967296)) = false := by simp; omega
            clear e h0 h1 h2 h3 h4
            go_enter Try.func92, Try.ntmps92
            go_wp2_with fail
            refine (end_any a s _ ha hs).mono ?_
            rintro e w1 ⟨rfl, rfl⟩
            go_wp2_with fail
            go_ret
            exact ⟨rfl, rfl⟩
        · have e : oneB a s = false := decide_eq_false (by omega)
          rw [e]
          have t3 : (decide (s ≤ 1048576)) = false := by simp; omega
          clear e h0 h1 h2 h3
          go_enter Try.func92, Try.ntmps92
          go_wp2_with fail
          go_ret
          exact ⟨rfl, rfl⟩
      · have e : oneB a s = false := decide_eq_false (by omega)
        rw [e]
        have t2 : (decide (4 ≤ s)) = false := by simp; omega
        clear e h0 h1 h2
        go_enter Try.func92, Try.ntmps92
        go_wp2_with fail
        go_ret
        exact ⟨rfl, rfl⟩
    · have e : oneB a s = false := decide_eq_false (by omega)
      rw [e]
      have t1 : (s % 4 == 0) = false := by simp; omega
      clear e h0 h1
      go_enter Try.func92, Try.ntmps92
      go_wp2_with fail
      go_ret
      exact ⟨rfl, rfl⟩
  · have e : oneB a s = false := decide_eq_false (by omega)
    rw [e]
    have t0 : (a % 4 == 0) = false := by simp; omega
    clear e h0
    go_enter Try.func92, Try.ntmps92
    go_wp2_with fail
    go_ret
    exact ⟨rfl, rfl⟩
set_option maxHeartbeats 1000000 in
theorem mcan_any (f fs r rs : Int) (w : World) (hf : 0 ≤ f ∧ f < 4294967296) (hfs : 0 ≤ fs ∧ fs < 4294967296) (hr : 0 ≤ r ∧ r < 4294967296) (hrs : 0 ≤ rs ∧ rs < 4294967296) : Calls Try.prog 77 #[.agg #[.int .u32 f, .int .u32 fs, .int .u32 r, .int .u32 rs]] w fun e w' => e = .returned (.bool (canM f fs r rs)) ∧ Below w.heap.size w w' := by
  have S1 := Lib.hid (sized_any f fs · hf hfs)
  have S2 := Lib.hid (sized_any r rs · hr hrs)
  cases h1 : oneB f fs
  · have E := Lib.hid (show canM f fs r rs = false by unfold canM; rw [h1]; rfl)
    have H1 := Lib.hid h1
    clear h1
    go_enter Try.func77, Try.ntmps77
    go_wp2_with fail
    refine (S1.out _).mono ?_
    rw [H1.out]
    rintro e w1 ⟨rfl, rfl⟩
    go_wp2_with fail
    go_ret
    exact ⟨ret_boolM E.out.symm, by go_grown⟩
  cases h2 : oneB r rs
  · have E := Lib.hid (show canM f fs r rs = false by unfold canM; rw [h1, h2]; rfl)
    have H1 := Lib.hid h1
    have H2 := Lib.hid h2
    clear h1 h2
    go_enter Try.func77, Try.ntmps77
    go_wp2_with fail
    refine (S1.out _).mono ?_
    rw [H1.out]
    rintro e w1 ⟨rfl, rfl⟩
    go_wp2_with fail
    refine (S2.out _).mono ?_
    rw [H2.out]
    rintro e w1 ⟨rfl, rfl⟩
    go_wp2_with fail
    go_ret
    exact ⟨ret_boolM E.out.symm, by go_grown⟩
  by_cases h3 : f + fs ≤ r
  · have E := Lib.hid (show canM f fs r rs = true by unfold canM; rw [h1, h2]; simp [h3])
    have H1 := Lib.hid h1
    have H2 := Lib.hid h2
    have t3 : decide (f + fs ≤ r) = true := by simp; omega
    clear h1 h2
    go_enter Try.func77, Try.ntmps77
    go_wp2_with fail
    refine (S1.out _).mono ?_
    rw [H1.out]
    rintro e w1 ⟨rfl, rfl⟩
    go_wp2_with fail
    refine (S2.out _).mono ?_
    rw [H2.out]
    rintro e w1 ⟨rfl, rfl⟩
    go_wp2_with fail
    obtain ⟨w1, hw1⟩ : ∃ w1, w1 = w.alloc (.cells #[.int .u32 f, .int .u32 fs, .int .u32 r, .int .u32 rs] 88) := ⟨_, rfl⟩
    have hS : w1.cell? ⟨w.heap.size, 0, none⟩ = some (.int .u32 f) ∧ w1.cell? ⟨w.heap.size, 1, none⟩ = some (.int .u32 fs) ∧ w1.cell? ⟨w.heap.size, 2, none⟩ = some (.int .u32 r) ∧ w1.cell? ⟨w.heap.size, 3, none⟩ = some (.int .u32 rs) ∧ w.heap.size < w1.heap.size ∧ Below w.heap.size w w1 := by
      subst hw1
      exact ⟨by simp, by simp, by simp, by simp, by simp, by go_grown⟩
    rw [← hw1]
    clear hw1
    have c0 := hS.1
    have c1 := hS.2.1
    have c2 := hS.2.2.1
    have c3 := hS.2.2.2.1
    have hz := hS.2.2.2.2.1
    have hB := Lib.hid hS.2.2.2.2.2
    clear hS
    go_quiet ((go_at_call 93; exact end_q _ _ _ _ (by omega) (by omega)))
    go_wp2_with fail
    go_ret
    exact ⟨ret_boolM E.out.symm, by first | exact hB.out | exact below_drewN hB.out _⟩
  · have E := Lib.hid (show canM f fs r rs = decide (r + rs ≤ f) by unfold canM; rw [h1, h2]; simp [h3])
    have H1 := Lib.hid h1
    have H2 := Lib.hid h2
    have t3 : decide (f + fs ≤ r) = false := by simp; omega
    clear h1 h2
    go_enter Try.func77, Try.ntmps77
    go_wp2_with fail
    refine (S1.out _).mono ?_
    rw [H1.out]
    rintro e w1 ⟨rfl, rfl⟩
    go_wp2_with fail
    refine (S2.out _).mono ?_
    rw [H2.out]
    rintro e w1 ⟨rfl, rfl⟩
    go_wp2_with fail
    obtain ⟨w1, hw1⟩ : ∃ w1, w1 = w.alloc (.cells #[.int .u32 f, .int .u32 fs, .int .u32 r, .int .u32 rs] 88) := ⟨_, rfl⟩
    have hS : w1.cell? ⟨w.heap.size, 0, none⟩ = some (.int .u32 f) ∧ w1.cell? ⟨w.heap.size, 1, none⟩ = some (.int .u32 fs) ∧ w1.cell? ⟨w.heap.size, 2, none⟩ = some (.int .u32 r) ∧ w1.cell? ⟨w.heap.size, 3, none⟩ = some (.int .u32 rs) ∧ w.heap.size < w1.heap.size ∧ Below w.heap.size w w1 := by
      subst hw1
      exact ⟨by simp, by simp, by simp, by simp, by simp, by go_grown⟩
    rw [← hw1]
    clear hw1
    have c0 := hS.1
    have c1 := hS.2.1
    have c2 := hS.2.2.1
    have c3 := hS.2.2.2.1
    have hz := hS.2.2.2.2.1
    have hB := Lib.hid hS.2.2.2.2.2
    clear hS
    go_quiet ((go_at_call 93; exact end_q _ _ _ _ (by omega) (by omega)))
    go_wp2_with fail
    go_ret
    exact ⟨ret_boolM E.out.symm, by first | exact hB.out | exact below_drewN hB.out _⟩
end Go.Proofs.Ytghclbeoabkgcaa
