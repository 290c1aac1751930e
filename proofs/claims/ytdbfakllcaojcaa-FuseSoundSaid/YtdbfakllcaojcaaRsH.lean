/- The document's Has, by the runner. -/
import Derived.Test.YtdbfakllcaojcaaEG
import Derived.Test.YtdbfakllcaojcaaChecked
import Derived.Test.YtdbfakllcaojcaaJP
namespace Go.Proofs.Ytdbfakllcaojcaa
open Go Go.RowKit
set_option linter.unusedVariables false

theorem names_ok : namesOk Try.prog = true := by kernel_rfl
theorem mixed_ok : Try.prog.follows .mixedOrders = true := by kernel_rfl
/-- the letters -/
def letD (f : Nat) : Int := match f with
  | 0 => 65 | 1 => 66 | 2 => 119 | 3 => 112 | 4 => 97 | 5 => 98 | 6 => 111 | 7 => 109 | 8 => 110 | 9 => 108 | 10 => 87 | 11 => 73 | 12 => 67 | _ => 83
/-- whether the operator has it -/
def hasD (f : Nat) (o : Int) : Bool := match f with
  | 0 => hA o | 1 => hB o | 2 => hWin o | 3 => hPad o | 4 => hZa o | 5 => hZb o | 6 => hZo o | 7 => hM o | 8 => hN o | 9 => hL o | 10 => hW o | 11 => hI o | 12 => hC o | _ => hS o
set_option maxRecDepth 100000 in
theorem hasd_tab : ((List.range 14).all fun o => (List.range 14).all fun i => match runs Try.prog 60 41 [.int .i64 ((o : Int) + 1), .int .u8 (letD i)] with | some (.bool b) => b == hasD i ((o : Int) + 1) | _ => false) = true := by kernel_rfl
theorem has_docD (o : Int) (f : Nat) (h1 : 1 ≤ o) (h2 : o ≤ 14) (hf : f < 14) (w : World) : Calls Try.prog 41 #[.int .i64 o, .int .u8 (letD f)] w fun e w' => e = .returned (.bool (hasD f o)) ∧ Below w.heap.size w w' := by
  have h := List.all_eq_true.1 hasd_tab (o - 1).toNat (List.mem_range.2 (by omega))
  have h' := List.all_eq_true.1 h f (List.mem_range.2 hf)
  have e : (((o - 1).toNat : Nat) : Int) + 1 = o := by omega
  simp only [e] at h'
  split at h'
  · next b hb =>
    have hbe : b = hasD f o := by simpa using h'
    subst hbe
    exact calls_closed names_ok mixed_ok (n := 60) (args := [.int .i64 o, .int .u8 (letD f)]) hb (by kernel_rfl) rfl rfl w
  · cases h'
abbrev HasC (o c : Int) (b : Bool) : Prop := ∀ W : World, Calls Try.prog 41 #[.int .i64 o, .int .u8 c] W fun e w' => e = .returned (.bool b) ∧ Below W.heap.size W w'
theorem hasc (o : Int) (f : Nat) (h1 : 1 ≤ o) (h2 : o ≤ 14) (hf : f < 14) : HasC o (letD f) (hasD f o) := fun W => has_docD o f h1 h2 hf W
theorem rhas_A (o : Int) (h1 : 1 ≤ o) (h2 : o ≤ 14) (w : World) : Calls Try.prog 41 #[.int .i64 o, .int .u8 65] w fun e w' => e = .returned (.bool (hA o)) ∧ Below w.heap.size w w' := has_docD o 0 h1 h2 (by decide) w
theorem rhas_B (o : Int) (h1 : 1 ≤ o) (h2 : o ≤ 14) (w : World) : Calls Try.prog 41 #[.int .i64 o, .int .u8 66] w fun e w' => e = .returned (.bool (hB o)) ∧ Below w.heap.size w w' := has_docD o 1 h1 h2 (by decide) w
theorem rhas_w (o : Int) (h1 : 1 ≤ o) (h2 : o ≤ 14) (w : World) : Calls Try.prog 41 #[.int .i64 o, .int .u8 119] w fun e w' => e = .returned (.bool (hWin o)) ∧ Below w.heap.size w w' := has_docD o 2 h1 h2 (by decide) w
theorem rhas_p (o : Int) (h1 : 1 ≤ o) (h2 : o ≤ 14) (w : World) : Calls Try.prog 41 #[.int .i64 o, .int .u8 112] w fun e w' => e = .returned (.bool (hPad o)) ∧ Below w.heap.size w w' := has_docD o 3 h1 h2 (by decide) w
theorem rhas_a (o : Int) (h1 : 1 ≤ o) (h2 : o ≤ 14) (w : World) : Calls Try.prog 41 #[.int .i64 o, .int .u8 97] w fun e w' => e = .returned (.bool (hZa o)) ∧ Below w.heap.size w w' := has_docD o 4 h1 h2 (by decide) w
theorem rhas_b (o : Int) (h1 : 1 ≤ o) (h2 : o ≤ 14) (w : World) : Calls Try.prog 41 #[.int .i64 o, .int .u8 98] w fun e w' => e = .returned (.bool (hZb o)) ∧ Below w.heap.size w w' := has_docD o 5 h1 h2 (by decide) w
theorem rhas_o (o : Int) (h1 : 1 ≤ o) (h2 : o ≤ 14) (w : World) : Calls Try.prog 41 #[.int .i64 o, .int .u8 111] w fun e w' => e = .returned (.bool (hZo o)) ∧ Below w.heap.size w w' := has_docD o 6 h1 h2 (by decide) w
theorem rhas_m (o : Int) (h1 : 1 ≤ o) (h2 : o ≤ 14) (w : World) : Calls Try.prog 41 #[.int .i64 o, .int .u8 109] w fun e w' => e = .returned (.bool (hM o)) ∧ Below w.heap.size w w' := has_docD o 7 h1 h2 (by decide) w
theorem rhas_n (o : Int) (h1 : 1 ≤ o) (h2 : o ≤ 14) (w : World) : Calls Try.prog 41 #[.int .i64 o, .int .u8 110] w fun e w' => e = .returned (.bool (hN o)) ∧ Below w.heap.size w w' := has_docD o 8 h1 h2 (by decide) w
theorem rhas_l (o : Int) (h1 : 1 ≤ o) (h2 : o ≤ 14) (w : World) : Calls Try.prog 41 #[.int .i64 o, .int .u8 108] w fun e w' => e = .returned (.bool (hL o)) ∧ Below w.heap.size w w' := has_docD o 9 h1 h2 (by decide) w
theorem rhas_WW (o : Int) (h1 : 1 ≤ o) (h2 : o ≤ 14) (w : World) : Calls Try.prog 41 #[.int .i64 o, .int .u8 87] w fun e w' => e = .returned (.bool (hW o)) ∧ Below w.heap.size w w' := has_docD o 10 h1 h2 (by decide) w
theorem rhas_II (o : Int) (h1 : 1 ≤ o) (h2 : o ≤ 14) (w : World) : Calls Try.prog 41 #[.int .i64 o, .int .u8 73] w fun e w' => e = .returned (.bool (hI o)) ∧ Below w.heap.size w w' := has_docD o 11 h1 h2 (by decide) w
theorem rhas_CC (o : Int) (h1 : 1 ≤ o) (h2 : o ≤ 14) (w : World) : Calls Try.prog 41 #[.int .i64 o, .int .u8 67] w fun e w' => e = .returned (.bool (hC o)) ∧ Below w.heap.size w w' := has_docD o 12 h1 h2 (by decide) w
theorem rhas_SS (o : Int) (h1 : 1 ≤ o) (h2 : o ≤ 14) (w : World) : Calls Try.prog 41 #[.int .i64 o, .int .u8 83] w fun e w' => e = .returned (.bool (hS o)) ∧ Below w.heap.size w w' := has_docD o 13 h1 h2 (by decide) w
set_option maxHeartbeats 2000000 in
theorem rhas_no (o c : Int) (h : o < 1 ∨ 14 < o) (w : World) : Calls Try.prog 41 #[.int .i64 o, .int .u8 c] w fun e w' => e = .returned (.bool false) ∧ Below w.heap.size w w' := by
  rcases h with h | h
  · have hx : decide (o < 1) = true := by simpa using h
    clear h
    go_enter Try.func41, Try.ntmps41
    go_wp2_with fail
    go_ret
    exact ⟨rfl, by go_grown⟩
  · have hx : decide (o < 1) = false := by (have h3 := h; simp; omega)
    have hy : decide (14 < o) = true := by simpa using h
    clear h
    go_enter Try.func41, Try.ntmps41
    go_wp2_with fail
    go_ret
    exact ⟨rfl, by go_grown⟩
theorem h_range {o : Int} (h : o < 1 ∨ 14 < o) : hB o = false := by unfold hB; simp; omega
theorem rhas_B' (o : Int) (w : World) : Calls Try.prog 41 #[.int .i64 o, .int .u8 66] w fun e w' => e = .returned (.bool (hB o)) ∧ Below w.heap.size w w' := by
  by_cases h : o < 1 ∨ 14 < o
  · rw [h_range h]; exact rhas_no o 66 h w
  · exact rhas_B o (by omega) (by omega) w
end Go.Proofs.Ytdbfakllcaojcaa
