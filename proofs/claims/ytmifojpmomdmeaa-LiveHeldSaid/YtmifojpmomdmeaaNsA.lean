/- Package infer: Inputs. -/
import Derived.Test.YtmifojpmomdmeaaNdOne
import Derived.BigRegion
import Derived.Test.YtmifojpmomdmeaaJP
namespace Go.Proofs.Ytmifojpmomdmeaa
open Go Go.RowKit
set_option linter.unusedVariables false

/-- the values that a node reads, as a slice of its own -/
def InsAt (w0 w : World) (at0 : Option Addr) (l : List Int) : Prop := ∀ i z, l[i]? = some z → ∃ g, at0 = some ⟨g, 0, none⟩ ∧ w0.heap.size ≤ g ∧ g < w.heap.size ∧ w.cell? ⟨g, i, none⟩ = some (.int .i64 z)
set_option maxHeartbeats 2000000 in
theorem ins_0 (n : Nd) (h : n.op = 1) (w : World) : Calls Try.prog 38 #[.agg n.cells.toArray] w fun e w' => e = .returned (.slice none 0 0) ∧ Below w.heap.size w w' := by
  have e0 : n.cells[0]? = some (.int .i64 1) := by rw [← h]; rfl
  clear h
  go_enter Try.func38, Try.ntmps38
  go_wp2_with fail
  go_ret
  exact ⟨rfl, by go_grown⟩
set_option maxHeartbeats 2000000 in
theorem ins_2 (n : Nd) (h1 : (n.op == 1) = false) (h : n.op = 7 ∨ n.op = 8 ∨ n.op = 12) (w : World) : Calls Try.prog 38 #[.agg n.cells.toArray] w fun e w' => ∃ at0, e = .returned (.slice at0 2 2) ∧ Below w.heap.size w w' ∧ InsAt w w' at0 [n.a, n.b] := by
  have e1 : n.cells[1]? = some (.int .i64 n.a) := rfl
  have e2 : n.cells[2]? = some (.int .i64 n.b) := rfl
  have fin : ∀ at0 (w' : World) (o : Obj), w' = (w.alloc o).alloc (.cells #[.int .i64 n.a, .int .i64 n.b] 3) → at0 = some ⟨w.heap.size + 1, 0, none⟩ → InsAt w w' at0 [n.a, n.b] := by
    rintro at0 w' o rfl rfl
    intro i z hz
    have hR := RowAt.new (w.alloc o) [.int .i64 n.a, .int .i64 n.b] 3
    rw [show (w.alloc o).heap.size = w.heap.size + 1 by simp] at hR
    refine ⟨_, rfl, by omega, hR.lt, hR.cell i _ ?_⟩
    match i, hz with
    | 0, hz => simpa using hz
    | 1, hz => simpa using hz
  have FIN := Lib.hid fin
  clear fin
  rcases h with h | h | h
  all_goals
    have e0 : n.cells[0]? = some (.int .i64 n.op) := rfl
    rw [h] at e0 h1
    clear h
    go_enter Try.func38, Try.ntmps38
    go_wp2_with fail
    go_ret
    exact ⟨_, rfl, by go_grown, FIN.out _ _ _ rfl rfl⟩
set_option maxHeartbeats 2000000 in
theorem ins_1 (n : Nd) (h1 : (n.op == 1) = false) (h7 : (n.op == 7) = false) (h8 : (n.op == 8) = false) (h12 : (n.op == 12) = false) (w : World) : Calls Try.prog 38 #[.agg n.cells.toArray] w fun e w' => ∃ at0, e = .returned (.slice at0 1 1) ∧ Below w.heap.size w w' ∧ InsAt w w' at0 [n.a] := by
  have e0 : n.cells[0]? = some (.int .i64 n.op) := rfl
  have e1 : n.cells[1]? = some (.int .i64 n.a) := rfl
  have fin : ∀ at0 (w' : World) (o : Obj), w' = (w.alloc o).alloc (.cells #[.int .i64 n.a] 3) → at0 = some ⟨w.heap.size + 1, 0, none⟩ → InsAt w w' at0 [n.a] := by
    rintro at0 w' o rfl rfl
    intro i z hz
    have hR := RowAt.new (w.alloc o) [.int .i64 n.a] 3
    rw [show (w.alloc o).heap.size = w.heap.size + 1 by simp] at hR
    refine ⟨_, rfl, by omega, hR.lt, hR.cell i _ ?_⟩
    match i, hz with
    | 0, hz => simpa using hz
  have FIN := Lib.hid fin
  clear fin
  go_enter Try.func38, Try.ntmps38
  go_wp2_with fail
  go_ret
  exact ⟨_, rfl, by go_grown, FIN.out _ _ _ rfl rfl⟩
theorem ins_any (n : Nd) (w : World) : Calls Try.prog 38 #[.agg n.cells.toArray] w fun e w' => ∃ at0, e = .returned (.slice at0 (insN n).length (insN n).length) ∧ Below w.heap.size w w' ∧ InsAt w w' at0 (insN n) := by
  by_cases h1 : n.op = 1
  · have e : insN n = [] := by unfold insN; rw [if_pos h1]
    rw [e]
    refine (ins_0 n h1 w).mono ?_
    rintro e w' ⟨rfl, hb⟩
    exact ⟨none, rfl, hb, fun i z hz => by simp at hz⟩
  · have h1' : (n.op == 1) = false := by simpa using h1
    by_cases h : n.op = 7 ∨ n.op = 8 ∨ n.op = 12
    · have e : insN n = [n.a, n.b] := by unfold insN; rw [if_neg h1, if_pos (by unfold hB; exact decide_eq_true h)]
      rw [e]
      exact ins_2 n h1' h w
    · have e : insN n = [n.a] := by unfold insN; rw [if_neg h1, if_neg (by unfold hB; simpa using h)]
      rw [e]
      exact ins_1 n h1' (by simp; omega) (by simp; omega) (by simp; omega) w
end Go.Proofs.Ytmifojpmomdmeaa
