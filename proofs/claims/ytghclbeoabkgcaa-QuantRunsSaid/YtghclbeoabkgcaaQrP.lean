/- The program that QuantRuns runs, with no program in sight. -/
import Derived.Test.YtghclbeoabkgcaaRunS
import Derived.Test.YtghclbeoabkgcaaSteps
namespace Go.Proofs.Ytghclbeoabkgcaa
open Pl Go Go.RowKit
set_option linter.unusedVariables false

def progQ (n m s z lo hi : Int) : List Q5 := (([⟨1, 0, 0, 0, n⟩] ++ stepsQ 0 0 1 m s) ++ [⟨13, 0, 0, 0, z⟩]) ++ clampsQ 0 1 lo hi
theorem stepsQ_mem {D A T : Nat} {m s : Int} {x : Q5} (hx : x ∈ stepsQ D A T m s) : x ∈ stepsQ8 D A T m ∨ (¬ s = 0 ∧ (x = ⟨13, D, D, 0, 2 ^ (s - 1).toNat⟩ ∨ x = ⟨16, D, D, 0, s⟩)) := by
  unfold stepsQ stepsQ2 at hx
  rcases List.mem_append.1 hx with h | h
  · exact Or.inl h
  · by_cases hs : s = 0
    · rw [if_pos hs] at h; cases h
    · rw [if_neg hs] at h
      exact Or.inr ⟨hs, by simpa using h⟩
theorem stepsQ_lenR (m s : Int) : 1 ≤ (stepsQ 0 0 1 m s).length ∧ (stepsQ 0 0 1 m s).length ≤ 10 := by
  unfold stepsQ stepsQ2
  rw [List.length_append, steps8_len]
  split <;> simp
/-- what the contracts want of a step -/
def FineQ (x : Q5) : Prop := OkF x ∧ canS x = true ∧ x.o ≤ 16
theorem stepsQ_fine {m s : Int} (hm : -2147483648 ≤ m ∧ m ≤ 2147483647) (hs : 0 ≤ s ∧ s ≤ 31) : ∀ x ∈ stepsQ 0 0 1 m s, FineQ x := by
  intro x hx
  rcases stepsQ_mem hx with h | ⟨h0, rfl | rfl⟩
  · simp only [stepsQ8, List.mem_cons, List.not_mem_nil, or_false] at h
    rcases h with rfl | rfl | rfl | rfl | rfl | rfl | rfl | rfl
    all_goals
      refine ⟨⟨by simp, by simp, by simp, by simp⟩, ?_, by simp⟩
      simp [canS, isOp, hasD, hasA, hasB, fitsS, leastS, mostS]
      try omega
  · have PB := pow_bd30 (y := (s - 1).toNat) (by omega)
    generalize (2 : Int) ^ (s - 1).toNat = P at *
    refine ⟨⟨by simp, by simp, by simp, by simp⟩, ?_, by simp⟩
    simp [canS, isOp, hasD, hasA, hasB, fitsS, leastS, mostS]
    omega
  · refine ⟨⟨by simp, by simp, by simp, by simp⟩, ?_, by simp⟩
    simp [canS, isOp, hasD, hasA, hasB, fitsS, leastS, mostS]
    omega
theorem clampsQ_fine {lo hi : Int} (h1 : -536870912 ≤ lo) (h2 : lo ≤ hi) (h3 : hi ≤ 536870912) : ∀ x ∈ clampsQ 0 1 lo hi, FineQ x := by
  intro x hx
  simp only [clampsQ, List.mem_cons, List.not_mem_nil, or_false] at hx
  rcases hx with rfl | rfl | rfl | rfl | rfl | rfl | rfl | rfl
  all_goals
    refine ⟨⟨by simp, by simp, by simp, by simp⟩, ?_, by simp⟩
    simp [canS, isOp, hasD, hasA, hasB, fitsS, leastS, mostS]
    try omega
theorem progQ_fine {n m s z lo hi : Int} (hn : -2147483648 ≤ n ∧ n ≤ 2147483647) (hm : -2147483648 ≤ m ∧ m ≤ 2147483647) (hs : 0 ≤ s ∧ s ≤ 31) (hz : -1000 ≤ z ∧ z ≤ 1000) (h1 : -536870912 ≤ lo) (h2 : lo ≤ hi) (h3 : hi ≤ 536870912) : ∀ x ∈ progQ n m s z lo hi, FineQ x := by
  intro x hx
  unfold progQ at hx
  simp only [List.mem_append, List.mem_singleton] at hx
  rcases hx with ((rfl | hx) | rfl) | hx
  · refine ⟨⟨by simp, by simp, by simp, by simp⟩, ?_, by simp⟩
    simp [canS, isOp, hasD, hasA, hasB, fitsS, leastS, mostS]
    omega
  · exact stepsQ_fine hm hs x hx
  · refine ⟨⟨by simp, by simp, by simp, by simp⟩, ?_, by simp⟩
    simp [canS, isOp, hasD, hasA, hasB, fitsS, leastS, mostS]
    omega
  · exact clampsQ_fine h1 h2 h3 x hx
theorem fine_oks {x : Q5} (h : FineQ x) : OkS x := by
  refine ⟨h.1, fun h14 => ?_⟩
  have hc := h.2.1
  have h16 := h.2.2
  unfold canS at hc
  simp only [Bool.and_eq_true, decide_eq_true_eq] at hc
  obtain ⟨⟨_, hl⟩, hm⟩ := hc
  unfold leastS at hl
  unfold mostS at hm
  rw [if_neg (by omega), if_neg (by omega)] at hl
  rw [if_neg (by omega), if_neg (by omega), if_pos (by omega)] at hm
  exact ⟨hl, hm⟩
theorem plain_ends : ∀ (xs : List Q5) (j : Nat) (p : List Int) (st : List Nat), (∀ x ∈ xs, x.o ≤ 16) → ∃ q, runE xs j (p, st) = some (q, st) ∧ q.length = p.length
  | [], j, p, st, _ => ⟨p, rfl, rfl⟩
  | x :: xs, j, p, st, h => by
    have hx := h x (List.mem_cons_self ..)
    have e : stepE j x (p, st) = some (p.set j (-1), st) := by
      unfold stepE
      rw [if_neg (by omega), if_neg (by omega)]
    obtain ⟨q, hq, hl⟩ := plain_ends xs (j + 1) (p.set j (-1)) st (fun y hy => h y (List.mem_cons_of_mem _ hy))
    refine ⟨q, ?_, by rw [hl, List.length_set]⟩
    show (match stepE j x (p, st) with | none => none | some s' => runE xs (j + 1) s') = _
    rw [e]
    exact hq
theorem plain_counted : ∀ (xs : List Q5), (∀ x ∈ xs, x.o ≤ 16) → runC xs [] = some []
  | [], _ => rfl
  | x :: xs, h => by
    have hx := h x (List.mem_cons_self ..)
    have e : stepC x [] = some [] := by
      unfold stepC
      rw [if_neg (by omega), if_neg (by simp), if_neg (by omega)]
    show (match stepC x [] with | none => none | some cs' => runC xs cs') = _
    rw [e]
    exact plain_counted xs (fun y hy => h y (List.mem_cons_of_mem _ hy))
theorem check_fine {l : List Q5} (h : ∀ x ∈ l, FineQ x) (hl : l.length ≤ 20000) : checkS l = 0 ∧ ∃ E, endsS l = some E ∧ E.length = l.length := by
  obtain ⟨q, hq, hlen⟩ := plain_ends l 0 (List.replicate l.length 0) [] (fun x hx => (h x hx).2.2)
  have hE : endsS l = some q := by
    unfold endsS
    rw [hq]
  refine ⟨?_, q, hE, by rw [hlen, List.length_replicate]⟩
  unfold checkS
  have ha : l.any (fun x => !canS x) = false := by
    rw [List.any_eq_false]
    intro x hx
    rw [(h x hx).2.1]
    simp
  have hc : countedS l = true := by
    unfold countedS
    rw [plain_counted l (fun x hx => (h x hx).2.2)]
    rfl
  rw [if_neg (by omega), ha, hE, hc]
  rfl
theorem progQ_len (n m s z lo hi : Int) : 1 ≤ (progQ n m s z lo hi).length ∧ (progQ n m s z lo hi).length ≤ 20 := by
  unfold progQ
  simp only [List.length_append, List.length_cons, List.length_nil, clamps_len]
  have := stepsQ_lenR m s
  omega
theorem progQ_val {n m s z lo hi : Int} {f : Nat → Int} (hn : -2147483648 ≤ n ∧ n ≤ 2147483647) (hm : -2147483648 ≤ m ∧ m ≤ 2147483647) (hs : 0 ≤ s ∧ s ≤ 31) (hz : -1000 ≤ z ∧ z ≤ 1000) (h1 : -536870912 ≤ lo) (h2 : lo ≤ hi) (h3 : hi ≤ 536870912)
    (hb : -268435456 ≤ scaleS n m s ∧ scaleS n m s ≤ 268435456) : runF (progQ n m s z lo hi) f 0 = clampS (scaleS n m s + z) lo hi % 4294967296 := by
  unfold progQ
  rw [run_app, run_app, run_app]
  refine clamps_val (D := 0) (T := 1) (by decide) (by omega) h1 h2 h3 ?_
  have e0 : runF [⟨1, 0, 0, 0, n⟩] f 0 = n % 4294967296 := by simp [runF, stepF, valF, upd]
  generalize runF [⟨1, 0, 0, 0, n⟩] f = g at e0
  have e1 := steps_val (f := g) (D := 0) (A := 0) (T := 1) (by decide) (by decide) hn hm hs e0
  generalize runF (stepsQ 0 0 1 m s) g = g2 at e1
  have e2 : runF [⟨13, 0, 0, 0, z⟩] g2 0 = aluS 1 (g2 0) (z % 4294967296) := by simp [runF, stepF, valF, upd, aluOf]
  rw [e2, e1, alu1]
theorem byteQ {n m s z lo hi : Int} (hz : -1000 ≤ z ∧ z ≤ 1000) (hb : -268435456 ≤ scaleS n m s ∧ scaleS n m s ≤ 268435456) : clampS (wrap32 (scaleS n m s + z)) lo hi = clampS (scaleS n m s + z) lo hi := by
  rw [show wrap32 (scaleS n m s + z) = scaleS n m s + z by unfold wrap32; omega]
end Go.Proofs.Ytghclbeoabkgcaa
