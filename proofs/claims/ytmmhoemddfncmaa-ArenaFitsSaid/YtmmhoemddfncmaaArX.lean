/- Plain mathematics of the document's gaps, index by index. -/
import Derived.Test.YtmmhoemddfncmaaArR
namespace Go.Proofs.Ytmmhoemddfncmaa
open Go Go.RowKit
set_option linter.unusedVariables false

def hitR (l : List Q3) (A : List Int) (i fr to k : Int) : Bool := decide (0 ≤ wA A k) && meetQ (qAt l i) (qAt l k) && decide (wA A k < to) && decide (fr < wA A k + upI (qAt l k).s)
def freeR (l : List Q3) (A : List Int) (i fr to : Int) : Bool := (rangeI l.length).all fun k => !hitR l A i fr to k
def pR (l : List Q3) (A : List Int) (i k : Int) : Bool := decide (0 ≤ wA A k) && meetQ (qAt l i) (qAt l k)
def endsK (l : List Q3) (A : List Int) (i : Int) (k : Nat) : List Int := 0 :: ((rangeI k).filter (pR l A i)).map fun j => wA A j + upI (qAt l j).s
theorem rangeI_succ (k : Nat) : rangeI (k + 1) = rangeI k ++ [(k : Int)] := by simp [rangeI, List.range_succ]
theorem ends_next (l : List Q3) (A : List Int) (i : Int) (k : Nat) : endsK l A i (k + 1) = endsK l A i k ++ (if pR l A i (k : Int) = true then [wA A (k : Int) + upI (qAt l (k : Int)).s] else []) := by
  unfold endsK
  rw [rangeI_succ, List.filter_append, List.map_append, ← List.cons_append]
  congr 1
  by_cases h : pR l A i (k : Int) = true <;> simp [h]
theorem ends_eq (l : List Q3) (A : List Int) (i : Int) : endsK l A i l.length = 0 :: (roomsR l A i).map fun r => r.2 := by
  unfold endsK roomsR
  rw [List.map_map]
  rfl
theorem ends_len (l : List Q3) (A : List Int) (i : Int) (k : Nat) : (endsK l A i k).length ≤ k + 1 := by
  unfold endsK
  rw [List.length_cons, List.length_map]
  have := List.length_filter_le (pR l A i) (rangeI k)
  have e : (rangeI k).length = k := by simp [rangeI]
  omega
theorem free_bare (l : List Q3) (A : List Int) (i e : Int) : freeR l A i e (e + 1) = bareR (roomsR l A i) e := by
  unfold freeR bareR roomsR
  rw [List.all_map, List.all_filter]
  congr 1
  funext k
  unfold hitR
  simp only [Function.comp]
  cases decide (0 ≤ wA A k) <;> cases meetQ (qAt l i) (qAt l k) <;> simp
def stepTo (l : List Q3) (A : List Int) (i e to k : Int) : Int := if e < wA A k ∧ meetQ (qAt l i) (qAt l k) = true ∧ (to < 0 ∨ wA A k < to) then wA A k else to
def toK (l : List Q3) (A : List Int) (i e : Int) (k : Nat) : Int := (rangeI k).foldl (stepTo l A i e) (-1)
theorem toK_next (l : List Q3) (A : List Int) (i e : Int) (k : Nat) : toK l A i e (k + 1) = stepTo l A i e (toK l A i e k) (k : Int) := by
  unfold toK
  rw [rangeI_succ, List.foldl_append]
  rfl
theorem toK_eq (l : List Q3) (A : List Int) (i e : Int) (he : 0 ≤ e) : toK l A i e l.length = toR (roomsR l A i) e := by
  unfold toK toR roomsR
  rw [List.foldl_map, List.foldl_filter]
  congr 1
  funext to k
  unfold stepTo
  simp only
  by_cases h1 : 0 ≤ wA A k
  · cases h2 : meetQ (qAt l i) (qAt l k)
    · simp
    · simp [h1]
  · have h3 : ¬ e < wA A k := by omega
    simp [h1, h3]
def outK (R : List Rm) (E : List Int) (m : Nat) : List Rm := ((E.take m).filter (bareR R)).map fun e => (e, toR R e)
theorem out_next {R : List Rm} {E : List Int} {m : Nat} {e : Int} (h : E[m]? = some e) : outK R E (m + 1) = outK R E m ++ (if bareR R e = true then [(e, toR R e)] else []) := by
  unfold outK
  rw [List.take_add_one, h, List.filter_append, List.map_append]
  congr 1
  by_cases hb : bareR R e = true <;> simp [hb]
theorem out_eq (l : List Q3) (A : List Int) (i : Int) : outK (roomsR l A i) (endsK l A i l.length) (endsK l A i l.length).length = gapsR (roomsR l A i) := by
  unfold outK gapsR
  rw [List.take_of_length_le (Nat.le_refl _), ends_eq]
theorem out_len (R : List Rm) (E : List Int) (m : Nat) : (outK R E m).length ≤ m := by
  unfold outK
  rw [List.length_map]
  refine Nat.le_trans (List.length_filter_le _ _) ?_
  rw [List.length_take]; omega
theorem ends_bd {l : List Q3} (hl : AllQ l) {A : List Int} {i : Int} {k : Nat} (hk : k ≤ l.length) (hA : ∀ j : Nat, j < l.length → -1 ≤ wA A (j : Int) ∧ wA A (j : Int) ≤ 1000000000) : ∀ e ∈ endsK l A i k, 0 ≤ e ∧ e ≤ 1002000000 := by
  intro e he
  unfold endsK at he
  rcases List.mem_cons.mp he with rfl | he
  · omega
  · obtain ⟨j, hj, rfl⟩ := List.mem_map.mp he
    obtain ⟨h1, h2⟩ := List.mem_filter.mp hj
    obtain ⟨j0, j1⟩ := rangeI_mem.1 h1
    have h3 : 0 ≤ wA A j := by
      unfold pR at h2
      simp only [Bool.and_eq_true, decide_eq_true_eq] at h2
      exact h2.1
    have h4 := hA j.toNat (by omega)
    rw [show ((j.toNat : Nat) : Int) = j by omega] at h4
    have := ok_up (hl j j0 (by omega))
    omega
end Go.Proofs.Ytmmhoemddfncmaa
