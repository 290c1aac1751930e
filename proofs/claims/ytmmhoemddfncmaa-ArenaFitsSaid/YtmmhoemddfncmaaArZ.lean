/- Plain mathematics of a round of the document's Fit. -/
import Derived.Test.YtmmhoemddfncmaaArY
namespace Go.Proofs.Ytmmhoemddfncmaa
open Go Go.RowKit
set_option linter.unusedVariables false

theorem sum_up {l : List Q3} (hl : AllQ l) : ∀ P : List Int, (∀ k ∈ P, 0 ≤ k ∧ k < l.length) → (P.map fun k => upI (qAt l k).s).sum ≤ P.length * 1048579
  | [], _ => by simp
  | k :: P, h => by
    have a := sum_up hl P (fun j hj => h j (by simp [hj]))
    have b := ok_up (hl k (h k (by simp)).1 (h k (by simp)).2)
    rw [List.map_cons, List.sum_cons, List.length_cons]
    push_cast
    omega
theorem round_facts {l : List Q3} (hl : AllQ l) (hn : l.length ≤ 100) {k : Nat} {ix tot : Int} {A : List Int} (h : Both l ((orderC l).take k) (((orderC l).take k).foldl (stepP l) (startP l)) (A, tot)) (hx : (orderC l)[k]? = some ix) :
    nextR l A = ix ∧ (0 ≤ ix ∧ ix < l.length) ∧ (∀ j : Nat, j < l.length → -1 ≤ wA A (j : Int) ∧ wA A (j : Int) ≤ 1000000000) ∧ (0 ≤ placeR l A ix ∧ placeR l A ix ≤ 104857900) ∧ (0 ≤ tot ∧ tot ≤ 104857900) ∧
    Both l ((orderC l).take (k + 1)) (((orderC l).take (k + 1)).foldl (stepP l) (startP l)) (A.set ix.toNat (placeR l A ix), max tot (placeR l A ix + upI (qAt l ix).s)) := by
  obtain ⟨hnx, hnot⟩ := both_next h hx
  have hib := order_mem.1 (List.mem_of_getElem? hx)
  have hP : ((orderC l).take k).length ≤ 100 := by rw [List.length_take, order_len]; omega
  have hS := h.inv.sum
  have hup := sum_up hl _ h.inv.inn
  have hall := h.all
  have h0 := h.inv.all0
  have hp := both_place hl h hib.1 hib.2
  have hpb := place_bd hl h.inv hib.1 hib.2
  have hst := both_step hl h hib.1 hib.2 hnot
  have e1 : (orderC l).take (k + 1) = (orderC l).take k ++ [ix] := by rw [List.take_add_one, hx]; rfl
  have hbd := both_bd hl hn h hP (by omega)
  rw [e1, List.foldl_append]
  simp only at hp hall hbd
  rw [← hp] at hpb
  exact ⟨hnx, hib, hbd, by omega, by omega, hst⟩
theorem gaps_ne {size : Int} (hs : 0 < size) {R : List Rm} (hg : GoodR R) : gapsR R ≠ [] := by
  intro e
  rcases pick_best hs hg with ⟨t, h, _⟩ | ⟨_, h⟩
  · have := (gapsR_mem hg).2 (.inl h); rw [e] at this; simp at this
  · have := (gapsR_mem hg).2 (.inr ⟨h, rfl⟩); rw [e] at this; simp at this
def GapB2 (G : List Rm) : Prop := ∀ g ∈ G, 0 ≤ g.1 ∧ g.1 ≤ 1002000000 ∧ -1 ≤ g.2 ∧ g.2 ≤ 1000000000
theorem fold_nextP {α β : Type} {f : α → β → α} {l : List β} {k : Nat} {x : β} {z : α} (h : l[k]? = some x) : (l.take (k + 1)).foldl f z = f ((l.take k).foldl f z) x := by
  rw [List.take_add_one, h, List.foldl_append]
  rfl
theorem pick_all {size : Int} {G : List Rm} (hG : GapB2 G) : ∀ m : Nat, pickB ((G.take m).foldl (pickT size) (-1, 0))
  | 0 => ⟨.inl rfl, by simp, by simp⟩
  | m + 1 => by
    rcases Nat.lt_or_ge m G.length with h | h
    · have e : G[m]? = some G[m] := List.getElem?_eq_getElem h
      rw [fold_nextP e]
      exact pick_bd (pick_all hG m) (hG _ (List.getElem_mem h))
    · have := pick_all (size := size) hG m
      rw [List.take_of_length_le (by omega)] at this ⊢
      exact this
end Go.Proofs.Ytmmhoemddfncmaa
