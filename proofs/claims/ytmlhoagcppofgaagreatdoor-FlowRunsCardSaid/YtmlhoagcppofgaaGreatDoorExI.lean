/- The document's Same over rows of events. -/
import Derived.Test.YtmlhoagcppofgaaGreatDoorExE
namespace Go.Proofs.YtmlhoagcppofgaaGreatDoor
open Go Go.RowKit Go.Shelf Pl
set_option linter.unusedVariables false

def evD (l : List MEv) (k : Nat) : MEv := l.getD k ⟨0, 0, 0, 0, 0⟩
theorem cellsE_get (l : List MEv) (k : Nat) (h : k < l.length) :
    (cellsE l)[k * 5]? = some (.int .u32 ((evD l k).p : Nat)) ∧ (cellsE l)[k * 5 + 1]? = some (.int .u32 ((evD l k).w : Nat)) ∧ (cellsE l)[k * 5 + 2]? = some (.int .i64 (evD l k).k) ∧ (cellsE l)[k * 5 + 3]? = some (.int .u32 ((evD l k).a : Nat)) ∧ (cellsE l)[k * 5 + 4]? = some (.int .i64 (evD l k).s) := by
  induction l generalizing k with
  | nil => simp at h
  | cons e l ih =>
    cases k with
    | zero => exact ⟨rfl, rfl, rfl, rfl, rfl⟩
    | succ k =>
      have q := ih k (by simpa using h)
      have e1 : ∀ j, (cellsE (e :: l))[(k + 1) * 5 + j]? = (cellsE l)[k * 5 + j]? := fun j => by
        rw [show (k + 1) * 5 + j = k * 5 + j + 5 by omega]
        rfl
      exact ⟨(e1 0).trans q.1, (e1 1).trans q.2.1, (e1 2).trans q.2.2.1, (e1 3).trans q.2.2.2.1, (e1 4).trans q.2.2.2.2⟩
/-- events in a row -/
def EvRow (W : World) (a : Option Addr) (l : List MEv) : Prop :=
  l = [] ∨ ∃ g, a = some ⟨g, 0, none⟩ ∧ g < W.heap.size ∧ ∀ k, k < l.length → EvAt5 W g (k * 5) (evD l k)
where EvAt5 (W : World) (g o : Nat) (e : MEv) : Prop := W.cell? ⟨g, o, none⟩ = some (.int .u32 (e.p : Nat)) ∧ W.cell? ⟨g, o + 1, none⟩ = some (.int .u32 (e.w : Nat)) ∧ W.cell? ⟨g, o + 2, none⟩ = some (.int .i64 e.k) ∧ W.cell? ⟨g, o + 3, none⟩ = some (.int .u32 (e.a : Nat)) ∧ W.cell? ⟨g, o + 4, none⟩ = some (.int .i64 e.s)
theorem evRow_of {W : World} {B n : Nat} {a : Option Addr} {c : Nat} {l : List MEv} (h : W.ownsRow B 39 5 (.slice a n c) n (cellsE l)) (hl : l.length = n) : EvRow W a l := by
  rcases h.2 with ⟨e, h0⟩ | ⟨g, cap, cur, e, h1, h2, h3, h4, h5, h6⟩
  · exact .inl (List.length_eq_zero_iff.1 (by omega))
  · cases e
    refine .inr ⟨g, rfl, (Array.getElem?_eq_some_iff.1 h2).1, fun k hk => ?_⟩
    have q := cellsE_get l k hk
    have cell : ∀ j v, j < n * 5 → (cellsE l)[j]? = some v → W.cell? ⟨g, j, none⟩ = some v := fun j v hj hv => by
      rw [cell_of_row W g j _ _ _ h2, ← Array.getElem?_toList]
      rw [← h6, List.getElem?_take, if_pos hj] at hv
      exact hv
    exact ⟨cell _ _ (by omega) q.1, cell _ _ (by omega) q.2.1, cell _ _ (by omega) q.2.2.1, cell _ _ (by omega) q.2.2.2.1, cell _ _ (by omega) q.2.2.2.2⟩
theorem EvRow.out {S : Nat → Prop} {W W' : World} {a : Option Addr} {l : List MEv} (h : EvRow W a l) (ho : Out S W W') (hs : ∀ g, a = some ⟨g, 0, none⟩ → ¬ S g) : EvRow W' a l := by
  rcases h with h | ⟨g, rfl, hg, hc⟩
  · exact .inl h
  · refine .inr ⟨g, rfl, Nat.lt_of_lt_of_le hg ho.size, fun k hk => ?_⟩
    have q := hc k hk
    have e : ∀ j, W'.cell? ⟨g, j, none⟩ = W.cell? ⟨g, j, none⟩ := fun j => ho.cell (p := ⟨g, j, none⟩) hg (hs g rfl)
    exact ⟨(e _).trans q.1, (e _).trans q.2.1, (e _).trans q.2.2.1, (e _).trans q.2.2.2.1, (e _).trans q.2.2.2.2⟩
theorem EvRow.below {W W' : World} {a : Option Addr} {l : List MEv} (h : EvRow W a l) (hb : Below W.heap.size W W') : EvRow W' a l := h.out (.of_below (fun _ => False) hb) (fun _ _ => id)
end Go.Proofs.YtmlhoagcppofgaaGreatDoor
