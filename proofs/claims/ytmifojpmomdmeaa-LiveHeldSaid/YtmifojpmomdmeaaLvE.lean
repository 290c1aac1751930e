/- What a node reads is held when it is done (LiveHeld's mathematics). -/
import Derived.Test.YtmifojpmomdmeaaLvD
namespace Go.Proofs.Ytmifojpmomdmeaa
open Go Go.RowKit Go.Maps
set_option linter.unusedVariables false
theorem held_core {g : GrQ} {over : Bool} (he : (graphE g.gr).1 = 0) {i k : Nat} (hi : i < (ordG g).length) (hk : k < (ordG g).length) (h : (ordG g).getD k 0 ∈ insF g.ns ((ordG g).getD i 0 - 1)) : k < i ∧ (i : Int) ≤ (lvM g over).to k := by
  have H := odM_ok he
  obtain ⟨hn, hl, hs⟩ := order_spec H _ (Nat.le_refl _)
  have hv : ∀ j, j < (ordG g).length → (ordG g)[j]? = some ((ordG g).getD j 0) := fun j hj => by rw [List.getD, List.getElem?_eq_getElem hj]; rfl
  have hat := order_at H _ (Nat.le_refl _) i _ (hv i hi)
  have hp := (ord_mem he).2 _ (getD_mem hi)
  refine ⟨?_, ?_⟩
  · have hr : (ordG g).getD k 0 ∈ (odM g (needL g)).rd ((ordG g).getD i 0) := by
      show _ ∈ (if (ordG g).getD i 0 = 0 then [] else insF g.ns ((ordG g).getD i 0 - 1))
      rw [if_neg (by omega)]
      exact h
    have ht := (todo_mem.1 (hs _ (getD_mem hk))).2
    unfold Od.want at ht
    rcases hat.2.2 _ hr with hf | hf
    · have ht2 : ((odM g (needL g)).need ((ordG g).getD k 0) && !(odM g (needL g)).free ((ordG g).getD k 0)) = true := ht
      rw [hf] at ht2
      simp at ht2
    · obtain ⟨j, hj⟩ := List.getElem?_of_mem hf
      have hji : j < i := by
        refine Decidable.byContradiction fun e => ?_
        rw [List.getElem?_take, if_neg e] at hj
        cases hj
      rw [List.getElem?_take, if_pos hji] at hj
      have : k = j := (List.getElem?_inj hk hn).1 ((hv k hk).trans hj.symm)
      omega
  · refine to_reads (m := lvM g over) hk hi ?_
    show _ ∈ (if (ordG g).getD i 0 = 0 then [] else insF g.ns ((ordG g).getD i 0 - 1))
    rw [if_neg (by omega)]
    exact h
end Go.Proofs.Ytmifojpmomdmeaa
