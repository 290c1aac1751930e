/- Package exec: Run. -/
import Derived.Test.YtmlhoagcppofgaaGreatDoorExB
namespace Go.Proofs.YtmlhoagcppofgaaGreatDoor
open Go Go.RowKit Go.Shelf Pl
set_option linter.unusedVariables false

attribute [local go_sem] Oper.semAt_some

theorem Out.old {S T : Nat → Prop} {a b : World} (h : Out S a b) (k : ∀ j, j < a.heap.size → S j → T j) : Out T a b := ⟨h.os, h.tape, h.output, h.size, fun j hj hT => h.block j hj fun hS => hT (k j hj hS)⟩
theorem Out.drew (S : Nat → Prop) (W : World) : Out S W W.drew := .of_below S ((Below.refl _ _).drew)
/-- what the rounds keep: the loop's own object, its defers, the count -/
structure RunK (l nb : Nat) (r : Loop) (pre : List MEv) (W : World) : Prop where
  lo : W.heap[l]? = some (.loop r)
  df : W.heap[l - 1]? = some (.deferred (some []))
  ce : CellIs nb (.int .i64 (pre.length : Nat)) W
theorem heap_at_out {S : Nat → Prop} {W W' : World} (h : Out S W W') {k : Nat} {o : Obj} (hk : W.heap[k]? = some o) (hs : ¬ S k) : W'.heap[k]? = some o :=
  (h.block k (Array.getElem?_eq_some_iff.1 hk).1 hs).trans hk
theorem RunK.out {l nb : Nat} {r : Loop} {pre : List MEv} {S : Nat → Prop} {W W' : World} (h : RunK l nb r pre W) (ho : Out S W W') (h1 : ¬ S l) (h2 : ¬ S (l - 1)) (h3 : ¬ S nb) : RunK l nb r pre W' :=
  ⟨heap_at_out ho h.lo h1, heap_at_out ho h.df h2, h.ce.out ho h3⟩

end Go.Proofs.YtmlhoagcppofgaaGreatDoor
