/- A node's cells as a letter: so that whole nodes are loaded and stored in one step of a walk. -/
import Derived.Test.YtekdcfepfieleaaJgP
import Derived.Test.YtekdcfepfieleaaNdOne
namespace Go.Proofs.Ytekdcfepfieleaa
open Go Go.RowKit
set_option linter.unusedVariables false

theorem node_size : (Try.prog.info? 38).map (·.size) = some 26 := by kernel_rfl
theorem node_zero (w : World) : (zeroValue 38).run Try.prog w = .ok (.agg ([.int .i64 0, .int .i64 0, .int .i64 0, .int .i64 0, .int .i64 0, .int .i64 0, .int .i64 0, .int .i64 0, .int .i64 0, .int .i64 0, .int .i64 0, .int .i64 0, .int .i64 0, .int .i64 0, .int .i32 0, .int .i32 0, .int .i64 0, .int .i64 0, .int .i64 0, .int .i64 0, .int .i64 0, .int .i64 0, .int .i64 0, .int .i64 0, .int .i64 0, .int .i64 0] : List Value).toArray) w := by simp
theorem node_new (w : World) (l k : List Value) (hl : l.length = 26) (hk : k.length = 26) (h1 : ∀ v ∈ k, v.oneCell' = true) :
    (w.alloc (.cells l.toArray 38)).setCells w.heap.size 0 k = w.alloc (.cells k.toArray 38) := by
  have a := run_storeCells_new (P := Try.prog) w 38 l.toArray k.toArray (by rw [node_size]; simp [hk]) (by simp [hl, hk]) (all_oneCell_toArray h1)
  have b := (RowAt.new w l 38).store (P := Try.prog) (l' := k) (by rw [hl, hk]) h1
  rw [show k.toArray.toList = k by simp, b] at a
  injection a
/-- all that a walk asks of a node as a letter -/
structure NdL (n : Nd) (T Z : Nat) (Z0 K : List Value) : Prop where
  load : ∀ x, Op.load 38 x = Op.load T x
  alloc : Op.alloc 38 = Op.alloc T
  store : ∀ x y, Op.store 38 x y = Op.store T x y
  agg : ∀ w, (isAgg T).run Try.prog w = .ok true w
  size : ∀ w, (sizeOf T).run Try.prog w = .ok Z w
  zero : ∀ w, (zeroValue T).run Try.prog w = .ok (.agg Z0.toArray) w
  len : K.length = Z
  cells : K = n.cells
  read : ∀ (W : World) (b : Nat), W.rangeAt b 0 K → (loadCellsFrom ⟨b, 0, none⟩ 0 Z #[]).run Try.prog W = .ok K.toArray W
  st1 : ∀ W : World, (storeCells ⟨W.heap.size, 0, none⟩ K 0).run Try.prog (W.alloc (.cells Z0.toArray T)) = .ok () (W.alloc (.cells K.toArray T))
  st2 : ∀ (W : World) (A : Obj), (storeCells ⟨W.heap.size, 0, none⟩ K 0).run Try.prog ((W.alloc (.cells Z0.toArray T)).alloc A) = .ok () ((W.alloc (.cells K.toArray T)).alloc A)
theorem node_letter (n : Nd) : ∃ T Z Z0 K, NdL n T Z Z0 K := by
  have h1 := Nd.one n
  have hk : n.cells.length = 26 := n.cells_len
  have hz : ([.int .i64 0, .int .i64 0, .int .i64 0, .int .i64 0, .int .i64 0, .int .i64 0, .int .i64 0, .int .i64 0, .int .i64 0, .int .i64 0, .int .i64 0, .int .i64 0, .int .i64 0, .int .i64 0, .int .i32 0, .int .i32 0, .int .i64 0, .int .i64 0, .int .i64 0, .int .i64 0, .int .i64 0, .int .i64 0, .int .i64 0, .int .i64 0, .int .i64 0, .int .i64 0] : List Value).length = 26 := rfl
  refine ⟨38, 26, [.int .i64 0, .int .i64 0, .int .i64 0, .int .i64 0, .int .i64 0, .int .i64 0, .int .i64 0, .int .i64 0, .int .i64 0, .int .i64 0, .int .i64 0, .int .i64 0, .int .i64 0, .int .i64 0, .int .i32 0, .int .i32 0, .int .i64 0, .int .i64 0, .int .i64 0, .int .i64 0, .int .i64 0, .int .i64 0, .int .i64 0, .int .i64 0, .int .i64 0, .int .i64 0], n.cells, ⟨fun _ => rfl, rfl, fun _ _ => rfl, fun w => by simp, fun w => by simp, node_zero, hk, rfl, fun W b hr => ?_, fun W => ?_, fun W A => ?_⟩⟩
  · have := run_loadCells_list (P := Try.prog) (w := W) ⟨b, 0, none⟩ n.cells (fun j v hv => by rw [addr_add0]; simpa using hr j v hv)
    rw [hk] at this
    simpa [loadCells] using this
  · rw [(RowAt.new W _ 38).store (P := Try.prog) (by rw [hk, hz]) h1, node_new W _ _ hz hk h1]
  · have hR : RowAt ((W.alloc (.cells ([.int .i64 0, .int .i64 0, .int .i64 0, .int .i64 0, .int .i64 0, .int .i64 0, .int .i64 0, .int .i64 0, .int .i64 0, .int .i64 0, .int .i64 0, .int .i64 0, .int .i64 0, .int .i64 0, .int .i32 0, .int .i32 0, .int .i64 0, .int .i64 0, .int .i64 0, .int .i64 0, .int .i64 0, .int .i64 0, .int .i64 0, .int .i64 0, .int .i64 0, .int .i64 0] : List Value).toArray 38)).alloc A) W.heap.size [.int .i64 0, .int .i64 0, .int .i64 0, .int .i64 0, .int .i64 0, .int .i64 0, .int .i64 0, .int .i64 0, .int .i64 0, .int .i64 0, .int .i64 0, .int .i64 0, .int .i64 0, .int .i64 0, .int .i32 0, .int .i32 0, .int .i64 0, .int .i64 0, .int .i64 0, .int .i64 0, .int .i64 0, .int .i64 0, .int .i64 0, .int .i64 0, .int .i64 0, .int .i64 0] := (RowAt.new W [.int .i64 0, .int .i64 0, .int .i64 0, .int .i64 0, .int .i64 0, .int .i64 0, .int .i64 0, .int .i64 0, .int .i64 0, .int .i64 0, .int .i64 0, .int .i64 0, .int .i64 0, .int .i64 0, .int .i32 0, .int .i32 0, .int .i64 0, .int .i64 0, .int .i64 0, .int .i64 0, .int .i64 0, .int .i64 0, .int .i64 0, .int .i64 0, .int .i64 0, .int .i64 0] 38).later (Below.alloc (Below.refl _ _) (Nat.le_refl _) A) (lt_alloc _ _)
    rw [hR.store (P := Try.prog) (by rw [hk, hz]) h1, setCells_alloc _ _ _ _ _ (lt_alloc _ _), node_new W _ _ hz hk h1]
end Go.Proofs.Ytekdcfepfieleaa
