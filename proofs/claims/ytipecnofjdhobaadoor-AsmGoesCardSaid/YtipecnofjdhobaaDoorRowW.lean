/- Whole structs: blocks that hold a list of cells, loaded and stored in one step. Over any program. -/
import Derived.Deep.WholeRow
import Derived.Laws.IdiomCopy
import Derived.Laws.OwnMore
import Derived.Deep.MidRow
import Derived.Below
namespace Go.Proofs.YtipecnofjdhobaaDoor
open Go Go.RowKit
set_option linter.unusedVariables false
variable {P : Program}

/-- the block b holds the cells l -/
structure RowAt (w : World) (b : Nat) (l : List Value) : Prop where
  lt : b < w.heap.size
  fr : ∀ j : Nat, w.frozen? ⟨b, j, none⟩ = false
  cell : ∀ (j : Nat) (u : Value), l[j]? = some u → w.cell? ⟨b, j, none⟩ = some u
theorem addr_add0 (b j : Nat) : (⟨b, 0, none⟩ : Addr).add j = ⟨b, j, none⟩ := by unfold Addr.add; split <;> simp_all
theorem RowAt.far {w w' : World} {b : Nat} {l : List Value} {r : Option Nat} (h : RowAt w b l) (hg : w.grownBy w' r) (hr : some b ≠ r) : RowAt w' b l :=
  ⟨Nat.lt_of_lt_of_le h.lt hg.size, fun j => (World.frozen?_of_block (hg.block b h.lt hr)).trans (h.fr j), fun j u hu => hg.cell (h.cell j u hu) hr⟩
theorem RowAt.later {w w' : World} {b n : Nat} {l : List Value} (h : RowAt w b l) (hb : Below n w w') (hn : b < n) : RowAt w' b l :=
  ⟨Nat.lt_of_lt_of_le h.lt hb.size, fun j => (World.frozen?_of_block (hb.block b hn)).trans (h.fr j), fun j u hu => (hb.cell hn).trans (h.cell j u hu)⟩
theorem RowAt.new (w : World) (l : List Value) (t : TypeId) : RowAt (w.alloc (.cells l.toArray t)) w.heap.size l := by
  refine ⟨by simp, fun j => ?_, fun j u hu => ?_⟩
  · rw [frozen?_alloc_cells]; simp [World.frozen?]
  · rw [World.cell?_alloc_new]; simpa using hu
theorem RowAt.drew {w : World} {b : Nat} {l : List Value} (h : RowAt w b l) : RowAt w.drew b l := ⟨h.lt, h.fr, h.cell⟩
theorem lt_alloc (w : World) (o : Obj) : w.heap.size < (w.alloc o).heap.size := by simp
theorem lt_alloc_drew (w : World) (o : Obj) : w.heap.size < (w.alloc o).drew.heap.size := lt_alloc w o
theorem below_call {w W w2 : World} (h : Below w.heap.size w W) (hb : Below W.heap.size W w2) : Below w.heap.size w w2 := h.trans (hb.mono h.size)
theorem RowAt.set {w : World} {b : Nat} {l l' : List Value} (h : RowAt w b l) (j : Nat) (v : Value) (hj : j < l.length) (e : l' = l.set j v) : RowAt (w.setCell ⟨b, j, none⟩ v) b l' := by
  subst e
  refine ⟨by simpa using h.lt, fun i => by simpa using h.fr i, fun i u hi => ?_⟩
  by_cases g : i = j
  · subst g
    rw [World.cell?_setCell_same _ _ _ (h.cell i _ (List.getElem?_eq_getElem hj))]
    rw [List.getElem?_set_self hj] at hi
    exact hi
  · rw [World.cell?_setCell_other _ _ _ _ (by intro e; simp at e; try exact g e.symm)]
    rw [List.getElem?_set_ne (by omega)] at hi
    exact h.cell i u hi
theorem RowAt.aside {w : World} {b : Nat} {l : List Value} (h : RowAt w b l) (B j : Nat) (v : Value) (hne : B ≠ b) : RowAt (w.setCell ⟨B, j, none⟩ v) b l :=
  ⟨by simpa using h.lt, fun i => by simpa using h.fr i, fun i u hi => by rw [World.cell?_setCell_other _ _ _ _ (by intro e; simp at e; exact hne e.1)]; exact h.cell i u hi⟩
theorem RowAt.over {w w' : World} {b : Nat} {l : List Value} (h : RowAt w b l) (hb : Below w.heap.size w w') : RowAt w' b l := h.later hb h.lt
theorem RowAt.load {w : World} {b : Nat} {l : List Value} (h : RowAt w b l) {n : Nat} (hn : l.length = n) : (loadCellsFrom ⟨b, 0, none⟩ 0 n #[]).run P w = .ok l.toArray w := by
  have := run_loadCells_list (P := P) (w := w) ⟨b, 0, none⟩ l (fun j v hv => by rw [addr_add0]; exact h.cell j v hv)
  rw [hn] at this
  simpa [loadCells] using this
theorem RowAt.store {w : World} {b : Nat} {l l' : List Value} (h : RowAt w b l) (hl : l'.length = l.length) (h1 : ∀ v ∈ l', v.oneCell' = true) : (storeCells ⟨b, 0, none⟩ l' 0).run P w = .ok () (w.setCells b 0 l') := by
  have := run_storeCells_cells (P := P) b 0 l' 0 w (fun j hj => by
    rw [h.cell (0 + 0 + j) _ (List.getElem?_eq_getElem (by omega))]; rfl) (fun j hj => h.fr _) h1
  simpa using this
theorem RowAt.stored {w : World} {b : Nat} {l l' : List Value} (h : RowAt w b l) (hl : l'.length = l.length) : RowAt (w.setCells b 0 l') b l' := by
  refine ⟨?_, fun j => by rw [World.frozen?_setCells]; exact h.fr j, fun j u hu => ?_⟩
  · exact Nat.lt_of_lt_of_le h.lt (World.keptBut_setCells b (may := fun _ => True) l' 0 w (fun _ _ => trivial)).size
  · obtain ⟨hj, rfl⟩ := List.getElem?_eq_some_iff.1 hu
    have := World.cell?_setCells_in b l' 0 w (fun i hi => by rw [h.cell (0 + i) _ (List.getElem?_eq_getElem (by omega))]; rfl) j hj
    simpa using this
theorem RowAt.range {w : World} {b : Nat} {l : List Value} (h : RowAt w b l) : w.rangeAt b 0 l := fun j v hv => by simpa using h.cell j v hv
theorem RowAt.there {w : World} {b : Nat} {l : List Value} (h : RowAt w b l) (n : Nat) (hn : n ≤ l.length) : w.there b 0 n := fun j hj => by
  rw [h.cell (0 + j) _ (List.getElem?_eq_getElem (by omega))]; exact ⟨rfl, h.fr _⟩
theorem results_cell_mid {fn : Func} {p : Tmp} {ty : TypeId} (h : fn.results = #[.cell p ty]) (tmps : Array Value) (w : World) (g : Nat) (cs : Array Value)
    (hp : tmps.getD p undef = .pointer (some ⟨g, 0, none⟩)) (hl : (loadVar ty ⟨g, 0, none⟩).run P w = .ok (.agg cs) w) : (results fn tmps).run P w = .ok (.agg cs) w := by
  have hp' : tmps[p]?.getD undef = .pointer (some ⟨g, 0, none⟩) := by simpa using hp
  simp [results, h, hp', asAddr, hl]
theorem results_cell_mid2 {fn : Func} {p u : Tmp} {ty : TypeId} (h : fn.results = #[.cell p ty, .tmp u]) (tmps : Array Value) (w : World) (g : Nat) (cs : Array Value)
    (hp : tmps.getD p undef = .pointer (some ⟨g, 0, none⟩)) (hl : (loadVar ty ⟨g, 0, none⟩).run P w = .ok (.agg cs) w) : (results fn tmps).run P w = .ok (.tuple #[.agg cs, tmps.getD u undef]) w := by
  have hp' : tmps[p]?.getD undef = .pointer (some ⟨g, 0, none⟩) := by simpa using hp
  simp [results, h, hp', asAddr, hl]
theorem load_new (w : World) (l : List Value) (t ty : TypeId) (d : TypeDesc) (hu : P.underlying ty = some d) (hd : d.isRow = true) (hi : (P.info? ty).map (·.size) = some l.length) :
    (loadVar ty ⟨w.heap.size, 0, none⟩).run P (w.alloc (.cells l.toArray t)) = .ok (.agg l.toArray) (w.alloc (.cells l.toArray t)) := run_loadVar_mid _ _ _ _ _ d (RowAt.new w l t).range hu hd hi
theorem load_row {w : World} {b : Nat} {l : List Value} (h : RowAt w b l) (ty : TypeId) (d : TypeDesc) (hu : P.underlying ty = some d) (hd : d.isRow = true) (hi : (P.info? ty).map (·.size) = some l.length) :
    (loadVar ty ⟨b, 0, none⟩).run P w = .ok (.agg l.toArray) w := run_loadVar_mid _ _ _ _ _ d h.range hu hd hi
theorem grown_setCells (b : Nat) (l : List Value) (w : World) : ∀ o, w.grownBy (w.setCells b o l) (some b) := by
  induction l generalizing w with
  | nil => exact fun o => ⟨rfl, rfl, rfl, Nat.le_refl _, fun _ _ _ => rfl⟩
  | cons v r ih =>
    intro o
    have h := ih (w.setCell ⟨b, o, none⟩ v) (o + 1)
    have h0 : w.grownBy (w.setCell ⟨b, o, none⟩ v) (some b) := ⟨rfl, rfl, rfl, by simp [World.setCell], fun i hk hne => RowKit.Below.heap_setCell _ _ _ _ (by intro e; exact hne (by rw [e]))⟩
    exact ⟨h.os.trans h0.os, h.tape.trans h0.tape, h.output.trans h0.output, Nat.le_trans h0.size h.size, fun i hi hne => (h.block i (Nat.lt_of_lt_of_le hi h0.size) hne).trans (h0.block i hi hne)⟩
theorem setCells_alloc (o : Obj) (n : Nat) : ∀ (l : List Value) (i : Nat) (w : World), n < w.heap.size → (w.alloc o).setCells n i l = (w.setCells n i l).alloc o
  | [], _, _, _ => rfl
  | v :: r, i, w, h => by
    show ((w.alloc o).setCell ⟨n, i, none⟩ v).setCells n (i + 1) r = _
    rw [World.setCell_alloc_past o n i v h]
    exact setCells_alloc o n r (i + 1) _ (by simpa using h)
theorem grown_below {w w1 : World} {b n : Nat} (h : w.grownBy w1 (some b)) (hn : n ≤ b) (hw : n ≤ w.heap.size) : Below n w w1 :=
  ⟨h.os, h.tape, h.output, h.size, fun i hi => h.block i (by omega) (by intro e; simp at e; omega)⟩
end Go.Proofs.YtipecnofjdhobaaDoor
