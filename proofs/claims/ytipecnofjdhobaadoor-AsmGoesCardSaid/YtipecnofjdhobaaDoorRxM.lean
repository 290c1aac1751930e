/- A map of any numbers to numbers; rows of numbers and booleans. -/
import Derived.Test.YtipecnofjdhobaaDoorRowO
import Derived.Test.YtipecnofjdhobaaDoorBoN
import Derived.Test.YtipecnofjdhobaaDoorRxP
import Derived.Deep.DeepCutAuto
import Derived.Carry
import Derived.Lib.Hide
import Derived.Handy
import Derived.BigRegion
import Derived.Deep.RegionHeld3
import Derived.Maps.OwnSet
import Derived.Maps.RangeWalk
namespace Go.Proofs.YtipecnofjdhobaaDoor
open Go Go.RowKit Go.Maps
set_option linter.unusedVariables false
set_option linter.unusedSimpArgs false
set_option maxRecDepth 100000

theorem lawJ : Keyed Tryd.prog 3 := int_keyed Tryd.underlying3
theorem zeroJ (w : World) : (zeroValue 3).run Tryd.prog w = .ok (.int .i64 0) w := by kernel_rfl
def In64 (x : Int) : Prop := -9223372036854775808 ≤ x ∧ x ≤ 9223372036854775807
theorem wf64 {x : Int} (h : In64 x) : (Lit.int .i64 x).wf = true := by unfold In64 at h; simp [Lit.wf, IntKind.min, IntKind.max, IntKind.signed, IntKind.bits]; omega
theorem of_wf64 {x : Int} (h : (Lit.int .i64 x).wf = true) : In64 x := by unfold In64; simp [Lit.wf, IntKind.min, IntKind.max, IntKind.signed, IntKind.bits] at h; omega
theorem keyJ {x : Int} (h : In64 x) : keyOf Tryd.prog 3 (.int .i64 x) = some (.int .i64 x) := keyOf_int_mk Tryd.underlying3 (wf64 h)
theorem key_litJ (x : Int) : WideAt.IsKeyLit (Lit.int .i64 x) := by simp [WideAt.IsKeyLit]
theorem key_neJ {x y : Int} (h : x ≠ y) : Lit.int .i64 x ≠ Lit.int .i64 y := fun e => h (by injection e)
/-- what a map reads as: its keys, and what is told at each number -/
def GivesG (D : DataW Unit) (K : List Int) (f : Int → Int) : Prop := ∀ x : Int, Maps.has D (.int .i64 x) = decide (x ∈ K) ∧ D.atKey (.int .i64 x) (.lit (.int .i64 0)) = .lit (.int .i64 (f x))
def MapG (w : World) (b n : Nat) (K : List Int) (f : Int → Int) : Prop := ∃ D : DataW Unit, w.ownsMap Tryd.prog 3 (plainElem Tryd.prog 3) b n D ∧ GivesG D K f
theorem MapG.made (w : World) : MapG (w.alloc (.map #[] 0)) w.heap.size 0 [] (fun _ => 0) := ⟨.map [], World.ownsMap_made _ _ _ _, fun x => ⟨rfl, rfl⟩⟩
theorem givesG_put {D : DataW Unit} {K : List Int} {f : Int → Int} (hD : IsMap D) (h : GivesG D K f) (y c : Int) : GivesG (D.put (.int .i64 y) (.lit (.int .i64 c))) (if y ∈ K then K else K ++ [y]) (fun x => if y = x then c else f x) := by
  intro x
  by_cases hx : x = y
  · subst hx
    dsimp only
    rw [if_pos rfl, has_put_same hD (key_litJ _), atKey_put_same hD (key_litJ _)]
    refine ⟨?_, rfl⟩
    symm
    split <;> simp [*]
  · dsimp only
    rw [if_neg (Ne.symm hx), has_put_other (key_neJ hx), atKey_put_other (key_neJ hx)]
    refine ⟨?_, (h x).2⟩
    rw [(h x).1]
    split <;> simp [hx]
theorem MapG.outN {w w' : World} {b n : Nat} {K : List Int} {f : Int → Int} {S : Nat → Prop} (h : MapG w b n K f) (k : Out S w w') (hs : ¬ S b) : MapG w' b n K f := by
  obtain ⟨D, ⟨es, clock, hb, r⟩, h2⟩ := h
  exact ⟨D, ⟨es, clock, (k.block b (Array.getElem?_eq_some_iff.1 hb).1 hs).trans hb, r⟩, h2⟩
theorem MapG.over {w w' : World} {b n : Nat} {K : List Int} {f : Int → Int} (h : MapG w b n K f) (k : Below w.heap.size w w') : MapG w' b n K f := h.outN (Out.of_below (fun _ => False) k) id
theorem MapG.lt {w : World} {b n : Nat} {K : List Int} {f : Int → Int} (h : MapG w b n K f) : b < w.heap.size := by
  obtain ⟨D, hD, _⟩ := h
  exact hD.lt
section
variable {ops : Array Oper} {rest : List Oper} {o : Oper} {a : Act} {Q : Exit → Act → World → Prop}
/-- 'm[y]' -/
theorem look_g (w : World) (hg : o.guard = none) (m x : Operand) (t : TypeId) (hop : o.op = Op.lookup t m x false) (ht : Tryd.prog.underlying t = some (.map 3 3)) (b n : Nat) (K : List Int) (f : Int → Int)
    (hm : a.eval m = .map (some b)) (hM : MapG w b n K f) (y : Int) (hx : a.eval x = .int .i64 y) (hy : In64 y)
    (hK : wpList Tryd.prog ops Q rest (a.put o.dst (.int .i64 (f y))) w) : wpList Tryd.prog ops Q (o :: rest) a w := by
  obtain ⟨D, hD, h2⟩ := hM
  refine wpList_lookup_own_int w hg m x t hop 3 3 .i64 lawJ ht Tryd.underlying3 (zeroJ w) b n D hm hD _ _ hx (keyJ hy) ?_
  intro c hc _
  rw [(h2 y).2] at hc
  injection hc with hc
  injection hc with _ hc
  subst hc
  exact hK
/-- 'c, ok := m[y]' -/
theorem look_gok (w : World) (hg : o.guard = none) (m x : Operand) (t : TypeId) (hop : o.op = Op.lookup t m x true) (ht : Tryd.prog.underlying t = some (.map 3 3)) (b n : Nat) (K : List Int) (f : Int → Int)
    (hm : a.eval m = .map (some b)) (hM : MapG w b n K f) (y : Int) (hx : a.eval x = .int .i64 y) (hy : In64 y)
    (hK : wpList Tryd.prog ops Q rest (a.put o.dst (.tuple #[.int .i64 (f y), .bool (decide (y ∈ K))])) w) : wpList Tryd.prog ops Q (o :: rest) a w := by
  obtain ⟨D, hD, h2⟩ := hM
  refine wpList_lookup_own_ok w hg m x t hop 3 3 lawJ ht (plainElem Tryd.prog 3) (zeroJ w) (.lit (.int .i64 0)) [] (plainElem_int Tryd.underlying3 (by decide)) b n D hm hD _ _ hx (keyJ hy) ?_
  intro v ps hv
  rw [(h2 y).2] at hv
  obtain ⟨c, rfl, hc, hw⟩ := plainElem_int_inv Tryd.underlying3 hv
  obtain rfl : f y = c := by simp at hc; exact hc.1
  rw [(h2 y).1]
  exact hK
/-- 'm[y] = c' -/
theorem store_g (w : World) (hg : o.guard = none) (m x v : Operand) (t : TypeId) (hop : o.op = Op.mapUpdate t m x v) (ht : Tryd.prog.underlying t = some (.map 3 3)) (b n : Nat) (K : List Int) (f : Int → Int)
    (hm : a.eval m = .map (some b)) (hM : MapG w b n K f) (hn : n ≤ 1000000) (y c : Int) (hx : a.eval x = .int .i64 y) (hv : a.eval v = .int .i64 c) (hy : In64 y) (hc : In64 c)
    (hK : ∀ w', MapG w' b (n + 1) (if y ∈ K then K else K ++ [y]) (fun x => if y = x then c else f x) → Out (fun j => j = b) w w' → wpList Tryd.prog ops Q rest (a.put o.dst undef) w') : wpList Tryd.prog ops Q (o :: rest) a w := by
  obtain ⟨D, hD, h2⟩ := hM
  refine wpList_mapUpdate_own w hg m x v t hop 3 3 lawJ ht (plainElem Tryd.prog 3) b n D hm hD (Nat.lt_of_le_of_lt hn (by decide)) _ _ _ hx hv (keyJ hy) (.lit (.int .i64 c)) [] (plainElem_int Tryd.underlying3 (wf64 hc)) ?_
  intro w' hw' hg'
  exact hK w' ⟨_, hw', givesG_put hD.isMap h2 y c⟩ (Out.of_grown hg' fun k hk => by injection hk with hk; exact hk.symm)
end
theorem mapR_at {α : Type} {n : Nat} (f : Nat → α) {i : Nat} (h : i < n) : ((List.range n).map f)[i]? = some (f i) := by simp [h]
theorem mapR_set {α : Type} (n : Nat) (f g : Nat → α) (i : Nat) (x : α) (h : ∀ j, j < n → g j = if j = i then x else f j) : ((List.range n).map f).set i x = (List.range n).map g := by
  apply List.ext_getElem (by simp)
  intro j h1 h2
  have hj : j < n := by simpa using h2
  rw [List.getElem_set, List.getElem_map, List.getElem_map, List.getElem_range, h j hj]
  by_cases e : i = j
  · rw [if_pos e, if_pos e.symm]
  · rw [if_neg e, if_neg (Ne.symm e)]
theorem mapR_eq {α : Type} {n : Nat} {f g : Nat → α} (h : ∀ j, j < n → f j = g j) : (List.range n).map f = (List.range n).map g :=
  List.map_congr_left fun j hj => h j (List.mem_range.1 hj)
theorem rep_map {α : Type} (n : Nat) (x : α) : List.replicate n x = (List.range n).map fun _ => x := by
  apply List.ext_getElem (by simp)
  intro j h1 h2
  simp
theorem info_intO : (Tryd.prog.info? 3).map (fun i => (i.zero, i.size, i.bytes)) = some (some (.int .i64 0), 1, 8) := by kernel_rfl
theorem madeO (v : Value) (n : Nat) : madeCells #[v] n = (List.replicate n v).toArray := by
  apply Array.ext'
  apply List.ext_getElem
  · simp [madeCells]
  · intro i h1 h2
    simp [madeCells, Nat.mod_one]
theorem out_setB (w : World) (B j : Nat) (v : Value) : Out (fun i => i = B) w (w.setCell ⟨B, j, none⟩ v) :=
  ⟨rfl, rfl, rfl, by simp [World.setCell], fun k hk hs => RowKit.Below.heap_setCell _ _ _ _ (fun e => hs e)⟩
/-- n numbers -/
def iR (n : Nat) (f : Nat → Int) : List Value := (List.range n).map fun i => .int .i64 (f i)
/-- n booleans -/
def bR (n : Nat) (f : Nat → Bool) : List Value := (List.range n).map fun i => .bool (f i)
theorem iR_at {n i : Nat} (f : Nat → Int) (h : i < n) : (iR n f)[i]? = some (.int .i64 (f i)) := mapR_at _ h
theorem bR_at {n i : Nat} (f : Nat → Bool) (h : i < n) : (bR n f)[i]? = some (.bool (f i)) := mapR_at _ h
theorem iR_eq {n : Nat} {f g : Nat → Int} (h : ∀ j, j < n → f j = g j) : iR n f = iR n g := mapR_eq fun j hj => by rw [h j hj]
theorem bR_eq {n : Nat} {f g : Nat → Bool} (h : ∀ j, j < n → f j = g j) : bR n f = bR n g := mapR_eq fun j hj => by rw [h j hj]
theorem iR_row {w : World} {B n i : Nat} {f f' : Nat → Int} {x : Int} (h : RowAt w B (iR n f)) (hi : i < n) (hf : ∀ j, j < n → f' j = if j = i then x else f j) : RowAt (w.setCell ⟨B, i, none⟩ (.int .i64 x)) B (iR n f') :=
  h.set i (.int .i64 x) (by simp [iR]; exact hi) (mapR_set n _ _ i _ (fun j hj => by rw [hf j hj]; split <;> rfl)).symm
theorem bR_row {w : World} {B n i : Nat} {f f' : Nat → Bool} {x : Bool} (h : RowAt w B (bR n f)) (hi : i < n) (hf : ∀ j, j < n → f' j = if j = i then x else f j) : RowAt (w.setCell ⟨B, i, none⟩ (.bool x)) B (bR n f') :=
  h.set i (.bool x) (by simp [bR]; exact hi) (mapR_set n _ _ i _ (fun j hj => by rw [hf j hj]; split <;> rfl)).symm
theorem iR_made (w : World) (n : Nat) : RowAt (w.alloc (.cells (madeCells #[Value.int .i64 0] n) 3)) w.heap.size (iR n fun _ => 0) := by
  rw [madeO, rep_map]; exact RowAt.new w _ _
theorem bR_made (w : World) (n : Nat) : RowAt (w.alloc (.cells (madeCells #[Value.bool false] n) 4)) w.heap.size (bR n fun _ => false) := by
  rw [madeO, rep_map]; exact RowAt.new w _ _
/-- an item -/
structure It where
  kd : Int
  op : Int
  rd : Int
  ra : Int
  rb : Int
  im : Int
  lb : Int
def It.cells (x : It) : List Value := [.int .i64 x.kd, .int .i64 x.op, .int .i64 x.rd, .int .i64 x.ra, .int .i64 x.rb, .int .i32 x.im, .int .i64 x.lb]
def It.val (x : It) : Value := .agg #[.int .i64 x.kd, .int .i64 x.op, .int .i64 x.rd, .int .i64 x.ra, .int .i64 x.rb, .int .i32 x.im, .int .i64 x.lb]
def It.okay (x : It) : Prop := In64 x.kd ∧ In64 x.op ∧ In64 x.rd ∧ In64 x.ra ∧ In64 x.rb ∧ (-2147483648 ≤ x.im ∧ x.im ≤ 2147483647) ∧ In64 x.lb
/-- items in a block -/
def ItAt (w : World) (a : Option Addr) (l : List It) : Prop :=
  ∀ (k : Nat) (x : It), l[k]? = some x → ∃ g off, a = some ⟨g, off, none⟩ ∧ g < w.heap.size ∧ w.cell? ⟨g, off + k * 7, none⟩ = some (.int .i64 x.kd) ∧ w.cell? ⟨g, off + k * 7 + 1, none⟩ = some (.int .i64 x.op) ∧ w.cell? ⟨g, off + k * 7 + 2, none⟩ = some (.int .i64 x.rd) ∧ w.cell? ⟨g, off + k * 7 + 3, none⟩ = some (.int .i64 x.ra) ∧ w.cell? ⟨g, off + k * 7 + 4, none⟩ = some (.int .i64 x.rb) ∧ w.cell? ⟨g, off + k * 7 + 5, none⟩ = some (.int .i32 x.im) ∧ w.cell? ⟨g, off + k * 7 + 6, none⟩ = some (.int .i64 x.lb)
theorem ItAt.out {w w' : World} {a : Option Addr} {l : List It} {S : Nat → Prop} (h : ItAt w a l) (k : Out S w w') (hs : ∀ g off, a = some ⟨g, off, none⟩ → l ≠ [] → g < w.heap.size → ¬ S g) : ItAt w' a l := fun i x hx => by
  obtain ⟨g, off, h0, h1, c0, c1, c2, c3, c4, c5, c6⟩ := h i x hx
  have hn : ¬ S g := hs g off h0 (fun e => by rw [e] at hx; simp at hx) h1
  exact ⟨g, off, h0, Nat.lt_of_lt_of_le h1 k.size, (k.cell (p := ⟨g, _, none⟩) h1 hn).trans c0, (k.cell (p := ⟨g, _, none⟩) h1 hn).trans c1, (k.cell (p := ⟨g, _, none⟩) h1 hn).trans c2, (k.cell (p := ⟨g, _, none⟩) h1 hn).trans c3, (k.cell (p := ⟨g, _, none⟩) h1 hn).trans c4, (k.cell (p := ⟨g, _, none⟩) h1 hn).trans c5, (k.cell (p := ⟨g, _, none⟩) h1 hn).trans c6⟩
theorem ItAt.later {w w' : World} {a : Option Addr} {l : List It} (h : ItAt w a l) (hb : Below w.heap.size w w') : ItAt w' a l := h.out (Out.of_below (fun _ => False) hb) (fun _ _ _ _ _ => id)
end Go.Proofs.YtipecnofjdhobaaDoor
