/- A map of any numbers to numbers, while it is filled and while it is gone over; lives in blocks. -/
import Derived.Test.YtmifojpmomdmeaaND
import Derived.Test.YtmifojpmomdmeaaPkP
import Derived.Maps.OwnSet
import Derived.Maps.RangeWalk
namespace Go.Proofs.Ytmifojpmomdmeaa
open Go Go.RowKit Go.Maps
set_option linter.unusedVariables false
set_option linter.unusedSimpArgs false
set_option maxRecDepth 100000

theorem lawJ : Keyed Try.prog 3 := int_keyed Try.underlying3
theorem zeroJ (w : World) : (zeroValue 3).run Try.prog w = .ok (.int .i64 0) w := by kernel_rfl
def In64 (x : Int) : Prop := -9223372036854775808 ≤ x ∧ x ≤ 9223372036854775807
theorem wf64 {x : Int} (h : In64 x) : (Lit.int .i64 x).wf = true := by unfold In64 at h; simp [Lit.wf, IntKind.min, IntKind.max, IntKind.signed, IntKind.bits]; omega
theorem of_wf64 {x : Int} (h : (Lit.int .i64 x).wf = true) : In64 x := by unfold In64; simp [Lit.wf, IntKind.min, IntKind.max, IntKind.signed, IntKind.bits] at h; omega
theorem keyJ {x : Int} (h : In64 x) : keyOf Try.prog 3 (.int .i64 x) = some (.int .i64 x) := keyOf_int_mk Try.underlying3 (wf64 h)
theorem key_litJ (x : Int) : WideAt.IsKeyLit (Lit.int .i64 x) := by simp [WideAt.IsKeyLit]
theorem key_neJ {x y : Int} (h : x ≠ y) : Lit.int .i64 x ≠ Lit.int .i64 y := fun e => h (by injection e)
/-- what a map reads as: its keys, and what is told at each number -/
def GivesG (D : DataW Unit) (K : List Int) (f : Int → Int) : Prop := ∀ x : Int, Maps.has D (.int .i64 x) = decide (x ∈ K) ∧ D.atKey (.int .i64 x) (.lit (.int .i64 0)) = .lit (.int .i64 (f x))
def MapG (w : World) (b n : Nat) (K : List Int) (f : Int → Int) : Prop := ∃ D : DataW Unit, w.ownsMap Try.prog 3 (plainElem Try.prog 3) b n D ∧ GivesG D K f
theorem MapG.made (w : World) : MapG (w.alloc (.map #[] 0)) w.heap.size 0 [] (fun _ => 0) := ⟨.map [], World.ownsMap_made _ _ _ _, fun x => ⟨rfl, rfl⟩⟩
theorem givesG_put {D : DataW Unit} {K : List Int} {f : Int → Int} (hD : IsMap D) (h : GivesG D K f) (y c : Int) : GivesG (D.put (.int .i64 y) (.lit (.int .i64 c))) (if y ∈ K then K else K ++ [y]) (fun x => if y = x then c else f x) := by
  intro x
  by_cases hx : x = y
  · subst hx
    dsimp only
    rw [if_pos rfl, has_put_same hD (key_litJ _), atKey_put_same hD (key_litJ _)]
    refine ⟨?_, rfl⟩
    symm
    split <;> simp [*]
  · dsimp only
    rw [if_neg (Ne.symm hx), has_put_other (key_neJ hx), atKey_put_other (key_neJ hx)]
    refine ⟨?_, (h x).2⟩
    rw [(h x).1]
    split <;> simp [hx]
theorem MapG.outN {w w' : World} {b n : Nat} {K : List Int} {f : Int → Int} {S : Nat → Prop} (h : MapG w b n K f) (k : Out S w w') (hs : ¬ S b) : MapG w' b n K f := by
  obtain ⟨D, ⟨es, clock, hb, r⟩, h2⟩ := h
  exact ⟨D, ⟨es, clock, (k.block b (Array.getElem?_eq_some_iff.1 hb).1 hs).trans hb, r⟩, h2⟩
theorem MapG.over {w w' : World} {b n : Nat} {K : List Int} {f : Int → Int} (h : MapG w b n K f) (k : Below w.heap.size w w') : MapG w' b n K f := h.outN (Out.of_below (fun _ => False) k) id
theorem MapG.lt {w : World} {b n : Nat} {K : List Int} {f : Int → Int} (h : MapG w b n K f) : b < w.heap.size := by
  obtain ⟨D, hD, _⟩ := h
  exact hD.lt
/-- the map gone over: the keys still to come -/
def RangeG (w : World) (b r n : Nat) (f : Int → Int) (R : List Int) : Prop :=
  ∃ (D : DataW Unit) (K : List Int) (left : Lit → Bool) (cnt : Nat), w.ranges Try.prog 3 (plainElem Try.prog 3) b r n D left cnt ∧ GivesG D K f ∧ R.Nodup ∧ ∀ x : Int, left (.int .i64 x) = decide (x ∈ R)
section
variable {ops : Array Oper} {rest : List Oper} {o : Oper} {a : Act} {Q : Exit → Act → World → Prop}
/-- 'm[y]' -/
theorem look_g (w : World) (hg : o.guard = none) (m x : Operand) (t : TypeId) (hop : o.op = Op.lookup t m x false) (ht : Try.prog.underlying t = some (.map 3 3)) (b n : Nat) (K : List Int) (f : Int → Int)
    (hm : a.eval m = .map (some b)) (hM : MapG w b n K f) (y : Int) (hx : a.eval x = .int .i64 y) (hy : In64 y)
    (hK : wpList Try.prog ops Q rest (a.put o.dst (.int .i64 (f y))) w) : wpList Try.prog ops Q (o :: rest) a w := by
  obtain ⟨D, hD, h2⟩ := hM
  refine wpList_lookup_own_int w hg m x t hop 3 3 .i64 lawJ ht Try.underlying3 (zeroJ w) b n D hm hD _ _ hx (keyJ hy) ?_
  intro c hc _
  rw [(h2 y).2] at hc
  injection hc with hc
  injection hc with _ hc
  subst hc
  exact hK
/-- 'm[y] = c' -/
theorem store_g (w : World) (hg : o.guard = none) (m x v : Operand) (t : TypeId) (hop : o.op = Op.mapUpdate t m x v) (ht : Try.prog.underlying t = some (.map 3 3)) (b n : Nat) (K : List Int) (f : Int → Int)
    (hm : a.eval m = .map (some b)) (hM : MapG w b n K f) (hn : n ≤ 1000000) (y c : Int) (hx : a.eval x = .int .i64 y) (hv : a.eval v = .int .i64 c) (hy : In64 y) (hc : In64 c)
    (hK : ∀ w', MapG w' b (n + 1) (if y ∈ K then K else K ++ [y]) (fun x => if y = x then c else f x) → Out (fun j => j = b) w w' → wpList Try.prog ops Q rest (a.put o.dst undef) w') : wpList Try.prog ops Q (o :: rest) a w := by
  obtain ⟨D, hD, h2⟩ := hM
  refine wpList_mapUpdate_own w hg m x v t hop 3 3 lawJ ht (plainElem Try.prog 3) b n D hm hD (Nat.lt_of_le_of_lt hn (by decide)) _ _ _ hx hv (keyJ hy) (.lit (.int .i64 c)) [] (plainElem_int Try.underlying3 (wf64 hc)) ?_
  intro w' hw' hg'
  exact hK w' ⟨_, hw', givesG_put hD.isMap h2 y c⟩ (Out.of_grown hg' fun k hk => by injection hk with hk; exact hk.symm)
/-- 'range m' -/
theorem range_g (w : World) (hg : o.guard = none) (m : Operand) (t : TypeId) (hop : o.op = Op.range t m) (ht : Try.prog.underlying t = some (.map 3 3)) (b n : Nat) (K : List Int) (f : Int → Int)
    (hm : a.eval m = .map (some b)) (hM : MapG w b n K f) (hK : K.Nodup)
    (hQ : ∀ w', RangeG w' b w.heap.size n f K → Below w.heap.size w w' → wpList Try.prog ops Q rest (a.put o.dst (.pointer (some ⟨w.heap.size, 0, none⟩))) w') : wpList Try.prog ops Q (o :: rest) a w := by
  obtain ⟨D, hD, h2⟩ := hM
  refine wpList_range_own w hg m t hop 3 3 lawJ ht (plainElem Try.prog 3) b n D hm hD ?_
  intro w' h1 h3 _
  exact hQ w' ⟨D, K, _, _, h1, h2, hK, fun x => (h2 x).1⟩ ⟨h3.os, h3.tape, h3.output, h3.size, fun i hi => h3.block i hi (by simp)⟩
/-- the next one of those still to come, whichever it is -/
theorem next_g (w : World) (hg : o.guard = none) (it : Operand) (hop : o.op = Op.next it false) (b r n : Nat) (f : Int → Int) (R : List Int) (hit : a.eval it = .pointer (some ⟨r, 0, none⟩)) (h : RangeG w b r n f R)
    (hDone : R = [] → wpList Try.prog ops Q rest (a.put o.dst (.tuple #[.bool false])) w)
    (hMore : ∀ (x : Int) (w' : World), x ∈ R → RangeG w' b r n f (R.erase x) → w'.rangeLeft b r < w.rangeLeft b r → Out (fun j => j = r) w w' → w'.heap.size = w.heap.size →
      (Instr.entry (.pointer (some ⟨r, 0, none⟩))).run Try.prog w' = .ok (.tuple #[.int .i64 x, .int .i64 (f x)]) w' → wpList Try.prog ops Q rest (a.put o.dst (.tuple #[.bool true, .int .i64 x, .int .i64 (f x)])) w') : wpList Try.prog ops Q (o :: rest) a w := by
  obtain ⟨D, K, left, cnt, h1, h2, h3, h4⟩ := h
  refine wpList_next_ranges_ii w hg it hop 3 3 .i64 .i64 lawJ Try.underlying3 Try.underlying3 b r n D left cnt hit h1 ?_ ?_
  · intro _ hl
    refine hDone ?_
    cases R with
    | nil => rfl
    | cons y R => have := h4 y; rw [hl] at this; simp at this
  · intro x c w' cnt' _ _ hx hc hr hlt hg' hs hen
    have hxR : x ∈ R := by have := h4 x; rw [hx] at this; simpa using this.symm
    have hcx : c = f x := by
      have := (h2 x).2
      rw [hc] at this
      injection this with this
      injection this
    subst hcx
    refine hMore x w' hxR ⟨D, K, _, cnt', hr, h2, h3.erase x, fun y => ?_⟩ (by rw [hr.left_eq, h1.left_eq]; exact hlt) (Out.of_grown hg' fun k hk => by injection hk with hk; exact hk.symm) hs hen
    by_cases e : y = x
    · subst e
      have hself : (Lit.int .i64 y).sameKey (.int .i64 y) = true := WideAt.sameKey_self (key_litJ y)
      show (left (.int .i64 y) && !(Lit.int .i64 y).sameKey (.int .i64 y)) = _
      rw [hself]
      simp [h3.not_mem_erase]
    · show (left (.int .i64 y) && !(Lit.int .i64 y).sameKey (.int .i64 x)) = _
      rw [Maps.sameKey_ne (key_neJ e), h4 y]
      simp [List.mem_erase_of_ne e]
end
/-- lives in a block -/
def Lg.okay (x : Lg) : Prop := In64 x.v ∧ In64 x.b ∧ In64 x.s ∧ In64 x.f ∧ In64 x.t
def LgAt (w : World) (a : Option Addr) (l : List Lg) : Prop :=
  ∀ (k : Nat) (x : Lg), l[k]? = some x → ∃ g off, a = some ⟨g, off, none⟩ ∧ g < w.heap.size ∧ w.cell? ⟨g, off + k * 5, none⟩ = some (.int .i64 x.v) ∧ w.cell? ⟨g, off + k * 5 + 1, none⟩ = some (.int .i64 x.b) ∧ w.cell? ⟨g, off + k * 5 + 2, none⟩ = some (.int .i64 x.s) ∧ w.cell? ⟨g, off + k * 5 + 3, none⟩ = some (.int .i64 x.f) ∧ w.cell? ⟨g, off + k * 5 + 4, none⟩ = some (.int .i64 x.t)
theorem LgAt.later {w w' : World} {a : Option Addr} {l : List Lg} (h : LgAt w a l) (hb : Below w.heap.size w w') : LgAt w' a l := fun k x hx => by
  obtain ⟨g, off, h0, h1, c0, c1, c2, c3, c4⟩ := h k x hx
  exact ⟨g, off, h0, Nat.lt_of_lt_of_le h1 hb.size, (hb.cell (p := ⟨g, _, none⟩) h1).trans c0, (hb.cell (p := ⟨g, _, none⟩) h1).trans c1, (hb.cell (p := ⟨g, _, none⟩) h1).trans c2, (hb.cell (p := ⟨g, _, none⟩) h1).trans c3, (hb.cell (p := ⟨g, _, none⟩) h1).trans c4⟩
theorem LgAt.far {w w' : World} {a : Option Addr} {l : List Lg} {S : Nat → Prop} {n : Nat} (h : LgAt w a l) (k : Out S w w') (hs : ∀ j, S j → w.heap.size ≤ j) : LgAt w' a l := fun i x hx => by
  obtain ⟨g, off, h0, h1, c0, c1, c2, c3, c4⟩ := h i x hx
  have hn : ¬ S g := fun e => by have := hs g e; omega
  exact ⟨g, off, h0, Nat.lt_of_lt_of_le h1 k.size, (k.cell (p := ⟨g, _, none⟩) h1 hn).trans c0, (k.cell (p := ⟨g, _, none⟩) h1 hn).trans c1, (k.cell (p := ⟨g, _, none⟩) h1 hn).trans c2, (k.cell (p := ⟨g, _, none⟩) h1 hn).trans c3, (k.cell (p := ⟨g, _, none⟩) h1 hn).trans c4⟩
theorem szF_in {p b : Int} {l : List Lg} (h : ∀ x ∈ l, x.okay) : In64 (szF p b l) := by
  have h0 := szF_nn p b l
  rcases szF_or p b l with e | ⟨x, hx, _, _, e⟩
  · rw [e]; unfold In64; omega
  · rw [← e]; exact (h x hx).2.2.1
theorem heldF_in (l : List Lg) (p : Int) : 0 ≤ heldF l p ∧ heldF l p ≤ 1099511627776 := ⟨heldF_nn l p, cap_max _⟩
end Go.Proofs.Ytmifojpmomdmeaa
