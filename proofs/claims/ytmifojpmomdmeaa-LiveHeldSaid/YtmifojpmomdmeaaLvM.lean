/- A map of numbers to numbers as a function. -/
import Derived.Test.YtmifojpmomdmeaaND
import Derived.Maps.OwnSet
namespace Go.Proofs.Ytmifojpmomdmeaa
open Go Go.RowKit Go.Maps
set_option linter.unusedVariables false
set_option linter.unusedSimpArgs false
set_option maxRecDepth 100000

theorem lawI : Keyed Try.prog 3 := int_keyed Try.underlying3
theorem zeroI (w : World) : (zeroValue 3).run Try.prog w = .ok (.int .i64 0) w := by kernel_rfl
theorem keyI (x : Nat) (h : x ≤ 1000000) : keyOf Try.prog 3 (.int .i64 (x : Int)) = some (.int .i64 (x : Int)) :=
  keyOf_int_mk Try.underlying3 (by simp [Lit.wf, IntKind.min, IntKind.max, IntKind.signed, IntKind.bits]; omega)
/-- block b is a map of at most n entries that is p -/
def MapAt (w : World) (b n : Nat) (p : Nat → Option Nat) : Prop :=
  ∃ D : DataW Unit, w.ownsMap Try.prog 3 (plainElem Try.prog 3) b n D ∧ ∀ x : Nat, Maps.has D (.int .i64 (x : Int)) = (p x).isSome ∧ ∀ c, p x = some c → D.atKey (.int .i64 (x : Int)) (.lit (.int .i64 0)) = .lit (.int .i64 (c : Int))
theorem key_ne {x y : Nat} (h : x ≠ y) : Lit.int .i64 (x : Int) ≠ Lit.int .i64 (y : Int) := fun e => h (by injection e with _ e; omega)
theorem key_lit (x : Nat) : WideAt.IsKeyLit (Lit.int .i64 (x : Int)) := by simp [WideAt.IsKeyLit]
theorem MapAt.made (w : World) : MapAt (w.alloc (.map #[] 0)) w.heap.size 0 (fun _ => none) :=
  ⟨.map [], World.ownsMap_made _ _ _ _, fun x => ⟨rfl, fun c h => by cases h⟩⟩
theorem map_put {D : DataW Unit} {p : Nat → Option Nat} (hD : IsMap D) (h : ∀ x : Nat, Maps.has D (.int .i64 (x : Int)) = (p x).isSome ∧ ∀ c, p x = some c → D.atKey (.int .i64 (x : Int)) (.lit (.int .i64 0)) = .lit (.int .i64 (c : Int))) (v c : Nat) :
    ∀ x : Nat, Maps.has (D.put (.int .i64 (v : Int)) (.lit (.int .i64 (c : Int)))) (.int .i64 (x : Int)) = ((fun y => if y = v then some c else p y) x).isSome ∧ ∀ e, (fun y => if y = v then some c else p y) x = some e → (D.put (.int .i64 (v : Int)) (.lit (.int .i64 (c : Int)))).atKey (.int .i64 (x : Int)) (.lit (.int .i64 0)) = .lit (.int .i64 (e : Int)) := by
  intro x
  by_cases hx : x = v
  · subst hx
    dsimp only
    rw [if_pos rfl, has_put_same hD (key_lit _), atKey_put_same hD (key_lit _)]
    exact ⟨rfl, fun e he => by cases he; rfl⟩
  · dsimp only
    rw [if_neg hx, has_put_other (key_ne hx), atKey_put_other (key_ne hx)]
    exact h x
theorem map_del {D : DataW Unit} {p : Nat → Option Nat} (h : ∀ x : Nat, Maps.has D (.int .i64 (x : Int)) = (p x).isSome ∧ ∀ c, p x = some c → D.atKey (.int .i64 (x : Int)) (.lit (.int .i64 0)) = .lit (.int .i64 (c : Int))) (v : Nat) :
    ∀ x : Nat, Maps.has (D.del (.int .i64 (v : Int))) (.int .i64 (x : Int)) = ((fun y => if y = v then none else p y) x).isSome ∧ ∀ e, (fun y => if y = v then none else p y) x = some e → (D.del (.int .i64 (v : Int))).atKey (.int .i64 (x : Int)) (.lit (.int .i64 0)) = .lit (.int .i64 (e : Int)) := by
  intro x
  by_cases hx : x = v
  · subst hx
    dsimp only
    rw [if_pos rfl, has_del_same]
    exact ⟨rfl, fun e he => by cases he⟩
  · dsimp only
    rw [if_neg hx, has_del_other (key_ne hx), atKey_del_other (key_ne hx)]
    exact h x
theorem MapAt.outN {w w' : World} {b n : Nat} {p : Nat → Option Nat} {S : Nat → Prop} (h : MapAt w b n p) (k : Out S w w') (hs : ¬ S b) : MapAt w' b n p := by
  obtain ⟨D, ⟨es, clock, hb, r⟩, h2⟩ := h
  exact ⟨D, ⟨es, clock, (k.block b (Array.getElem?_eq_some_iff.1 hb).1 hs).trans hb, r⟩, h2⟩
theorem MapAt.over {w w' : World} {b n : Nat} {p : Nat → Option Nat} (h : MapAt w b n p) (k : Below w.heap.size w w') : MapAt w' b n p := h.outN (Out.of_below (fun _ => False) k) id
theorem MapAt.lt {w : World} {b n : Nat} {p : Nat → Option Nat} (h : MapAt w b n p) : b < w.heap.size := by
  obtain ⟨D, hD, _⟩ := h
  exact hD.lt
section
variable {ops : Array Oper} {rest : List Oper} {o : Oper} {a : Act} {Q : Exit → Act → World → Prop}
/-- 'c, ok := m[y]' -/
theorem look_ok (w : World) (hg : o.guard = none) (m x : Operand) (t : TypeId) (hop : o.op = Op.lookup t m x true) (ht : Try.prog.underlying t = some (.map 3 3)) (b n : Nat) (p : Nat → Option Nat)
    (hm : a.eval m = .map (some b)) (hM : MapAt w b n p) (y : Nat) (hx : a.eval x = .int .i64 (y : Int)) (hy : y ≤ 1000000) (ok : Bool) (hok : (p y).isSome = ok)
    (hK : ∀ c : Int, wpList Try.prog ops Q rest (a.put o.dst (.tuple #[.int .i64 c, .bool ok])) w) : wpList Try.prog ops Q (o :: rest) a w := by
  obtain ⟨D, hD, h2⟩ := hM
  refine wpList_lookup_own_ok_int w hg m x t hop 3 3 .i64 lawI ht Try.underlying3 (zeroI w) b n D hm hD _ _ hx (keyI y hy) ?_
  intro c _ _
  rw [(h2 y).1, hok]
  exact hK c
/-- 'm[y]' of what is there -/
theorem look_at (w : World) (hg : o.guard = none) (m x : Operand) (t : TypeId) (hop : o.op = Op.lookup t m x false) (ht : Try.prog.underlying t = some (.map 3 3)) (b n : Nat) (p : Nat → Option Nat)
    (hm : a.eval m = .map (some b)) (hM : MapAt w b n p) (y : Nat) (hx : a.eval x = .int .i64 (y : Int)) (hy : y ≤ 1000000) (e : Nat) (he : p y = some e)
    (hK : wpList Try.prog ops Q rest (a.put o.dst (.int .i64 (e : Int))) w) : wpList Try.prog ops Q (o :: rest) a w := by
  obtain ⟨D, hD, h2⟩ := hM
  refine wpList_lookup_own_int w hg m x t hop 3 3 .i64 lawI ht Try.underlying3 (zeroI w) b n D hm hD _ _ hx (keyI y hy) ?_
  intro c hc _
  rw [(h2 y).2 e he] at hc
  injection hc with hc
  injection hc with _ hc
  subst hc
  exact hK
/-- 'delete(m, y)' -/
theorem map_delete (w : World) (hg : o.guard = none) (m x : Operand) (t : TypeId) (hop : o.op = Op.call { callee := Callee.builtin Builtin.delete, args := #[m, x], argTypes := #[t, 3] }) (ht : Try.prog.underlying t = some (.map 3 3)) (b n : Nat) (p : Nat → Option Nat)
    (hm : a.eval m = .map (some b)) (hM : MapAt w b n p) (y : Nat) (hx : a.eval x = .int .i64 (y : Int)) (hy : y ≤ 1000000)
    (hK : ∀ w', MapAt w' b n (fun z => if z = y then none else p z) → Out (fun j => j = b) w w' → wpList Try.prog ops Q rest (a.put o.dst (.tuple #[])) w') : wpList Try.prog ops Q (o :: rest) a w := by
  obtain ⟨D, hD, h2⟩ := hM
  refine wpList_delete_own w hg m x t 3 hop 3 lawI ht (plainElem Try.prog 3) b n D hm hD _ _ hx (keyI y hy) ?_
  intro w' hw' ht'
  exact hK w' ⟨_, hw', map_del h2 y⟩ (Out.of_grown ht'.grown fun k hk => by injection hk with hk; exact hk.symm)
/-- 'm[y] = c' -/
theorem map_store (w : World) (hg : o.guard = none) (m x v : Operand) (t : TypeId) (hop : o.op = Op.mapUpdate t m x v) (ht : Try.prog.underlying t = some (.map 3 3)) (b n : Nat) (p : Nat → Option Nat)
    (hm : a.eval m = .map (some b)) (hM : MapAt w b n p) (hn : n ≤ 1000000) (y c : Nat) (hx : a.eval x = .int .i64 (y : Int)) (hv : a.eval v = .int .i64 (c : Int)) (hy : y ≤ 1000000) (hc : c ≤ 1000000)
    (hK : ∀ w', MapAt w' b (n + 1) (fun z => if z = y then some c else p z) → Out (fun j => j = b) w w' → wpList Try.prog ops Q rest (a.put o.dst undef) w') : wpList Try.prog ops Q (o :: rest) a w := by
  obtain ⟨D, hD, h2⟩ := hM
  refine wpList_mapUpdate_own w hg m x v t hop 3 3 lawI ht (plainElem Try.prog 3) b n D hm hD (Nat.lt_of_le_of_lt hn (by decide)) _ _ _ hx hv (keyI y hy) (.lit (.int .i64 (c : Int))) [] (plainElem_int Try.underlying3 (by simp [Lit.wf, IntKind.min, IntKind.max, IntKind.signed, IntKind.bits]; omega)) ?_
  intro w' hw' hg'
  exact hK w' ⟨_, hw', map_put hD.isMap h2 y c⟩ (Out.of_grown hg' fun k hk => by injection hk with hk; exact hk.symm)
end
end Go.Proofs.Ytmifojpmomdmeaa
