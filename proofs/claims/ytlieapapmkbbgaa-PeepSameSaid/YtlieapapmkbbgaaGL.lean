/- A runner: concrete calls carried out by the kernel on lists, whatever the world, its order of evaluation, its new blocks' numbers and its capacities. Part A: values, blocks, and how they stand for a world's. -/
import Derived.OrdersHeld
import Derived.Laws.AppendOwn
import Derived.Laws.CopyRow
import Derived.Laws.MakeOwn
import Derived.Laws.Slices
import Derived.Laws.Build
import Derived.Laws.Pointers
import Derived.Below
import Derived.KernelRfl
import Derived.Test.YtlieapapmkbbgaaChecked
namespace Go.Proofs.Ytlieapapmkbbgaa
open Go Go.RowKit
set_option linter.unusedVariables false
set_option linter.unusedSimpArgs false

inductive All2 {α β : Type} (R : α → β → Prop) : List α → List β → Prop
  | nil : All2 R [] []
  | cons {a : α} {b : β} {l : List α} {m : List β} : R a b → All2 R l m → All2 R (a :: l) (b :: m)
namespace All2
variable {α β : Type} {R S : α → β → Prop}
theorem length {l : List α} {m : List β} (h : All2 R l m) : l.length = m.length := by
  induction h with
  | nil => rfl
  | cons _ _ ih => simp [ih]
theorem mono {l : List α} {m : List β} (h : All2 R l m) (hr : ∀ a b, R a b → S a b) : All2 S l m := by
  induction h with
  | nil => exact .nil
  | cons h _ ih => exact .cons (hr _ _ h) ih
theorem get {l : List α} {m : List β} (h : All2 R l m) : ∀ {i : Nat} {a : α}, l[i]? = some a → ∃ b, m[i]? = some b ∧ R a b := by
  induction h with
  | nil => intro i a h; simp at h
  | cons h _ ih =>
    intro i a' ha
    cases i with
    | zero => simp at ha; subst ha; exact ⟨_, by simp, h⟩
    | succ i => simp at ha; obtain ⟨b, hb, hr⟩ := ih ha; exact ⟨b, by simpa using hb, hr⟩
theorem getD {l : List α} {m : List β} (h : All2 R l m) {d : α} {e : β} (hd : R d e) (i : Nat) : R (l.getD i d) (m.getD i e) := by
  cases ha : l[i]? with
  | some a => obtain ⟨b, hb, hr⟩ := h.get ha; simp [List.getD, ha, hb, hr]
  | none =>
    have : m[i]? = none := by rw [List.getElem?_eq_none_iff] at ha ⊢; rw [← h.length]; exact ha
    simp [List.getD, ha, this, hd]
theorem append {l l' : List α} {m m' : List β} (h : All2 R l m) (h' : All2 R l' m') : All2 R (l ++ l') (m ++ m') := by
  induction h with
  | nil => exact h'
  | cons h _ ih => exact .cons h ih
theorem take {l : List α} {m : List β} (h : All2 R l m) : ∀ n, All2 R (l.take n) (m.take n) := by
  induction h with
  | nil => intro n; simp; exact .nil
  | cons h _ ih => intro n; cases n with
    | zero => simp; exact .nil
    | succ n => simp; exact .cons h (ih n)
theorem drop {l : List α} {m : List β} (h : All2 R l m) : ∀ n, All2 R (l.drop n) (m.drop n) := by
  induction h with
  | nil => intro n; simp; exact .nil
  | cons h hh ih => intro n; cases n with
    | zero => simp; exact .cons h hh
    | succ n => simp; exact ih n
theorem set {l : List α} {m : List β} (h : All2 R l m) {a : α} {b : β} (hr : R a b) : ∀ n, All2 R (l.set n a) (m.set n b) := by
  induction h with
  | nil => intro n; simp; exact .nil
  | cons h hh ih => intro n; cases n with
    | zero => simp; exact .cons hr hh
    | succ n => simp; exact .cons h (ih n)
theorem map {γ : Type} {l : List γ} {f : γ → α} {g : γ → β} (h : ∀ x ∈ l, R (f x) (g x)) : All2 R (l.map f) (l.map g) := by
  induction l with
  | nil => exact .nil
  | cons x l ih => exact .cons (h x (by simp)) (ih fun y hy => h y (by simp [hy]))
theorem self {R : α → α → Prop} {l : List α} (h : ∀ x ∈ l, R x x) : All2 R l l := by
  induction l with
  | nil => exact .nil
  | cons x l ih => exact .cons (h x (by simp)) (ih fun y hy => h y (by simp [hy]))
theorem eq_of {R : α → α → Prop} {l m : List α} (h : All2 R l m) (hr : ∀ a b, a ∈ l → R a b → b = a) : m = l := by
  induction h with
  | nil => rfl
  | cons h _ ih => rw [hr _ _ (by simp) h, ih fun a b ha => hr a b (by simp [ha])]
end All2

/-- no address in it -/
def flat0 : Value → Bool
  | .bool _ | .int _ _ | .float _ _ | .complex _ _ _ | .string _ | .pointer none | .slice none _ _ | .map none | .chan none | .nilFunc | .nilIface => true
  | .iface _ (.bool _) | .iface _ (.int _ _) | .iface _ (.string _) => true
  | _ => false
def flatA : Value → Bool
  | .agg cs => cs.toList.all flat0
  | v => flat0 v
def flatL : Value → Bool
  | .func _ f c => f.toList.all flatA && c.toList.all flatA
  | v => flat0 v
def flat1 : Value → Bool
  | .agg cs => cs.toList.all flatL
  | v => flatL v
def flatX : Value → Bool
  | .tuple vs => vs.toList.all flat1
  | v => flat1 v

abbrev Bs := Nat → Option (Nat × Nat)
/-- a slice whose capacity is known stands with a mark -/
def xo (sp : Option Nat) (x : Nat) : Nat := match sp with
  | none => x
  | some _ => 0
inductive Rb (β : Bs) : Value → Value → Prop
  | flatX {v : Value} : flat0 v = true → Rb β v v
  | ptr {i b x o : Nat} : β i = some (b, x) → Rb β (.pointer (some ⟨i, o, none⟩)) (.pointer (some ⟨b, o, none⟩))
  | slc {i b x o n c : Nat} {sp : Option Nat} : β i = some (b, x) → Rb β (.slice (some ⟨i, o, sp⟩) n c) (.slice (some ⟨b, o, none⟩) n (c + xo sp x))
inductive Ra (β : Bs) : Value → Value → Prop
  | base {v v' : Value} : Rb β v v' → Ra β v v'
  | agg {l l' : List Value} : All2 (Rb β) l l' → Ra β (.agg l.toArray) (.agg l'.toArray)
inductive R0 (β : Bs) : Value → Value → Prop
  | base {v v' : Value} : Rb β v v' → R0 β v v'
  | func {fn : Fn} {f f' c c' : List Value} : All2 (Ra β) f f' → All2 (Ra β) c c' → R0 β (.func fn f.toArray c.toArray) (.func fn f'.toArray c'.toArray)
inductive R1 (β : Bs) : Value → Value → Prop
  | base {v v' : Value} : R0 β v v' → R1 β v v'
  | agg {l l' : List Value} : All2 (R0 β) l l' → R1 β (.agg l.toArray) (.agg l'.toArray)
inductive RV (β : Bs) : Value → Value → Prop
  | one {v v' : Value} : R1 β v v' → RV β v v'
  | tup {l l' : List Value} : All2 (R1 β) l l' → RV β (.tuple l.toArray) (.tuple l'.toArray)
def Ext (β β' : Bs) : Prop := ∀ (i : Nat) (x : Nat × Nat), β i = some x → β' i = some x
theorem Ext.refl (β : Bs) : Ext β β := fun _ _ h => h
theorem Ext.trans {a b c : Bs} (h : Ext a b) (k : Ext b c) : Ext a c := fun i x hx => k i x (h i x hx)
def updX (β : Bs) (j : Nat) (x : Nat × Nat) : Bs := fun i => if i = j then some x else β i
theorem upd_same (β : Bs) (j : Nat) (x : Nat × Nat) : updX β j x j = some x := by simp [updX]
theorem upd_other (β : Bs) {i j : Nat} (x : Nat × Nat) (h : i ≠ j) : updX β j x i = β i := by simp [updX, h]
theorem Ext.updX {β : Bs} {j : Nat} (h : β j = none) (x : Nat × Nat) : Ext β (updX β j x) := fun i y hy => by
  by_cases e : i = j
  · subst e; rw [h] at hy; cases hy
  · rw [upd_other _ _ e]; exact hy
theorem Ra.of_flat {β : Bs} {v : Value} (hf : flatA v = true) : Ra β v v := by
  by_cases h : flat0 v = true
  · exact .base (.flatX h)
  · cases v <;> first | exact absurd hf h | skip
    rename_i cs
    simp only [flatA, List.all_eq_true] at hf
    have := Ra.agg (β := β) (All2.self (R := Rb β) (l := cs.toList) fun x hx => .flatX (hf x hx))
    simpa using this
theorem R0.flatX {β : Bs} {v : Value} (hf : flatL v = true) : R0 β v v := by
  by_cases h : flat0 v = true
  · exact .base (.flatX h)
  · cases v <;> first | exact absurd hf h | skip
    rename_i fn f c
    simp only [flatL, Bool.and_eq_true, List.all_eq_true] at hf
    have := R0.func (β := β) (fn := fn) (All2.self (R := Ra β) (l := f.toList) fun x hx => .of_flat (hf.1 x hx)) (All2.self (R := Ra β) (l := c.toList) fun x hx => .of_flat (hf.2 x hx))
    simpa using this
theorem R0.ptr {β : Bs} {i b x o : Nat} (h : β i = some (b, x)) : R0 β (.pointer (some ⟨i, o, none⟩)) (.pointer (some ⟨b, o, none⟩)) := .base (.ptr h)
theorem R0.slc {β : Bs} {i b x o n c : Nat} (h : β i = some (b, x)) : R0 β (.slice (some ⟨i, o, none⟩) n c) (.slice (some ⟨b, o, none⟩) n (c + x)) := .base (.slc (sp := none) h)
theorem R0.slp {β : Bs} {i b x o n c : Nat} {sp : Option Nat} (h : β i = some (b, x)) : R0 β (.slice (some ⟨i, o, sp⟩) n c) (.slice (some ⟨b, o, none⟩) n (c + xo sp x)) := .base (.slc h)
theorem Rb.mono {β β' : Bs} (e : Ext β β') {v v' : Value} (h : Rb β v v') : Rb β' v v' := by
  cases h with
  | flatX h => exact .flatX h
  | ptr h => exact .ptr (e _ _ h)
  | slc h => exact .slc (e _ _ h)
theorem Ra.mono {β β' : Bs} (e : Ext β β') {v v' : Value} (h : Ra β v v') : Ra β' v v' := by
  cases h with
  | base h => exact .base (h.mono e)
  | agg h => exact .agg (h.mono fun _ _ => Rb.mono e)
theorem R0.mono {β β' : Bs} (e : Ext β β') {v v' : Value} (h : R0 β v v') : R0 β' v v' := by
  cases h with
  | base h => exact .base (h.mono e)
  | func h k => exact .func (h.mono fun _ _ => Ra.mono e) (k.mono fun _ _ => Ra.mono e)
theorem R1.mono {β β' : Bs} (e : Ext β β') {v v' : Value} (h : R1 β v v') : R1 β' v v' := by
  cases h with
  | base h => exact .base (h.mono e)
  | agg h => exact .agg (h.mono fun _ _ => R0.mono e)
theorem RV.mono {β β' : Bs} (e : Ext β β') {v v' : Value} (h : RV β v v') : RV β' v v' := by
  cases h with
  | one h => exact .one (h.mono e)
  | tup h => exact .tup (h.mono fun _ _ => R1.mono e)
theorem Rb.eq_flat {β : Bs} {v v' : Value} (h : Rb β v v') (hf : flat0 v = true) : v' = v := by
  cases h with
  | flatX _ => rfl
  | ptr _ => simp [flat0] at hf
  | slc _ => simp [flat0] at hf
theorem Ra.eq_flat {β : Bs} {v v' : Value} (h : Ra β v v') (hf : flatA v = true) : v' = v := by
  cases h with
  | base h =>
    refine h.eq_flat ?_
    cases h with
    | flatX h => exact h
    | ptr _ => exact hf
    | slc _ => exact hf
  | agg h =>
    simp only [flatA, List.all_eq_true] at hf
    rw [h.eq_of fun a b ha hr => hr.eq_flat (hf a ha)]
theorem R0.eq_flat {β : Bs} {v v' : Value} (h : R0 β v v') (hf : flatL v = true) : v' = v := by
  cases h with
  | base h =>
    refine h.eq_flat ?_
    cases h with
    | flatX h => exact h
    | ptr _ => exact hf
    | slc _ => exact hf
  | func h k =>
    simp only [flatL, Bool.and_eq_true, List.all_eq_true] at hf
    rw [h.eq_of fun a b ha hr => hr.eq_flat (hf.1 a ha), k.eq_of fun a b ha hr => hr.eq_flat (hf.2 a ha)]
theorem flatL_of {v : Value} (h : flat0 v = true) : flatL v = true := by cases v <;> simp_all [flat0, flatL]
theorem R1.eq_flat {β : Bs} {v v' : Value} (h : R1 β v v') (hf : flat1 v = true) : v' = v := by
  cases h with
  | base h =>
    refine h.eq_flat ?_
    cases h with
    | base h => cases h with
      | flatX h => exact flatL_of h
      | ptr _ => exact hf
      | slc _ => exact hf
    | func _ _ => exact hf
  | agg h =>
    simp only [flat1, List.all_eq_true] at hf
    rw [h.eq_of fun a b ha hr => hr.eq_flat (hf a ha)]
theorem RV.eq_flat {β : Bs} {v v' : Value} (h : RV β v v') (hf : flatX v = true) : v' = v := by
  cases h with
  | one h =>
    refine h.eq_flat ?_
    cases h with
    | base h => cases h with
      | base h => cases h with
        | flatX h => have := flatL_of h; revert hf; cases v <;> simp_all [flatX, flat1, flatL, flat0]
        | ptr _ => exact hf
        | slc _ => exact hf
      | func _ _ => exact hf
    | agg _ => exact hf
  | tup h =>
    simp only [flatX, List.all_eq_true] at hf
    rw [h.eq_of fun a b ha hr => hr.eq_flat (hf a ha)]
theorem R1.of_flat {β : Bs} {v : Value} (hf : flat1 v = true) : R1 β v v := by
  by_cases h : flatL v = true
  · exact .base (.flatX h)
  · cases v <;> first | exact absurd hf h | skip
    rename_i cs
    simp only [flat1, List.all_eq_true] at hf
    have := R1.agg (β := β) (All2.self (R := R0 β) (l := cs.toList) fun x hx => .flatX (hf x hx))
    simpa using this
theorem RV.of_flat {β : Bs} {v : Value} (hf : flatX v = true) : RV β v v := by
  by_cases h : flat1 v = true
  · exact .one (.of_flat h)
  · cases v <;> first | exact absurd hf h | skip
    rename_i cs
    simp only [flatX, List.all_eq_true] at hf
    have := RV.tup (β := β) (All2.self (R := R1 β) (l := cs.toList) fun x hx => .of_flat (hf x hx))
    simpa using this
theorem RV.undef {β : Bs} : RV β undef undef := .of_flat rfl

/-- what each operand shape stands for -/
theorem RV.int_inv {β : Bs} {k : IntKind} {n : Int} {v' : Value} (h : RV β (.int k n) v') : v' = .int k n := h.eq_flat rfl
theorem RV.bool_inv {β : Bs} {b : Bool} {v' : Value} (h : RV β (.bool b) v') : v' = .bool b := h.eq_flat rfl
theorem RV.ptr_inv {β : Bs} {i o : Nat} {v' : Value} (h : RV β (.pointer (some ⟨i, o, none⟩)) v') : ∃ b x, β i = some (b, x) ∧ v' = .pointer (some ⟨b, o, none⟩) := by
  cases h with | one h => cases h with | base h => cases h with | base h => cases h with
    | flatX h => simp [flat0] at h
    | ptr h => exact ⟨_, _, h, rfl⟩
theorem RV.slp_inv {β : Bs} {i o n c : Nat} {sp : Option Nat} {v' : Value} (h : RV β (.slice (some ⟨i, o, sp⟩) n c) v') : ∃ b x, β i = some (b, x) ∧ v' = .slice (some ⟨b, o, none⟩) n (c + xo sp x) := by
  cases h with | one h => cases h with | base h => cases h with | base h => cases h with
    | flatX h => simp [flat0] at h
    | slc h => exact ⟨_, _, h, rfl⟩
theorem RV.slc_inv {β : Bs} {i o n c : Nat} {v' : Value} (h : RV β (.slice (some ⟨i, o, none⟩) n c) v') : ∃ b x, β i = some (b, x) ∧ v' = .slice (some ⟨b, o, none⟩) n (c + x) := h.slp_inv
theorem RV.agg_inv {β : Bs} {l : Array Value} {v' : Value} (h : RV β (.agg l) v') : ∃ l' : List Value, All2 (R0 β) l.toList l' ∧ v' = .agg l'.toArray := by
  cases h with | one h => cases h with
    | base h => cases h with | base h => cases h with
      | flatX h => simp [flat0] at h
    | agg h => exact ⟨_, h, rfl⟩
theorem RV.tup_inv {β : Bs} {l : Array Value} {v' : Value} (h : RV β (.tuple l) v') : ∃ l' : List Value, All2 (R1 β) l.toList l' ∧ v' = .tuple l'.toArray := by
  cases h with
  | one h => cases h with
    | base h => cases h with | base h => cases h with
      | flatX h => simp [flat0] at h
  | tup h => exact ⟨_, h, rfl⟩
theorem RV.func_inv {β : Bs} {fn : Fn} {f c : Array Value} {v' : Value} (h : RV β (.func fn f c) v') : ∃ f' c' : List Value, All2 (Ra β) f.toList f' ∧ All2 (Ra β) c.toList c' ∧ v' = .func fn f'.toArray c'.toArray := by
  cases h with | one h => cases h with
    | base h => cases h with
      | base h => cases h with
        | flatX h => simp [flat0] at h
      | func h k => exact ⟨_, _, h, k, rfl⟩
theorem Ra.toRV {β : Bs} {v v' : Value} (h : Ra β v v') : RV β v v' := by
  cases h with
  | base h => exact .one (.base (.base h))
  | agg h => exact .one (.agg (h.mono fun _ _ => .base))

/-- the cells that a value has in memory; none: it has none of its own -/
def cellsL : Value → Option (List Value)
  | .agg cs => some cs.toList
  | .tuple _ => none
  | v => some [v]
theorem RV.cells {β : Bs} {v v' : Value} (h : RV β v v') {cs : List Value} (hc : cellsL v = some cs) : All2 (R0 β) cs v'.cells.toList := by
  cases h with
  | tup _ => simp [cellsL] at hc
  | one h => cases h with
    | agg h => simp [cellsL] at hc; subst hc; simpa [Value.cells] using h
    | base h =>
      cases h with
      | func h k => simp [cellsL] at hc; subst hc; exact All2.cons (R0.func h k) All2.nil
      | base h =>
        cases h with
        | flatX h =>
          have hv1 : cellsL v = some [v] := by cases v <;> simp_all [cellsL, flat0]
          have hv2 : v.cells = #[v] := by cases v <;> simp_all [Value.cells, flat0]
          rw [hv1] at hc
          cases hc
          rw [hv2]
          exact All2.cons (.base (.flatX h)) All2.nil
        | ptr h => simp [cellsL] at hc; subst hc; exact .cons (.ptr h) .nil
        | slc h => simp [cellsL] at hc; subst hc; exact .cons (.slp h) .nil
theorem R0.one {β : Bs} {v v' : Value} (h : R0 β v v') : v'.oneCell' = true := by
  cases h with
  | func _ _ => rfl
  | base h => cases h with
    | flatX h => cases v <;> simp_all [flat0, Value.oneCell']
    | ptr _ => rfl
    | slc _ => rfl

structure Blk where
  cells : List Value
  elem : TypeId
  unit : Nat
  capN : Nat
  opn : Bool
/-- what is known of a number: it is no longer asked for, nobody has it, or a block -/
inductive Ent where
  | dead
  | resv
  | live (k : Blk)
/-- how many numbers there are, and their blocks, the newest one first -/
structure Hp where
  n : Nat
  rev : List Ent
def Hp.get (H : Hp) (i : Nat) : Ent := match Nat.blt i H.n with
  | true => H.rev.getD (H.n - 1 - i) .resv
  | false => .resv
def Hp.put (H : Hp) (j : Nat) (e : Ent) : Hp := match Nat.blt j H.n with
  | true => ⟨H.n, H.rev.set (H.n - 1 - j) e⟩
  | false => ⟨j + 1, e :: (List.replicate (j - H.n) .resv ++ H.rev)⟩
def Hp.wf (H : Hp) : Prop := H.rev.length = H.n
theorem blt_true {a b : Nat} : Nat.blt a b = true ↔ a < b := by simp [Nat.blt, Nat.succ_le_iff]
theorem Hp.put_wf {H : Hp} (h : H.wf) (j : Nat) (e : Ent) : (H.put j e).wf := by
  unfold Hp.wf at *
  unfold Hp.put
  split
  · simp [h]
  · rename_i hb
    have : ¬ j < H.n := fun hlt => by rw [blt_true.2 hlt] at hb; cases hb
    simp [h]; omega
theorem Hp.get_put_same {H : Hp} (h : H.wf) (j : Nat) (e : Ent) : (H.put j e).get j = e := by
  unfold Hp.wf at h
  unfold Hp.put
  split
  · rename_i hb
    have hlt := blt_true.1 hb
    simp only [Hp.get, hb]
    rw [List.getD_eq_getElem?_getD, List.getElem?_set_self (by omega)]
    rfl
  · rename_i hb
    have hb2 : Nat.blt j (j + 1) = true := blt_true.2 (by omega)
    simp [Hp.get, hb2]
theorem Hp.get_put_other {H : Hp} (h : H.wf) {i j : Nat} (hne : i ≠ j) (e : Ent) : (H.put j e).get i = H.get i := by
  unfold Hp.wf at h
  unfold Hp.put
  split
  · rename_i hb
    have hlt := blt_true.1 hb
    cases hi : Nat.blt i H.n with
    | false => simp [Hp.get, hi]
    | true =>
      have hlt2 := blt_true.1 hi
      simp only [Hp.get, hi]
      rw [List.getD_eq_getElem?_getD, List.getD_eq_getElem?_getD, List.getElem?_set_ne (by omega)]
  · rename_i hb
    have hge : ¬ j < H.n := fun hlt => by rw [blt_true.2 hlt] at hb; cases hb
    cases hi : Nat.blt i H.n with
    | true =>
      have hlt2 := blt_true.1 hi
      have hi2 : Nat.blt i (j + 1) = true := blt_true.2 (by omega)
      simp only [Hp.get, hi, hi2]
      have e1 : j + 1 - 1 - i = (j - H.n) + (H.n - 1 - i) + 1 := by omega
      rw [e1, List.getD_eq_getElem?_getD, List.getD_eq_getElem?_getD, List.getElem?_cons_succ, List.getElem?_append_right (by simp)]
      simp
    | false =>
      have hlt2 : ¬ i < H.n := fun hlt => by rw [blt_true.2 hlt] at hi; cases hi
      simp only [Hp.get, hi]
      cases hi2 : Nat.blt i (j + 1) with
      | false => rfl
      | true =>
        have hlt3 := blt_true.1 hi2
        have e1 : j + 1 - 1 - i = (j - 1 - i) + 1 := by omega
        simp only []
        rw [e1, List.getD_eq_getElem?_getD, List.getElem?_cons_succ, List.getElem?_append_left (by simp; omega), List.getElem?_replicate]
        split <;> rfl

def BlkOk (β : Bs) (i : Nat) (k : Blk) (w : World) : Prop :=
  ∃ b x cs, β i = some (b, x) ∧ w.heap[b]? = some (.cells cs k.elem (0, 0)) ∧ All2 (R0 β) k.cells (cs.toList.take k.cells.length) ∧
    cs.size = k.cells.length + x * k.unit ∧ (k.opn = false → x = 0) ∧ k.capN + x ≤ maxLen

/-- a block that is read: its known cells -/
def RdOk (β : Bs) (i : Nat) (k : Blk) (w : World) : Prop := ∃ b x, β i = some (b, x) ∧ ∀ (j : Nat) (v : Value), k.cells[j]? = some v → ∃ v', w.cell? ⟨b, j, none⟩ = some v' ∧ R0 β v v'
theorem BlkOk.rd {β : Bs} {i : Nat} {k : Blk} {w : World} (h : BlkOk β i k w) : RdOk β i k w := by
  obtain ⟨b, x, cs, h1, h2, h3, _⟩ := h
  refine ⟨b, x, h1, fun j v hj => ?_⟩
  obtain ⟨v', hv, hr⟩ := h3.get hj
  refine ⟨v', ?_, hr⟩
  rw [cell_of_row w b j cs k.elem (0, 0) h2]
  rw [List.getElem?_take] at hv
  split at hv
  · simpa using hv
  · cases hv
theorem RdOk.mono {β β' : Bs} (e : Ext β β') {i : Nat} {k : Blk} {w : World} (h : RdOk β i k w) : RdOk β' i k w := by
  obtain ⟨b, x, h1, h2⟩ := h
  refine ⟨b, x, e _ _ h1, fun j v hj => ?_⟩
  obtain ⟨v', hv, hr⟩ := h2 j v hj
  exact ⟨v', hv, hr.mono e⟩
/-- what reading asks for -/
structure HR (N0 : Nat) (β : Bs) (H : Hp) (w : World) : Prop where
  rd : ∀ i k, H.get i = .live k → RdOk β i k w
  glob : ∀ i, i < N0 → β i = some (i, 0)
structure HS (N0 : Nat) (w0 : World) (β : Bs) (H : Hp) (w : World) : Prop extends HR N0 β H w where
  blk : ∀ i k, N0 ≤ i → H.get i = .live k → BlkOk β i k w
  gsz : N0 ≤ w0.heap.size
  wf : H.wf
  below : Below w0.heap.size w0 w
  resv : ∀ i, H.get i = .resv → β i = none
  own : ∀ i b x, N0 ≤ i → β i = some (b, x) → w0.heap.size ≤ b
  inj : ∀ (i j : Nat) (ki kj : Blk) (bi bj : Nat × Nat), N0 ≤ i → N0 ≤ j → H.get i = .live ki → H.get j = .live kj → β i = some bi → β j = some bj → bi.1 = bj.1 → i = j

theorem BlkOk.mono {β β' : Bs} (e : Ext β β') {i : Nat} {k : Blk} {w : World} (h : BlkOk β i k w) : BlkOk β' i k w := by
  obtain ⟨b, x, cs, h1, h2, h3, h4⟩ := h
  exact ⟨b, x, cs, e _ _ h1, h2, h3.mono fun _ _ => R0.mono e, h4⟩

/-- what lies below the base stays readable -/
theorem HS.old {N0 : Nat} {w0 w w' : World} {β : Bs} {H : Hp} (h : HS N0 w0 β H w) (hb : Below w0.heap.size w w') {i : Nat} {k : Blk} (hi : i < N0) (hl : H.get i = .live k) : RdOk β i k w' := by
  obtain ⟨b, x, h1, h2⟩ := h.rd i k hl
  rw [h.glob i hi] at h1; cases h1
  refine ⟨i, 0, h.glob i hi, fun j v hj => ?_⟩
  obtain ⟨v', hv, hr⟩ := h2 j v hj
  exact ⟨v', (hb.cell (p := ⟨i, j, none⟩) (by have := h.gsz; show i < _; omega)).trans hv, hr⟩
/-- a new block -/
theorem HS.alloc {N0 : Nat} {w0 w : World} {β : Bs} {H : Hp} (h : HS N0 w0 β H w) {j : Nat} (hj : H.get j = .resv) (k : Blk) (x : Nat) (cs : Array Value) (w1 : World) (hw : w1 = w ∨ w1 = w.drew)
    (h3 : All2 (R0 β) k.cells (cs.toList.take k.cells.length)) (h4 : cs.size = k.cells.length + x * k.unit) (h5 : k.opn = false → x = 0) (h6 : k.capN + x ≤ maxLen) :
    HS N0 w0 (updX β j (w.heap.size, x)) (H.put j (.live k)) (w1.alloc (.cells cs k.elem)) ∧ Ext β (updX β j (w.heap.size, x)) ∧ (updX β j (w.heap.size, x)) j = some (w.heap.size, x) := by
  have hws : w1.heap = w.heap := by rcases hw with rfl | rfl <;> rfl
  have hbj := h.resv j hj
  have e : Ext β (updX β j (w.heap.size, x)) := Ext.updX hbj _
  have hnew := upd_same β j (w.heap.size, x)
  have hjN : N0 ≤ j := by
    rcases Nat.lt_or_ge j N0 with hl | hl
    · rw [h.glob j hl] at hbj; cases hbj
    · exact hl
  have hold : ∀ i : Nat, ∀ kk : Blk, (H.put j (.live k)).get i = .live kk → (H.get i = .live kk ∧ i ≠ j) ∨ (i = j ∧ kk = k) := by
    intro i kk hk
    by_cases hi : i = j
    · subst hi
      rw [Hp.get_put_same h.wf] at hk
      cases hk
      exact .inr ⟨rfl, rfl⟩
    · rw [Hp.get_put_other h.wf hi] at hk; exact .inl ⟨hk, hi⟩
  have hlt : ∀ (i : Nat) (kk : Blk) (bb : Nat × Nat), N0 ≤ i → H.get i = .live kk → β i = some bb → bb.1 < w.heap.size := by
    intro i kk bb hN hi hb
    obtain ⟨b, x', cs', g1, g2, _⟩ := h.blk i kk hN hi
    rw [g1] at hb; cases hb
    exact (Array.getElem?_eq_some_iff.1 g2).1
  have hbel : Below w0.heap.size w (w1.alloc (.cells cs k.elem)) := by
    have : Below w0.heap.size w w1 := by rcases hw with rfl | rfl; exact Below.refl _ _; exact (Below.refl _ _).drew
    exact this.alloc (by have := h.below.size; rw [hws]; exact this) _
  have hblk : ∀ i kk, N0 ≤ i → (H.put j (.live k)).get i = .live kk → BlkOk (updX β j (w.heap.size, x)) i kk (w1.alloc (.cells cs k.elem)) := by
    intro i kk hN hi
    rcases hold i kk hi with ⟨hi, _⟩ | ⟨rfl, rfl⟩
    · obtain ⟨b, x', cs', g1, g2, g3⟩ := (h.blk i kk hN hi).mono e
      refine ⟨b, x', cs', g1, ?_, g3⟩
      rw [heap_alloc_old _ _ _ (by rw [hws]; exact (Array.getElem?_eq_some_iff.1 g2).1), hws]; exact g2
    · refine ⟨w.heap.size, x, cs, hnew, ?_, h3.mono fun _ _ => R0.mono e, h4, h5, h6⟩
      have := heap_alloc_new w1 (.cells cs kk.elem)
      rw [hws] at this; exact this
  refine ⟨{ rd := ?_, blk := hblk, glob := fun i hi => e _ _ (h.glob i hi), gsz := h.gsz, wf := Hp.put_wf h.wf _ _, below := h.below.trans hbel, resv := ?_, own := ?_, inj := ?_ }, e, hnew⟩
  · intro i kk hi
    rcases Nat.lt_or_ge i N0 with hl | hl
    · rcases hold i kk hi with ⟨hi, _⟩ | ⟨rfl, _⟩
      · exact (h.old hbel hl hi).mono e
      · omega
    · exact (hblk i kk hl hi).rd
  · intro i hi
    have hne : i ≠ j := by intro e; subst e; rw [Hp.get_put_same h.wf] at hi; cases hi
    rw [Hp.get_put_other h.wf hne] at hi
    rw [upd_other _ _ hne]; exact h.resv i hi
  · intro i b x' hi hb
    by_cases hne : i = j
    · subst hne; rw [hnew] at hb; cases hb; exact h.below.size
    · rw [upd_other _ _ hne] at hb; exact h.own i b x' hi hb
  · intro i i2 ki kj bi bj hNi hNj hi hj hbi hbj hb
    rcases hold i ki hi with ⟨qi, li⟩ | ⟨li, _⟩ <;> rcases hold i2 kj hj with ⟨qj, lj⟩ | ⟨lj, _⟩
    · rw [upd_other _ _ li] at hbi
      rw [upd_other _ _ lj] at hbj
      exact h.inj i i2 ki kj bi bj hNi hNj qi qj hbi hbj hb
    · rw [upd_other _ _ li] at hbi
      rw [lj, hnew] at hbj; cases hbj
      have := hlt i ki bi hNi qi hbi; omega
    · rw [upd_other _ _ lj] at hbj
      rw [li, hnew] at hbi; cases hbi
      have := hlt i2 kj bj hNj qj hbj; omega
    · rw [li, lj]

/-- a block is forgotten -/
theorem HS.kill {N0 : Nat} {w0 w : World} {β : Bs} {H : Hp} (h : HS N0 w0 β H w) {i : Nat} {ki : Blk} (hl : H.get i = .live ki) : HS N0 w0 β (H.put i .dead) w := by
  have hx : ∀ (j : Nat) (k : Blk), (H.put i .dead).get j = .live k → H.get j = .live k := by
    intro j k hk
    by_cases hj : j = i
    · subst hj; rw [Hp.get_put_same h.wf] at hk; cases hk
    · rwa [Hp.get_put_other h.wf hj] at hk
  refine { rd := fun j k hk => h.rd j k (hx j k hk), blk := fun j k hN hk => h.blk j k hN (hx j k hk), glob := h.glob, gsz := h.gsz, wf := Hp.put_wf h.wf _ _, below := h.below, resv := ?_, own := h.own, inj := fun a b ka kb bi bj na nb ha hb => h.inj a b ka kb bi bj na nb (hx _ _ ha) (hx _ _ hb) }
  intro j hj
  by_cases hji : j = i
  · subst hji; rw [Hp.get_put_same h.wf] at hj; cases hj
  · rw [Hp.get_put_other h.wf hji] at hj; exact h.resv j hj

/-- a block's known cells are others -/
theorem HS.write {N0 : Nat} {w0 w : World} {β : Bs} {H : Hp} (h : HS N0 w0 β H w) {i b x : Nat} {k k' : Blk} {cs cs' : Array Value} (hN : N0 ≤ i) (hk : H.get i = .live k) (hb : β i = some (b, x))
    (hg : w.heap[b]? = some (.cells cs k.elem (0, 0))) (he : k'.elem = k.elem) (h3 : All2 (R0 β) k'.cells (cs'.toList.take k'.cells.length)) (h4 : cs'.size = k'.cells.length + x * k'.unit) (h5 : k'.opn = false → x = 0) (h6 : k'.capN + x ≤ maxLen) :
    HS N0 w0 β (H.put i (.live k')) (w.setRow b cs') := by
  have hx : ∀ (j : Nat) (kj : Blk), (H.put i (.live k')).get j = .live kj → (j = i ∧ kj = k') ∨ (j ≠ i ∧ H.get j = .live kj) := by
    intro j kj hj
    by_cases hji : j = i
    · subst hji; rw [Hp.get_put_same h.wf] at hj; cases hj; exact .inl ⟨rfl, rfl⟩
    · rw [Hp.get_put_other h.wf hji] at hj; exact .inr ⟨hji, hj⟩
  have hbel : Below w0.heap.size w (w.setRow b cs') := ⟨rfl, rfl, rfl, by simp, fun j hj => setRow_other w b j cs' (by have := h.own i b x hN hb; omega)⟩
  have hblk : ∀ j kj, N0 ≤ j → (H.put i (.live k')).get j = .live kj → BlkOk β j kj (w.setRow b cs') := by
    intro j kj hNj hj
    rcases hx j kj hj with ⟨rfl, rfl⟩ | ⟨hne, hj⟩
    · exact ⟨b, x, cs', hb, by rw [he]; exact setRow_heap w b cs cs' k.elem (0, 0) hg, h3, h4, h5, h6⟩
    · obtain ⟨b', x', c', g1, g2, g3⟩ := h.blk j kj hNj hj
      refine ⟨b', x', c', g1, ?_, g3⟩
      rw [setRow_other w b b' cs' (fun e => hne (h.inj j i kj k _ _ hNj hN hj hk g1 hb e))]; exact g2
  refine { rd := ?_, blk := hblk, glob := h.glob, gsz := h.gsz, wf := Hp.put_wf h.wf _ _, below := h.below.trans hbel, resv := ?_, own := h.own, inj := ?_ }
  · intro j kj hj
    rcases Nat.lt_or_ge j N0 with hl | hl
    · rcases hx j kj hj with ⟨e, _⟩ | ⟨_, hj⟩
      · omega
      · exact h.old hbel hl hj
    · exact (hblk j kj hl hj).rd
  · intro j hj
    by_cases hji : j = i
    · subst hji; rw [Hp.get_put_same h.wf] at hj; cases hj
    · rw [Hp.get_put_other h.wf hji] at hj; exact h.resv j hj
  · intro a c ka kc ba bc na nc ha hc hba hbc e
    have ga : ∃ z, H.get a = .live z := by rcases hx a ka ha with ⟨e, _⟩ | ⟨_, ha⟩; exact ⟨k, e ▸ hk⟩; exact ⟨_, ha⟩
    have gc : ∃ z, H.get c = .live z := by rcases hx c kc hc with ⟨e, _⟩ | ⟨_, hc⟩; exact ⟨k, e ▸ hk⟩; exact ⟨_, hc⟩
    obtain ⟨za, ga⟩ := ga
    obtain ⟨zc, gc⟩ := gc
    exact h.inj _ _ _ _ _ _ na nc ga gc hba hbc e
theorem HS.drew {N0 : Nat} {w0 w : World} {β : Bs} {H : Hp} (h : HS N0 w0 β H w) : HS N0 w0 β H w.drew :=
  { rd := h.rd, blk := h.blk, glob := h.glob, gsz := h.gsz, wf := h.wf, below := h.below.drew, resv := h.resv, own := h.own, inj := h.inj }
/-- numbers are laid by -/
theorem HS.reserve {N0 : Nat} {w0 w : World} {β : Bs} {H : Hp} (h : HS N0 w0 β H w) {j : Nat} (hj : H.get j = .resv) : HS N0 w0 β (H.put j .resv) w := by
  have hx : ∀ i, (H.put j .resv).get i = H.get i := by
    intro i
    by_cases hi : i = j
    · subst hi; rw [Hp.get_put_same h.wf, hj]
    · exact Hp.get_put_other h.wf hi _
  exact { rd := fun i k hi => h.rd i k (by rwa [hx] at hi), blk := fun i k hN hi => h.blk i k hN (by rwa [hx] at hi), glob := h.glob, gsz := h.gsz, wf := Hp.put_wf h.wf _ _, below := h.below, resv := fun i hi => h.resv i (by rwa [hx] at hi), own := h.own,
          inj := fun a b ka kb bi bj na nb ha hb => h.inj a b ka kb bi bj na nb (by rwa [hx] at ha) (by rwa [hx] at hb) }
theorem Hp.get_n (H : Hp) : H.get H.n = .resv := by
  have : Nat.blt H.n H.n = false := by cases hb : Nat.blt H.n H.n; rfl; have := blt_true.1 hb; omega
  simp [Hp.get, this]
end Go.Proofs.Ytlieapapmkbbgaa

namespace Go.Proofs.Ytlieapapmkbbgaa
open Go Go.RowKit
set_option linter.unusedVariables false
set_option linter.unusedSimpArgs false

section
variable {P : Program} {N0 : Nat} {w0 w : World} {β : Bs} {H : Hp}

/-- is it one of several cells? -/
def aggB (P : Program) (t : TypeId) : Option Bool :=
  match P.underlying t with
  | some (.struct _) | some (.array _ _) => some true
  | some _ => some false
  | none => none
theorem run_isAgg {t : TypeId} {b : Bool} (h : aggB P t = some b) : (isAgg t).run P w = .ok b w := by
  unfold aggB at h
  cases hu : P.underlying t with
  | none => rw [hu] at h; cases h
  | some d =>
    rw [hu] at h
    cases d <;> simp at h <;> subst h <;> simp [isAgg, run_underlying hu]
def sizeB (P : Program) (t : TypeId) : Option Nat := (P.info? t).map (·.size)
theorem run_sizeOf {t : TypeId} {n : Nat} (h : sizeB P t = some n) : (sizeOf t).run P w = .ok n w := by
  unfold sizeB at h
  cases hi : P.info? t with
  | none => rw [hi] at h; cases h
  | some i => rw [hi] at h; simp at h; subst h; simp [sizeOf, typeInfo, hi]
theorem addr_add (b o n : Nat) : (⟨b, o, none⟩ : Addr).add n = ⟨b, o + n, none⟩ := by unfold Addr.add; split <;> simp_all

def aLoad (P : Program) (H : Hp) (t : TypeId) : Value → Option Value
  | .pointer (some ⟨i, off, none⟩) =>
    match H.get i with
    | .live k =>
      match aggB P t, sizeB P t with
      | some true, some n => if ((k.cells.drop off).take n).length = n then some (.agg ((k.cells.drop off).take n).toArray) else none
      | some false, some _ => k.cells[off]?
      | _, _ => none
    | _ => none
  | _ => none
theorem seg_cells {b off : Nat} {k : Blk} (h : ∀ (j : Nat) (v : Value), k.cells[j]? = some v → ∃ v', w.cell? ⟨b, j, none⟩ = some v' ∧ R0 β v v') : ∀ (n : Nat), ((k.cells.drop off).take n).length = n →
    ∃ l' : List Value, l'.length = n ∧ All2 (R0 β) ((k.cells.drop off).take n) l' ∧ ∀ j v, l'[j]? = some v → w.cell? ((⟨b, off, none⟩ : Addr).add j) = some v
  | 0, _ => ⟨[], rfl, by simp; exact .nil, fun j v hj => by simp at hj⟩
  | n + 1, hn => by
    rw [List.length_take, List.length_drop] at hn
    have hlt : off + n < k.cells.length := by omega
    obtain ⟨l', h1, h2, h3⟩ := seg_cells (off := off) h n (by rw [List.length_take, List.length_drop]; omega)
    obtain ⟨v', hv, hr⟩ := h (off + n) k.cells[off + n] (by simp [hlt])
    refine ⟨l' ++ [v'], by simp [h1], ?_, ?_⟩
    · rw [List.take_succ_eq_append_getElem (by rw [List.length_drop]; omega)]
      simp only [List.getElem_drop]
      exact h2.append (.cons hr .nil)
    · intro j v hj
      by_cases hjl : j < n
      · rw [List.getElem?_append_left (by omega)] at hj
        exact h3 j v hj
      · rw [List.getElem?_append_right (by omega)] at hj
        have hj0 : j - l'.length = 0 := by have := (List.getElem?_eq_some_iff.1 hj).1; simp at this; omega
        rw [hj0] at hj
        simp at hj; subst hj
        have : j = n := by omega
        rw [addr_add, this]; exact hv
theorem aLoad_ok {t : TypeId} {v v' u : Value} (h : aLoad P H t v = some u) (hv : RV β v v') (hs : HR N0 β H w) : ∃ u', (Instr.loadAt t v').run P w = .ok u' w ∧ RV β u u' := by
  unfold aLoad at h
  split at h
  · rename_i i off
    obtain ⟨b, x, hb, rfl⟩ := hv.ptr_inv
    split at h
    · rename_i k hk
      obtain ⟨b', x', hb', hcs⟩ := hs.rd i k hk
      rw [hb] at hb'; cases hb'
      split at h
      · rename_i n ha hn
        split at h
        · rename_i hl
          simp only [Option.some.injEq] at h; subst h
          obtain ⟨l', hl', h5, h6⟩ := seg_cells (off := off) hcs n hl
          have hr := run_loadCells_list (P := P) w ⟨b, off, none⟩ l' h6
          refine ⟨.agg l'.toArray, ?_, .one (.agg h5)⟩
          rw [hl'] at hr
          simp [Instr.loadAt, Instr.sureAddr, loadVar, run_isAgg ha, run_sizeOf hn, hr]
        · cases h
      · rename_i n ha hn
        obtain ⟨u', hu, hr⟩ := hcs off _ h
        exact ⟨u', by simp [Instr.loadAt, Instr.sureAddr, loadVar, run_isAgg ha, hu], .one (.base hr)⟩
      · cases h
    · cases h
  · cases h

def aStore (P : Program) (N0 : Nat) (H : Hp) (t : TypeId) (p v : Value) : Option Hp :=
  match p with
  | .pointer (some ⟨i, off, none⟩) =>
    match H.get i, cellsL v, sizeB P t with
    | .live k, some cs, some n => if N0 ≤ i ∧ cs.length = n ∧ off + n ≤ k.cells.length then some (H.put i (.live { k with cells := k.cells.take off ++ cs ++ k.cells.drop (off + n) })) else none
    | _, _, _ => none
  | _ => none
theorem put_cells {i b x off : Nat} {k : Blk} {cs : Array Value} (hs : HS N0 w0 β H w) (hN : N0 ≤ i) (hk : H.get i = .live k) (hb : β i = some (b, x)) (hg : w.heap[b]? = some (.cells cs k.elem (0, 0)))
    (h3 : All2 (R0 β) k.cells (cs.toList.take k.cells.length)) (h4 : cs.size = k.cells.length + x * k.unit) (h5 : k.opn = false → x = 0) (h6 : k.capN + x ≤ maxLen)
    {l l' : List Value} (hl : All2 (R0 β) l l') (hfit : off + l.length ≤ k.cells.length) :
    HS N0 w0 β (H.put i (.live { k with cells := k.cells.take off ++ l ++ k.cells.drop (off + l.length) })) (w.setRow b (cs.toList.take off ++ l' ++ cs.toList.drop (off + l'.length)).toArray) := by
  have hll := hl.length
  have hlen : (k.cells.take off ++ l ++ k.cells.drop (off + l.length)).length = k.cells.length := by simp; omega
  refine hs.write hN hk hb hg rfl ?_ ?_ h5 h6
  · simp only [hlen]
    have e : (cs.toList.take off ++ l' ++ cs.toList.drop (off + l'.length)).take k.cells.length = (cs.toList.take k.cells.length).take off ++ l' ++ (cs.toList.take k.cells.length).drop (off + l'.length) := by
      apply List.ext_getElem?
      intro j
      have hsz : k.cells.length ≤ cs.toList.length := by simp [h4]
      simp only [List.getElem?_take, List.getElem?_append, List.length_append, List.length_take, List.getElem?_drop]
      rw [← hll]
      have m1 : min off cs.toList.length = off := by omega
      have m2 : min off (min k.cells.length cs.toList.length) = off := by omega
      rw [m1, m2]
      by_cases c1 : j < k.cells.length
      · by_cases c2 : j < off + l.length
        · by_cases c3 : j < off
          · simp [c1, c2, c3]
          · simp [c1, c2, c3]
        · have c4 : off + l.length + (j - (off + l.length)) = j := by omega
          simp [c1, c2, c4]
      · have c2 : ¬ j < off + l.length := by omega
        have c4 : off + l.length + (j - (off + l.length)) = j := by omega
        simp [c1, c2, c4]
    show All2 (R0 β) _ ((cs.toList.take off ++ l' ++ cs.toList.drop (off + l'.length)).take k.cells.length)
    rw [e, ← hll]
    exact ((h3.take off).append hl).append (h3.drop _)
  · simp only [hlen, ← h4]
    simp
    have : cs.size = cs.toList.length := by simp
    omega
theorem oneCells {l l' : List Value} (h : All2 (R0 β) l l') : ∀ v ∈ l', v.oneCell' = true := by
  induction h with
  | nil => simp
  | cons h _ ih => intro v hv; cases hv with
    | head => exact h.one
    | tail _ hv => exact ih v hv
theorem aStore_ok {t : TypeId} {p p' v v' : Value} {H' : Hp} (h : aStore P N0 H t p v = some H') (hp : RV β p p') (hv : RV β v v') (hs : HS N0 w0 β H w) : ∃ w', (Instr.storeAt t p' v').run P w = .ok () w' ∧ HS N0 w0 β H' w' := by
  unfold aStore at h
  split at h
  · rename_i i off
    obtain ⟨b, x, hb, rfl⟩ := hp.ptr_inv
    split at h
    · rename_i k l n hk hl hn
      split at h
      · rename_i hc
        obtain ⟨c1, c2, c3⟩ := hc
        simp only [Option.some.injEq] at h; subst h
        obtain ⟨b', x', cs, hb', hg, h3, h4, h5, h6⟩ := hs.blk i k c1 hk
        rw [hb] at hb'; cases hb'
        have hcs := hv.cells hl
        subst c2
        have hw := put_cells (off := off) hs c1 hk hb hg h3 h4 h5 h6 hcs (by omega)
        have hst := run_storeCells_at P b off k.elem v'.cells.toList 0 cs w hg (by rw [← hcs.length, h4]; omega) (oneCells hcs)
        refine ⟨_, ?_, hw⟩
        have hsz : v'.cells.size = l.length := by have := hcs.length; simpa using this.symm
        simp only [Nat.add_zero] at hst
        simp [Instr.storeAt, Instr.sureAddr, storeVar, run_sizeOf hn, hsz, hst]
      · cases h
    · cases h
  · cases h

/-- a new variable -/
def aNew (P : Program) (H : Hp) (at_ : Nat) (t : TypeId) (v : Value) : Option (Value × Hp) :=
  match cellsL v, H.get at_ with
  | some cs, .resv => some (.pointer (some ⟨at_, 0, none⟩), H.put at_ (.live { cells := cs, elem := t, unit := 1, capN := 1, opn := false }))
  | _, _ => none
theorem aNew_ok {at_ : Nat} {t : TypeId} {v v' u : Value} {H' : Hp} (h : aNew P H at_ t v = some (u, H')) (hv : RV β v v') (hs : HS N0 w0 β H w) :
    ∃ a w' β', (newVar t v').run P w = .ok a w' ∧ Ext β β' ∧ RV β' u (.pointer (some a)) ∧ HS N0 w0 β' H' w' := by
  unfold aNew at h
  split at h
  · rename_i cs hc hj
    simp only [Option.some.injEq, Prod.mk.injEq] at h
    obtain ⟨rfl, rfl⟩ := h
    have hcs := hv.cells hc
    obtain ⟨a1, a2, a3⟩ := hs.alloc hj { cells := cs, elem := t, unit := 1, capN := 1, opn := false } 0 v'.cells w (.inl rfl) (by rw [hcs.length, List.take_length]; exact hcs) (by have := hcs.length; simpa using this.symm) (fun _ => rfl) (by show 1 + 0 ≤ maxLen; decide)
    exact ⟨_, _, _, rfl, a2, .one (.base (.ptr a3)), a1⟩
  · cases h

/-- reslicing, lengths -/
def natOf : Value → Option Nat
  | .int _ (.ofNat n) => some n
  | _ => none
theorem natOf_inv {v v' : Value} {n : Nat} (h : natOf v = some n) (hv : RV β v v') : ∃ k, v' = .int k n := by
  cases v <;> simp [natOf] at h
  rename_i k m
  cases m <;> simp at h
  subst h
  exact ⟨k, hv.int_inv⟩

def bndOf (d : Nat) : Option Value → Option Nat
  | some v => natOf v
  | none => some d
def IsBnd (d l : Nat) : Option Value → Prop
  | some v => ∃ k, v = Value.int k (l : Int)
  | none => l = d
def aSlice (P : Program) (H : Hp) (t : TypeId) (x : Value) (lo hi : Option Value) : Option Value :=
  match P.underlying t, x with
  | some (.slice e), .slice a n c =>
    let l := bndOf 0 lo
    let h := bndOf n hi
    match l, h, sizeB P e with
    | some l, some h, some z => if l ≤ h ∧ h ≤ c ∧ l < c then
        match a with
        | some ⟨i, o, sp⟩ => some (.slice (some ⟨i, o + l * z, sp⟩) (h - l) (c - l))
        | _ => none
      else if l = 0 ∧ h = 0 ∧ a.isNone = true ∧ n = 0 ∧ c = 0 then some (.slice none 0 0) else none
    | _, _, _ => none
  | some (.array n e), .pointer (some ⟨i, o, none⟩) =>
    let l := bndOf 0 lo
    let h := bndOf n hi
    match l, h, sizeB P e with
    | some l, some h, some z => if l ≤ h ∧ h ≤ n ∧ l < n then some (.slice (some ⟨i, o + l * z, some 0⟩) (h - l) (n - l)) else none
    | _, _, _ => none
  | _, _ => none
/-- a slice with a capacity told -/
def aSlice3 (P : Program) (t : TypeId) (x : Value) (lo hi mx : Option Value) : Option Value :=
  match P.underlying t, x with
  | some (.slice e), .slice (some ⟨i, o, sp⟩) n c =>
    match bndOf 0 lo, hi.bind natOf, mx.bind natOf, sizeB P e with
    | some l, some h, some m, some z => if l ≤ h ∧ h ≤ m ∧ m ≤ c ∧ (l < m ∨ l = 0) then some (.slice (some ⟨i, o + l * z, some 0⟩) (h - l) (m - l)) else none
    | _, _, _, _ => none
  | _, _ => none
theorem run_bounds {b : Bool} {n c : Nat} {lo hi : Option Value} {l h : Nat} (hl : IsBnd 0 l lo) (hh : IsBnd n h hi)
    (h1 : l ≤ h) (h2 : h ≤ c) : (Instr.sliceBounds b n c lo hi none).run P w = .ok (l, h, c) w := by
  have i1 : ((l : Nat) : Int) ≤ (h : Int) := by omega
  have i2 : ((h : Nat) : Int) ≤ (c : Int) := by omega
  have i3 : (0 : Int) ≤ (l : Int) := by omega
  have i4 : (0 : Int) ≤ (h : Int) := by omega
  cases lo with
  | none =>
    cases hi with
    | none => subst hl; subst hh; simp [Instr.sliceBounds]
    | some v => subst hl; obtain ⟨k, rfl⟩ := hh; simp [Instr.sliceBounds, Instr.sliceBound, asIntOf, h2]
  | some u =>
    cases hi with
    | none => subst hh; obtain ⟨k, rfl⟩ := hl; simp [Instr.sliceBounds, Instr.sliceBound, asIntOf, h1]
    | some v => obtain ⟨k, rfl⟩ := hl; obtain ⟨k', rfl⟩ := hh; simp [Instr.sliceBounds, Instr.sliceBound, asIntOf, h1, h2]
inductive RO (β : Bs) : Option Value → Option Value → Prop
  | no : RO β none none
  | so {v v' : Value} : RV β v v' → RO β (some v) (some v')
theorem RO.bound {lo lo' : Option Value} (h : RO β lo lo') {d l : Nat} (hl : bndOf d lo = some l) : IsBnd d l lo' := by
  cases h with
  | no => simpa [bndOf, IsBnd] using hl.symm
  | so hv => exact natOf_inv hl hv
theorem aSlice_ok {t : TypeId} {x x' u : Value} {lo lo' hi hi' : Option Value} (h : aSlice P H t x lo hi = some u) (hx : RV β x x') (hl : RO β lo lo') (hh : RO β hi hi') (hs : HR N0 β H w) :
    ∃ u', (Instr.sliceAt t x' lo' hi' none).run P w = .ok u' w ∧ RV β u u' := by
  unfold aSlice at h
  split at h
  · rename_i e a n c hu
    simp only at h
    split at h
    · rename_i l hh' z el eh ez
      have bl := hl.bound el
      have bh := hh.bound eh
      split at h
      · rename_i hc
        obtain ⟨c1, c2, c3⟩ := hc
        split at h
        · rename_i i o sp
          obtain ⟨b, xx, hb, rfl⟩ := hx.slp_inv
          simp only [Option.some.injEq] at h; subst h
          have hr := run_bounds (P := P) (w := w) (b := true) (n := n) (c := c + xo sp xx) bl bh c1 (by omega)
          refine ⟨.slice (some ⟨b, o + l * z, none⟩) (hh' - l) (c - l + xo sp xx), ?_, .one (.base (.slp hb))⟩
          have hne : ¬ (c + xo sp xx = l) := by omega
          have he : c + xo sp xx - l = c - l + xo sp xx := by omega
          simp [Instr.sliceAt, Instr.slice, run_underlying hu, hr, run_sizeOf ez, hne, addr_add, he]
        · cases h
      · split at h
        · rename_i hc
          obtain ⟨rfl, rfl, hn, rfl, rfl⟩ := hc
          simp only [Option.some.injEq] at h; subst h
          have : a = none := by simpa using hn
          subst this
          have hx' : x' = .slice none 0 0 := hx.eq_flat rfl
          subst hx'
          have hr := run_bounds (P := P) (w := w) (b := true) (n := 0) (c := 0) bl bh (Nat.le_refl _) (Nat.le_refl _)
          exact ⟨_, by simp [Instr.sliceAt, Instr.slice, run_underlying hu, hr, run_sizeOf ez], .of_flat rfl⟩
        · cases h
    · cases h
  · rename_i n e i o hu
    simp only at h
    split at h
    · rename_i l hh' z el eh ez
      have bl := hl.bound el
      have bh := hh.bound eh
      split at h
      · rename_i hc
        obtain ⟨c1, c2, c3⟩ := hc
        obtain ⟨b, xx, hb, rfl⟩ := hx.ptr_inv
        simp only [Option.some.injEq] at h; subst h
        have hr := run_bounds (P := P) (w := w) (b := false) (n := n) (c := n) bl bh c1 c2
        refine ⟨.slice (some ⟨b, o + l * z, none⟩) (hh' - l) (n - l + 0), ?_, .one (.base (.slp (sp := some 0) hb))⟩
        have hne : ¬ (n = l) := by omega
        simp [Instr.sliceAt, run_underlying hu, Instr.sureAddr, hr, run_sizeOf ez, hne, addr_add]
      · cases h
    · cases h
  · cases h
theorem aSlice3_ok {t : TypeId} {x x' u : Value} {lo lo' hi hi' mx mx' : Option Value} (h : aSlice3 P t x lo hi mx = some u) (hx : RV β x x') (hl : RO β lo lo') (hh : RO β hi hi') (hm : RO β mx mx') :
    ∃ u', (Instr.sliceAt t x' lo' hi' mx').run P w = .ok u' w ∧ RV β u u' := by
  unfold aSlice3 at h
  split at h
  · rename_i e i o sp n c hu
    split at h
    · rename_i l hh' m z el eh em ez
      have bl := hl.bound el
      split at h
      · rename_i hc
        obtain ⟨c1, c2, c3, c4⟩ := hc
        obtain ⟨b, xx, hb, rfl⟩ := hx.slp_inv
        simp only [Option.some.injEq] at h; subst h
        cases hh with
        | no => cases eh
        | so hh =>
        cases hm with
        | no => cases em
        | so hm =>
        obtain ⟨kh, rfl⟩ := natOf_inv eh hh
        obtain ⟨km, rfl⟩ := natOf_inv em hm
        have q : m ≤ c + xo sp xx := by omega
        generalize c + xo sp xx = C at q
        have hr : (Instr.sliceBounds true n C lo' (some (.int kh hh')) (some (.int km m))).run P w = .ok (l, hh', m) w := by
          cases lo' with
          | none => have e0 : l = 0 := bl; subst e0; simp [Instr.sliceBounds, Instr.sliceBound, asIntOf, c2, q]
          | some u => obtain ⟨k, rfl⟩ := bl; simp [Instr.sliceBounds, Instr.sliceBound, asIntOf, c1, c2, q]
        refine ⟨.slice (some ⟨b, o + l * z, none⟩) (hh' - l) (m - l + 0), ?_, .one (.base (.slp (sp := some 0) hb))⟩
        simp only [Instr.sliceAt, Instr.slice, Sem.run_bind, run_underlying hu, Result.andThen_ok, hr, run_sizeOf ez, Sem.run_pure, Option.map_some, addr_add]
        by_cases hml : m = l
        · have : l = 0 := by omega
          simp [hml, this]
        · simp [hml]
      · cases h
    · cases h
  · cases h
end
end Go.Proofs.Ytlieapapmkbbgaa

namespace Go.Proofs.Ytlieapapmkbbgaa
open Go Go.RowKit
set_option linter.unusedVariables false
set_option linter.unusedSimpArgs false

section
variable {P : Program} {N0 : Nat} {w0 w : World} {β : Bs} {H : Hp}

/-- what asks for nothing but the program -/
def semPure (P : Program) {α : Type} : Sem α → Option α
  | .pure a => some a
  | .program k => semPure P (k P)
  | .mark _ k => semPure P k
  | _ => none
theorem semPure_ok {α : Type} {s : Sem α} {a : α} (h : semPure P s = some a) : s.run P w = .ok a w := by
  induction s with
  | pure b => simp [semPure] at h; subst h; rfl
  | program k ih => exact ih _ h
  | mark m k ih => exact ih h
  | _ => simp [semPure] at h

def aFieldAddr (P : Program) (s : TypeId) (v : Value) (f : Nat) : Option Value :=
  match P.underlying s, v with
  | some (.struct fs), .pointer (some ⟨i, o, none⟩) =>
    match fs[f]? with
    | some fd => match sizeB P fd.type with
      | some (_ + 1) => some (.pointer (some ⟨i, o + fd.offset, none⟩))
      | _ => none
    | none => none
  | _, _ => none
theorem aFieldAddr_ok {s : TypeId} {v v' u : Value} {f : Nat} (h : aFieldAddr P s v f = some u) (hv : RV β v v') : ∃ u', (Instr.fieldAt s v' f).run P w = .ok u' w ∧ RV β u u' := by
  unfold aFieldAddr at h
  split at h
  · rename_i fs i o hu
    obtain ⟨b, x, hb, rfl⟩ := hv.ptr_inv
    split at h
    · rename_i fd hf
      split at h
      · rename_i n hn
        simp only [Option.some.injEq] at h; subst h
        exact ⟨.pointer (some ⟨b, o + fd.offset, none⟩), by simp [Instr.fieldAt, run_underlying hu, hf, Instr.sureAddr, fieldPlace, run_sizeOf hn, addr_add], .one (.base (.ptr hb))⟩
      · cases h
    · cases h
  · cases h

def aIndexAddr (P : Program) (t : TypeId) (v ix : Value) : Option Value :=
  match natOf ix, P.underlying t, v with
  | some j, some (.array n e), .pointer (some ⟨i, o, none⟩) => match sizeB P e with
    | some z => if j < n then some (.pointer (some ⟨i, o + j * z, none⟩)) else none
    | none => none
  | some j, some (.slice e), .slice (some ⟨i, o, _⟩) n _ => match sizeB P e with
    | some z => if j < n then some (.pointer (some ⟨i, o + j * z, none⟩)) else none
    | none => none
  | _, _, _ => none
theorem aIndexAddr_ok {t : TypeId} {v v' ix ix' u : Value} (h : aIndexAddr P t v ix = some u) (hv : RV β v v') (hi : RV β ix ix') : ∃ u', (Instr.indexAt t v' ix').run P w = .ok u' w ∧ RV β u u' := by
  unfold aIndexAddr at h
  split at h
  · rename_i j n e i o hj hu
    obtain ⟨b, x, hb, rfl⟩ := hv.ptr_inv
    obtain ⟨k, rfl⟩ := natOf_inv hj hi
    split at h
    · rename_i z hz
      split at h
      · rename_i hlt
        simp only [Option.some.injEq] at h; subst h
        have h0 : (0 : Int) ≤ j ∧ (j : Int) < n := by omega
        exact ⟨.pointer (some ⟨b, o + j * z, none⟩), by simp [Instr.indexAt, asIntOf, run_underlying hu, Instr.sureAddr, hlt, run_sizeOf hz, addr_add], .one (.base (.ptr hb))⟩
      · cases h
    · cases h
  · rename_i j e i o sp n c hj hu
    obtain ⟨b, x, hb, rfl⟩ := hv.slp_inv
    obtain ⟨k, rfl⟩ := natOf_inv hj hi
    split at h
    · rename_i z hz
      split at h
      · rename_i hlt
        simp only [Option.some.injEq] at h; subst h
        exact ⟨.pointer (some ⟨b, o + j * z, none⟩), by simp [Instr.indexAt, asIntOf, run_underlying hu, Instr.sureAddr, hlt, run_sizeOf hz, addr_add], .one (.base (.ptr hb))⟩
      · cases h
    · cases h
  · cases h

/-- a part of a struct or an array by value -/
def aPart (P : Program) (t : TypeId) (cs : List Value) (off : Nat) : Option Value :=
  match aggB P t, sizeB P t with
  | some true, some n => some (.agg ((cs.drop off).take n).toArray)
  | some false, some _ => cs[off]?
  | _, _ => none
theorem aPart_ok {t : TypeId} {cs cs' : List Value} {off : Nat} {u : Value} (h : aPart P t cs off = some u) (hc : All2 (R0 β) cs cs') : ∃ u', (part t cs'.toArray off).run P w = .ok u' w ∧ RV β u u' := by
  unfold aPart at h
  split at h
  · rename_i n ha hn
    simp only [Option.some.injEq] at h; subst h
    refine ⟨.agg ((cs'.drop off).take n).toArray, ?_, .one (.agg ((hc.drop off).take n))⟩
    simp [part, run_isAgg ha, run_sizeOf hn, List.extract_eq_take_drop]
  · rename_i n ha hn
    obtain ⟨u', hu, hr⟩ := hc.get h
    exact ⟨u', by simp [part, run_isAgg ha, hu], .one (.base hr)⟩
  · cases h
def aField (P : Program) (t : TypeId) (v : Value) (f : Nat) : Option Value :=
  match P.underlying t, v with
  | some (.struct fs), .agg cs => match fs[f]? with
    | some fd => aPart P fd.type cs.toList fd.offset
    | none => none
  | _, _ => none
theorem aField_ok {t : TypeId} {v v' u : Value} {f : Nat} (h : aField P t v f = some u) (hv : RV β v v') : ∃ u', (Instr.field t v' f).run P w = .ok u' w ∧ RV β u u' := by
  unfold aField at h
  split at h
  · rename_i fs cs hu
    obtain ⟨l', hl, rfl⟩ := hv.agg_inv
    split at h
    · rename_i fd hf
      obtain ⟨u', hr, hu'⟩ := aPart_ok (w := w) h hl
      exact ⟨u', by simp [Instr.field, run_underlying hu, hf, asAgg, hr], hu'⟩
    · cases h
  · cases h
def aIndex (P : Program) (t : TypeId) (v ix : Value) : Option Value :=
  match natOf ix, P.underlying t, v with
  | some j, some (.array n e), .agg cs => match sizeB P e with
    | some z => if j < n then aPart P e cs.toList (j * z) else none
    | none => none
  | some j, some .string, .string s => (s[j]?).map fun b => .int .u8 b.toNat
  | _, _, _ => none
theorem aIndex_ok {t : TypeId} {v v' ix ix' u : Value} (h : aIndex P t v ix = some u) (hv : RV β v v') (hi : RV β ix ix') : ∃ u', (Instr.index t v' ix').run P w = .ok u' w ∧ RV β u u' := by
  unfold aIndex at h
  split at h
  · rename_i j n e cs hj hu
    obtain ⟨l', hl, rfl⟩ := hv.agg_inv
    obtain ⟨k, rfl⟩ := natOf_inv hj hi
    split at h
    · rename_i z hz
      split at h
      · rename_i hlt
        obtain ⟨u', hr, hu'⟩ := aPart_ok (w := w) h hl
        exact ⟨u', by simp [Instr.index, asIntOf, run_underlying hu, hlt, run_sizeOf hz, hr], hu'⟩
      · cases h
    · cases h
  · rename_i j s hj hu
    obtain ⟨k, rfl⟩ := natOf_inv hj hi
    have := hv.eq_flat rfl; subst this
    simp only [Option.map_eq_some_iff] at h
    obtain ⟨b, hb, rfl⟩ := h
    exact ⟨_, by simp [Instr.index, asIntOf, run_underlying hu, hb], .of_flat rfl⟩
  · cases h
def aExtract (v : Value) (ix : Nat) : Option Value :=
  match v with
  | .tuple vs => vs.toList[ix]?
  | _ => none
theorem aExtract_ok {v v' u : Value} {ix : Nat} (h : aExtract v ix = some u) (hv : RV β v v') : ∃ u', (Instr.extract v' ix).run P w = .ok u' w ∧ RV β u u' := by
  unfold aExtract at h
  split at h
  · rename_i vs
    obtain ⟨l', hl, rfl⟩ := hv.tup_inv
    obtain ⟨u', hu, hr⟩ := hl.get h
    exact ⟨u', by simp [Instr.extract, hu], .one hr⟩
  · cases h

/-- literals -/
def aFill (place : Nat → Option (Nat × Nat)) (cells : List Value) : List (Nat × Value) → Option (List Value)
  | [] => some cells
  | (i, v) :: rest =>
    match place i, cellsL v with
    | some (off, size), some cs => if cs.length = size ∧ off + size ≤ cells.length then aFill place (cells.take off ++ cs ++ cells.drop (off + size)) rest else none
    | _, _ => none
theorem set_fold : ∀ (l : List Value) (off j : Nat) (cells : List Value), off + j + l.length ≤ cells.length →
    ((l.zipIdx j).foldl (fun cs (x : Value × Nat) => cs.setIfInBounds (off + x.2) x.1) cells.toArray).toList = cells.take (off + j) ++ l ++ cells.drop (off + j + l.length)
  | [], off, j, cells, h => by simp
  | v :: l, off, j, cells, h => by
    simp only [List.zipIdx_cons, List.foldl_cons, List.setIfInBounds_toArray]
    rw [set_fold l off (j + 1) (cells.set (off + j) v) (by simp at h ⊢; omega)]
    have := list_seg_step cells (off + j) v l (by simp at h; omega)
    simpa [Nat.add_assoc] using this
theorem aFill_ok {place : Nat → Option (Nat × Nat)} : ∀ (parts parts' : List (Nat × Value)) (cells cells' cs : List Value), aFill place cells parts = some cs → All2 (R0 β) cells cells' →
    All2 (fun a b => a.1 = b.1 ∧ RV β a.2 b.2) parts parts' → ∃ cs', Instr.fill place cells'.toArray parts' = some cs' ∧ All2 (R0 β) cs cs'.toList
  | [], _, cells, cells', cs, h, hc, hp => by
    cases hp
    simp [aFill] at h; subst h
    exact ⟨_, rfl, by simpa using hc⟩
  | (i, v) :: rest, _, cells, cells', cs, h, hc, hp => by
    cases hp with | cons h1 h2 =>
    rename_i b m
    obtain ⟨i', v'⟩ := b
    obtain ⟨rfl, hv⟩ := h1
    simp only [aFill] at h
    split at h
    · rename_i off size l hpl hl
      split at h
      · rename_i hfit
        obtain ⟨rfl, hf⟩ := hfit
        have hcs := hv.cells hl
        have hlen : v'.cells.size = l.length := by have := hcs.length; simpa using this.symm
        have hcl := hc.length
        have hset := set_fold v'.cells.toList off 0 cells' (by rw [← hcs.length, ← hcl]; simpa using hf)
        have hnew : All2 (R0 β) (cells.take off ++ l ++ cells.drop (off + l.length)) (cells'.take off ++ v'.cells.toList ++ cells'.drop (off + l.length)) := ((hc.take off).append hcs).append (hc.drop _)
        obtain ⟨cs', g1, g2⟩ := aFill_ok rest m _ _ cs h hnew h2
        refine ⟨cs', ?_, g2⟩
        simp only [Instr.fill, hpl, hlen]
        have hno : ¬ (cells'.toArray.size < off + l.length) := by simp; omega
        have hno' : ¬ (off + l.length > cells'.toArray.size) := by simp; omega
        have e : (Array.foldl (fun cs (x : Value × Nat) => cs.setIfInBounds (off + x.2) x.1) cells'.toArray v'.cells.zipIdx) = (cells'.take off ++ v'.cells.toList ++ cells'.drop (off + l.length)).toArray := by
          apply Array.ext'
          rw [← Array.foldl_toList]
          have hz : v'.cells.zipIdx.toList = v'.cells.toList.zipIdx 0 := by simp
          rw [hz, hset]
          simp [← hcs.length]
        simp [hno, hno']
        have e' := e
        simp at e'
        rw [e']
        exact ⟨by omega, by simpa using g1⟩
      · cases h
    · cases h
end
end Go.Proofs.Ytlieapapmkbbgaa

namespace Go.Proofs.Ytlieapapmkbbgaa
open Go Go.RowKit
set_option linter.unusedVariables false
set_option linter.unusedSimpArgs false

section
variable {P : Program} {N0 : Nat} {w0 w : World} {β : Bs} {H : Hp}

def zeroB (P : Program) (t : TypeId) : Option Value := (P.info? t).bind (·.zero)
theorem run_zeroValue {t : TypeId} {v : Value} (h : zeroB P t = some v) : (zeroValue t).run P w = .ok v w := by
  unfold zeroB at h
  cases hi : P.info? t with
  | none => rw [hi] at h; cases h
  | some i => rw [hi] at h; simp at h; simp [zeroValue, typeInfo, hi, h]

def AllP (β : Bs) : List (Nat × Value) → List (Nat × Value) → Prop := All2 (fun a b => a.1 = b.1 ∧ RV β a.2 b.2)
def aBuild (P : Program) (t : TypeId) (parts : List (Nat × Value)) : Option Value :=
  match zeroB P t, P.underlying t with
  | some z, some (.struct fs) =>
    match semPure P (fs.mapM fun f => do pure (f.offset, ← sizeOf f.type)) with
    | some places => if z.cells.toList.all flatL then (aFill (places[·]?) z.cells.toList parts).map fun cs => .agg cs.toArray else none
    | none => none
  | some z, some (.array _ e) =>
    match sizeB P e with
    | some s => if z.cells.toList.all flatL then (aFill (fun i => some (i * s, s)) z.cells.toList parts).map fun cs => .agg cs.toArray else none
    | none => none
  | _, _ => none
theorem flats {l : List Value} (h : l.all flatL = true) : All2 (R0 β) l l := All2.self fun x hx => .flatX (List.all_eq_true.1 h x hx)
theorem aBuild_ok {t : TypeId} {parts : List (Nat × Value)} {parts' : Array (Nat × Value)} {u : Value} (h : aBuild P t parts = some u) (hp : AllP β parts parts'.toList) :
    ∃ u', (Instr.build t parts').run P w = .ok u' w ∧ RV β u u' := by
  unfold aBuild at h
  split at h
  · rename_i z fs hz hu
    split at h
    · rename_i places hpl
      split at h
      · rename_i hf
        simp only [Option.map_eq_some_iff] at h
        obtain ⟨cs, hc, rfl⟩ := h
        obtain ⟨cs', g1, g2⟩ := aFill_ok _ _ _ _ _ hc (flats hf) hp
        refine ⟨.agg cs', ?_, ?_⟩
        · have := semPure_ok (w := w) hpl
          simp only [bind_pure_comp] at this
          simp only [Array.toArray_toList] at g1
          simp [Instr.build, run_zeroValue hz, run_underlying hu, this, g1]
        · have := RV.one (.agg g2); simpa using this
      · cases h
    · cases h
  · rename_i z n e hz hu
    split at h
    · rename_i s hs
      split at h
      · rename_i hf
        simp only [Option.map_eq_some_iff] at h
        obtain ⟨cs, hc, rfl⟩ := h
        obtain ⟨cs', g1, g2⟩ := aFill_ok _ _ _ _ _ hc (flats hf) hp
        refine ⟨.agg cs', ?_, ?_⟩
        · simp only [Array.toArray_toList] at g1
          simp [Instr.build, run_zeroValue hz, run_underlying hu, run_sizeOf hs, g1]
        · have := RV.one (.agg g2); simpa using this
      · cases h
    · cases h
  · cases h

/-- a new row -/
def rowBlk (e : TypeId) (cs : List Value) (unit n : Nat) : Blk := { cells := cs, elem := e, unit := unit, capN := n, opn := false }
theorem row_ok {at_ : Nat} {e : TypeId} {cs : List Value} {cs' : Array Value} {unit n : Nat} (hj : H.get at_ = .resv) (hc : All2 (R0 β) cs cs'.toList) (hn : n ≤ maxLen) (hs : HS N0 w0 β H w) {l : Nat} :
    ∃ β', Ext β β' ∧ RV β' (.slice (some ⟨at_, 0, none⟩) l n) (.slice (some ⟨w.heap.size, 0, none⟩) l n) ∧ HS N0 w0 β' (H.put at_ (.live (rowBlk e cs unit n))) (w.alloc (.cells cs' e)) := by
  obtain ⟨a1, a2, a3⟩ := hs.alloc hj (rowBlk e cs unit n) 0 cs' w (.inl rfl) (by show All2 _ cs _; rw [show (rowBlk e cs unit n).cells.length = cs'.toList.length from hc.length, List.take_length]; exact hc) (by have := hc.length; simp [rowBlk]; simpa using this.symm) (fun _ => rfl) (by simpa [rowBlk] using hn)
  exact ⟨_, a2, .one (.base (.slc (x := 0) a3)), a1⟩

def isResv : Ent → Bool
  | .resv => true
  | _ => false
theorem isResv_ok {e : Ent} (h : isResv e = true) : e = .resv := by cases e <;> simp_all [isResv]
def repL (z : List Value) : Nat → List Value
  | 0 => []
  | n + 1 => z ++ repL z n
theorem repL_len (z : List Value) : ∀ n, (repL z n).length = n * z.length
  | 0 => by simp [repL]
  | n + 1 => by simp only [repL, List.length_append, repL_len z n, Nat.add_mul]; omega
theorem repL_get (z : List Value) : ∀ (n i : Nat), i < n * z.length → (repL z n)[i]? = z[i % z.length]?
  | 0, i, h => by simp at h
  | n + 1, i, h => by
    simp only [repL]
    by_cases hi : i < z.length
    · rw [List.getElem?_append_left hi, Nat.mod_eq_of_lt hi]
    · have hge : z.length ≤ i := by omega
      rw [List.getElem?_append_right hge, repL_get z n (i - z.length) (by rw [Nat.add_mul] at h; omega)]
      exact congrArg (z[·]?) (Nat.mod_eq_sub_mod hge).symm
theorem made_eq {z : Array Value} {n s : Nat} (hs : z.size = s) : madeCells z (n * s) = (repL z.toList n).toArray := by
  apply Array.ext'
  apply List.ext_getElem?
  intro i
  subst hs
  simp only [madeCells, Array.toList_map, Array.toList_range, List.getElem?_map, List.toList_toArray]
  by_cases hi : i < n * z.size
  · rw [List.getElem?_range hi, repL_get _ _ _ (by simpa using hi)]
    have hz : 0 < z.size := by
      rcases Nat.eq_zero_or_pos z.size with h | h
      · rw [h] at hi; simp at hi
      · exact h
    have hlt : i % z.size < z.size := Nat.mod_lt _ hz
    simp [hlt]
  · rw [List.getElem?_eq_none (by simp; omega), List.getElem?_eq_none (by rw [repL_len]; simp; omega)]
    rfl
theorem repL_flat {z : List Value} (h : z.all flatL = true) : ∀ n, (repL z n).all flatL = true
  | 0 => rfl
  | n + 1 => by simp only [repL, List.all_append, h, repL_flat h n, Bool.and_self]
def aBuildSlice (P : Program) (H : Hp) (at_ : Nat) (t : TypeId) (len : Nat) (parts : List (Nat × Value)) : Option (Value × Hp) :=
  match P.underlying t with
  | some (.slice e) =>
    match sizeB P e, zeroB P e with
    | some s, some z =>
      if len * s ≤ 16777216 ∧ len ≤ 16777216 ∧ isResv (H.get at_) = true then
        if z.cells.toList.all flatL = true ∧ z.cells.size = s then
          match aFill (fun i => some (i * s, s)) (repL z.cells.toList len) parts with
          | some cs => some (.slice (some ⟨at_, 0, none⟩) len len, H.put at_ (.live (rowBlk e cs s len)))
          | none => none
        else none
      else none
    | _, _ => none
  | _ => none
theorem maxLen_big {n : Nat} (h : n ≤ 16777216) : n ≤ maxLen := by simp only [maxLen]; omega
theorem aBuildSlice_ok {at_ : Nat} {t : TypeId} {len : Nat} {parts : List (Nat × Value)} {parts' : Array (Nat × Value)} {u : Value} {H' : Hp} (h : aBuildSlice P H at_ t len parts = some (u, H')) (hp : AllP β parts parts'.toList) (hs : HS N0 w0 β H w) :
    ∃ u' w' β', (Instr.buildSlice t len parts').run P w = .ok u' w' ∧ Ext β β' ∧ RV β' u u' ∧ HS N0 w0 β' H' w' := by
  unfold aBuildSlice at h
  split at h
  · rename_i e hu
    split at h
    · rename_i s z hsz hz
      split at h
      · rename_i hlen
        obtain ⟨hl1, hl2, hres⟩ := hlen
        split at h
        · rename_i hf
          obtain ⟨hf, hzs⟩ := hf
          split at h
          · rename_i cs hc
            simp only [Option.some.injEq, Prod.mk.injEq] at h
            obtain ⟨rfl, rfl⟩ := h
            obtain ⟨cs', g1, g2⟩ := aFill_ok _ _ _ _ _ hc (flats (repL_flat hf len)) hp
            rw [← made_eq hzs] at g1
            obtain ⟨β', b1, b2, b3⟩ := row_ok (e := e) (unit := s) (l := len) (isResv_ok hres) g2 (maxLen_big hl2) hs
            refine ⟨_, _, β', ?_, b1, b2, b3⟩
            have hno : ¬ (16777216 < len * s) := by omega
            simp only [madeCells] at g1
            by_cases h0 : len * s = 0
            · rw [h0] at g1
              simp [Array.range_zero'] at g1
              simp [Instr.buildSlice, run_underlying hu, run_sizeOf hsz, h0, g1, newRow, Array.range_zero']
            · simp [Instr.buildSlice, run_underlying hu, run_sizeOf hsz, hno, h0, run_zeroValue hz, g1, newRow]
          · cases h
        · cases h
      · cases h
    · cases h
  · cases h

def aMake (P : Program) (H : Hp) (at_ : Nat) (t : TypeId) (l c : Value) : Option (Value × Hp) :=
  match P.underlying t, natOf l, natOf c with
  | some (.slice e), some l, some c =>
    match P.info? e with
    | some i => match i.zero with
      | some z =>
        let zs := repL z.cells.toList c
        if l ≤ c ∧ i.bytes * c ≤ 281474976710656 ∧ c ≤ 16777216 ∧ (z.cells.toList.all flatL = true ∧ z.cells.size = i.size) ∧ isResv (H.get at_) = true then some (.slice (some ⟨at_, 0, none⟩) l c, H.put at_ (.live (rowBlk e zs i.size c))) else none
      | none => none
    | none => none
  | _, _, _ => none
theorem aMake_ok {at_ : Nat} {t : TypeId} {l c l' c' u : Value} {H' : Hp} (h : aMake P H at_ t l c = some (u, H')) (hl : RV β l l') (hc : RV β c c') (hs : HS N0 w0 β H w) :
    ∃ u' w' β', (Instr.makeSlice t l' c').run P w = .ok u' w' ∧ Ext β β' ∧ RV β' u u' ∧ HS N0 w0 β' H' w' := by
  unfold aMake at h
  split at h
  · rename_i e ln cn hu hln hcn
    split at h
    · rename_i i hi
      split at h
      · rename_i z hz
        simp only at h
        split at h
        · rename_i hcond
          obtain ⟨h1, h2, h3, h4, hres⟩ := hcond
          simp only [Option.some.injEq, Prod.mk.injEq] at h
          obtain ⟨rfl, rfl⟩ := h
          obtain ⟨kl, rfl⟩ := natOf_inv hln hl
          obtain ⟨kc, rfl⟩ := natOf_inv hcn hc
          obtain ⟨β', b1, b2, b3⟩ := row_ok (e := e) (unit := i.size) (l := ln) (n := cn) (isResv_ok hres) (cs' := madeCells z.cells (cn * i.size)) (by rw [made_eq h4.2]; exact flats (repL_flat h4.1 cn)) (maxLen_big h3) hs
          have hr := run_make (P := P) w t e i z hu hi hz kl kc ln cn (by omega) (by omega) (by rw [← Int.natCast_mul]; omega) (by omega)
          simp only [Int.toNat_natCast] at hr
          exact ⟨_, _, β', hr, b1, b2, b3⟩
        · cases h
      · cases h
    · cases h
  · cases h

/-- a block is taken over under a new number, with more known of it -/
theorem HS.adopt {j i b x x' : Nat} {k k' : Blk} {cs cs' : Array Value} (hs : HS N0 w0 β H w) (hj : H.get j = .resv) (hN : N0 ≤ i) (hk : H.get i = .live k) (hb : β i = some (b, x))
    (hg : w.heap[b]? = some (.cells cs k.elem (0, 0))) (he : k'.elem = k.elem) (h3 : All2 (R0 β) k'.cells (cs'.toList.take k'.cells.length)) (h4 : cs'.size = k'.cells.length + x' * k'.unit) (h5 : k'.opn = true) (h6 : k'.capN + x' ≤ maxLen) :
    HS N0 w0 (updX β j (b, x')) ((H.put i .dead).put j (.live k')) (w.setRow b cs') ∧ Ext β (updX β j (b, x')) ∧ (updX β j (b, x')) j = some (b, x') := by
  have hbj := hs.resv j hj
  have e : Ext β (updX β j (b, x')) := Ext.updX hbj _
  have hnew := upd_same β j (b, x')
  have hbs : w0.heap.size ≤ b := hs.own i b x hN hb
  have hkill := hs.kill hk
  have hij : j ≠ i := by intro h; rw [h, hk] at hj; cases hj
  have hold : ∀ (a : Nat) (kk : Blk), ((H.put i .dead).put j (.live k')).get a = .live kk → (a ≠ i ∧ a ≠ j ∧ H.get a = .live kk) ∨ (a = j ∧ kk = k') := by
    intro a kk ha
    by_cases haj : a = j
    · subst haj
      rw [Hp.get_put_same hkill.wf] at ha; cases ha
      exact .inr ⟨rfl, rfl⟩
    · rw [Hp.get_put_other hkill.wf haj] at ha
      by_cases hai : a = i
      · subst hai; rw [Hp.get_put_same hs.wf] at ha; cases ha
      · rw [Hp.get_put_other hs.wf hai] at ha; exact .inl ⟨hai, haj, ha⟩
  have hjN : N0 ≤ j := by
    rcases Nat.lt_or_ge j N0 with hl | hl
    · rw [hs.glob j hl] at hbj; cases hbj
    · exact hl
  have hbel : Below w0.heap.size w (w.setRow b cs') := ⟨rfl, rfl, rfl, by simp, fun j hj => setRow_other w b j cs' (by omega)⟩
  have hblk : ∀ a kk, N0 ≤ a → ((H.put i .dead).put j (.live k')).get a = .live kk → BlkOk (updX β j (b, x')) a kk (w.setRow b cs') := by
    intro a kk hNa ha
    rcases hold a kk ha with ⟨hne, hnj, ha⟩ | ⟨rfl, rfl⟩
    · obtain ⟨b2, x2, c2, g1, g2, g3⟩ := hs.blk a kk hNa ha
      obtain ⟨b3, x3, c3, q1, q2, q3⟩ := BlkOk.mono e ⟨b2, x2, c2, g1, g2, g3⟩
      rw [e _ _ g1] at q1; cases q1
      refine ⟨b2, x2, c3, e _ _ g1, ?_, q3⟩
      rw [setRow_other w b b2 cs' (fun he => hne (hs.inj a i kk k _ _ hNa hN ha hk g1 hb he))]; exact q2
    · exact ⟨b, x', cs', hnew, by rw [he]; exact setRow_heap w b cs cs' k.elem (0, 0) hg, h3.mono (fun _ _ => R0.mono e), h4, (fun h => by rw [h5] at h; cases h), h6⟩
  refine ⟨{ rd := ?_, blk := hblk, glob := fun a ha => e _ _ (hs.glob a ha), gsz := hs.gsz, wf := Hp.put_wf hkill.wf _ _, below := hs.below.trans hbel, resv := ?_, own := ?_, inj := ?_ }, e, hnew⟩
  · intro a kk ha
    rcases Nat.lt_or_ge a N0 with hl | hl
    · rcases hold a kk ha with ⟨_, _, ha⟩ | ⟨rfl, _⟩
      · exact (hs.old hbel hl ha).mono e
      · omega
    · exact (hblk a kk hl ha).rd
  · intro a ha
    have hne : a ≠ j := by intro h; subst h; rw [Hp.get_put_same hkill.wf] at ha; cases ha
    rw [Hp.get_put_other hkill.wf hne] at ha
    rw [upd_other _ _ hne]; exact hkill.resv a ha
  · intro a b2 x2 ha hb2
    by_cases hne : a = j
    · subst hne; rw [hnew] at hb2; cases hb2; exact hbs
    · rw [upd_other _ _ hne] at hb2; exact hs.own a b2 x2 ha hb2
  · intro a c ka kc ba bc nA nC ha hc hba hbc heq
    rcases hold a ka ha with ⟨na, la, qa⟩ | ⟨la, _⟩ <;> rcases hold c kc hc with ⟨nc, lc, qc⟩ | ⟨lc, _⟩
    · rw [upd_other _ _ la] at hba
      rw [upd_other _ _ lc] at hbc
      exact hs.inj _ _ _ _ _ _ nA nC qa qc hba hbc heq
    · rw [upd_other _ _ la] at hba
      rw [lc, hnew] at hbc; cases hbc
      exact absurd (hs.inj _ _ _ _ _ _ nA hN qa hk hba hb heq) na
    · rw [upd_other _ _ lc] at hbc
      rw [la, hnew] at hba; cases hba
      exact absurd (hs.inj _ _ _ _ _ _ nC hN qc hk hbc hb heq.symm) nc
    · rw [la, lc]

/-- a slice's cells -/
def sliceCells (H : Hp) (u : Nat) : Value → Option (List Value)
  | .slice (some ⟨i, o, _⟩) m _ => match H.get i with
    | .live k => let cs := (k.cells.drop o).take (m * u); if cs.length = m * u then some cs else none
    | _ => none
  | _ => none
theorem sliceCells_ok {u : Nat} {v v' : Value} {l : List Value} (h : sliceCells H u v = some l) (hv : RV β v v') (hs : HR N0 β H w) :
    ∃ (a : Addr) (m c : Nat) (l' : List Value), v' = .slice (some a) m c ∧ (∃ a0 c0, v = .slice a0 m c0) ∧ l'.length = m * u ∧ All2 (R0 β) l l' ∧ ∀ j x, l'[j]? = some x → w.cell? (a.add j) = some x := by
  unfold sliceCells at h
  split at h
  · rename_i i o sp m c
    obtain ⟨b, x, hb, rfl⟩ := hv.slp_inv
    split at h
    · rename_i k hk
      simp only at h
      split at h
      · rename_i hl
        simp only [Option.some.injEq] at h; subst h
        obtain ⟨b', x', hb', hcs⟩ := hs.rd i k hk
        rw [hb] at hb'; cases hb'
        obtain ⟨l', q1, q2, q3⟩ := seg_cells (off := o) hcs (m * u) hl
        exact ⟨_, _, _, l', rfl, ⟨_, _, rfl⟩, q1, q2, q3⟩
      · cases h
    · cases h
  · cases h

def aAppend (P : Program) (N0 : Nat) (H : Hp) (at_ : Nat) (t : TypeId) (s x : Value) : Option (Value × Hp) :=
  match P.underlying t with
  | some (.slice e) => match P.info? e with
    | some i => match i.zero with
      | some z =>
        match x, s with
        | .slice none 0 0, .slice none 0 0 => some (.slice none 0 0, H)
        | .slice none 0 0, .slice (some ⟨b, 0, sp⟩) n c => if n ≤ c then some (.slice (some ⟨b, 0, sp⟩) n c, H) else none
        | .slice (some a) m _, .slice none 0 0 =>
          match sliceCells H i.size x with
          | some l => if m = 0 then some (.slice none 0 0, H) else if m * i.bytes ≤ 140737488355328 ∧ m ≤ 16777216 ∧ z.cells.size = i.size ∧ 0 < i.size ∧ isResv (H.get at_) = true then
              some (.slice (some ⟨at_, 0, none⟩) m m, H.put at_ (.live { cells := l, elem := e, unit := i.size, capN := m, opn := true })) else none
          | none => none
        | .slice (some a) m _, .slice (some ⟨b, 0, none⟩) n c =>
          match sliceCells H i.size x, H.get b with
          | some l, .live k =>
            if N0 ≤ b ∧ k.elem = e ∧ k.unit = i.size ∧ k.cells.length = k.capN * i.size ∧ k.capN = c ∧ n ≤ c ∧ (n + m) * i.bytes ≤ 140737488355328 ∧ n + m ≤ 16777216 ∧ z.cells.size = i.size ∧ 0 < i.size ∧ isResv (H.get at_) = true then
              if n + m ≤ c then some (.slice (some ⟨b, 0, none⟩) (n + m) c, H.put b (.live { k with cells := k.cells.take (n * i.size) ++ l ++ k.cells.drop (n * i.size + m * i.size) }))
              else some (.slice (some ⟨at_, 0, none⟩) (n + m) (n + m), (H.put b .dead).put at_ (.live { cells := k.cells.take (n * i.size) ++ l, elem := e, unit := i.size, capN := n + m, opn := true }))
            else none
          | _, _ => none
        | .slice (some a) m _, .slice (some ⟨b, o, some q⟩) n c =>
          match sliceCells H i.size x, sliceCells H i.size (.slice (some ⟨b, o, some q⟩) n c) with
          | some l, some old =>
            if c < n + m ∧ (n + m) * i.bytes ≤ 140737488355328 ∧ n + m ≤ 16777216 ∧ z.cells.size = i.size ∧ 0 < i.size ∧ isResv (H.get at_) = true then
              some (.slice (some ⟨at_, 0, none⟩) (n + m) (n + m), H.put at_ (.live { cells := old ++ l, elem := e, unit := i.size, capN := n + m, opn := true }))
            else none
          | _, _ => none
        | _, _ => none
      | none => none
    | none => none
  | _ => none
theorem aAppend_ok {at_ : Nat} {t ty : TypeId} {s s' x x' u : Value} {H' : Hp} (h : aAppend P N0 H at_ t s x = some (u, H')) (hs' : RV β s s') (hx : RV β x x') (hs : HS N0 w0 β H w) :
    ∃ u' w' β', (Builtin.append_ #[t, t] ty #[s', x']).run P w = .ok u' w' ∧ Ext β β' ∧ RV β' u u' ∧ HS N0 w0 β' H' w' := by
  unfold aAppend at h
  split at h
  rotate_left
  · cases h
  rename_i e ht
  split at h
  rotate_left
  · cases h
  rename_i i hi
  split at h
  rotate_left
  · cases h
  rename_i z hz
  split at h
  · simp only [Option.some.injEq, Prod.mk.injEq] at h
    obtain ⟨rfl, rfl⟩ := h
    obtain rfl := hs'.eq_flat rfl
    obtain rfl := hx.eq_flat rfl
    exact ⟨_, w, β, by simp [Builtin.append_, run_underlying ht, sizeOf, typeInfo, hi, Builtin.lenOf, Builtin.firstCells], Ext.refl _, .of_flat rfl, hs⟩
  · rename_i b sp n c
    split at h
    · rename_i hnc
      simp only [Option.some.injEq, Prod.mk.injEq] at h
      obtain ⟨rfl, rfl⟩ := h
      obtain rfl := hx.eq_flat rfl
      obtain ⟨b', xx, hb, rfl⟩ := hs'.slp_inv
      refine ⟨.slice (some ⟨b', 0, none⟩) n (c + xo sp xx), w, β, ?_, Ext.refl _, .one (.base (.slp hb)), hs⟩
      have : n ≤ c + xo sp xx := by omega
      simp [Builtin.append_, run_underlying ht, sizeOf, typeInfo, hi, Builtin.lenOf, Builtin.firstCells, this, storeCells]
    · cases h
  · rename_i a m cx
    split at h
    rotate_left
    · cases h
    rename_i l hl
    obtain rfl := hs'.eq_flat rfl
    obtain ⟨a', m', c', l', rfl, ⟨_, _, he⟩, h2, h3, h4⟩ := sliceCells_ok hl hx hs.toHR
    cases he
    split at h
    · rename_i hm
      subst hm
      simp only [Option.some.injEq, Prod.mk.injEq] at h
      obtain ⟨rfl, rfl⟩ := h
      have : l' = [] := List.eq_nil_of_length_eq_zero (by simpa using h2)
      exact ⟨_, w, β, by simp [Builtin.append_, run_underlying ht, sizeOf, typeInfo, hi, Builtin.lenOf, Builtin.firstCells, loadCells, loadCellsFrom], Ext.refl _, .of_flat rfl, hs⟩
    · rename_i hm
      split at h
      rotate_left
      · cases h
      rename_i hc
      obtain ⟨q1, q2, q3, q4, qj⟩ := hc
      simp only [Option.some.injEq, Prod.mk.injEq] at h
      obtain ⟨rfl, rfl⟩ := h
      have hr := run_append_nil (P := P) w t ty e i z ht hi hz a' m c' l' h2 h4 (by omega) (by omega) (by omega)
      have hge := grownCap_ge w m 0 e
      have hle := grownCap_le_maxLen w m 0 e (maxLen_big q2)
      have hll := h3.length
      obtain ⟨a1, a2, a3⟩ := hs.alloc (isResv_ok qj) { cells := l, elem := e, unit := i.size, capN := m, opn := true } (grownCap w m 0 e - m) (l'.toArray ++ Builtin.zeroCells z.cells (grownCap w m 0 e - m)) w.drew (.inr rfl)
        (by simp only [Array.toList_append]; rw [hll, List.take_left]; exact h3) (by simp only [Array.size_append, List.size_toArray, size_zeroCells, q3, hll]) (by intro h; cases h) (by show m + _ ≤ maxLen; omega)
      refine ⟨_, _, _, hr, a2, ?_, a1⟩
      have := RV.one (.base (R0.slc (o := 0) (n := m) (c := m) a3))
      rw [show m + (grownCap w m 0 e - m) = grownCap w m 0 e by omega] at this
      exact this
  · rename_i a m cx b n c
    split at h
    rotate_left
    · cases h
    rename_i l k hl hk
    obtain ⟨bb, xx, hb, rfl⟩ := hs'.slc_inv
    obtain ⟨a', m', c', l', rfl, ⟨_, _, he⟩, h2, h3, h4⟩ := sliceCells_ok hl hx hs.toHR
    cases he
    split at h
    rotate_left
    · cases h
    rename_i hc
    obtain ⟨r1, r2, r3, r4, r5, r6, r7, r8, r9, r10, rj⟩ := hc
    obtain ⟨b2, x2, cs, hb2, hg, g3, g4, g5, g6⟩ := hs.blk b k r1 hk
    rw [hb] at hb2; cases hb2
    have hll := h3.length
    have hcs : cs.size = (c + xx) * i.size := by rw [g4, r4, r3, r5, Nat.add_mul]
    rw [r2] at hg
    have hcl : k.cells.length = c * i.size := by rw [r4, r5]
    have hnc : n * i.size ≤ c * i.size := Nat.mul_le_mul_right _ r6
    have hold : All2 (R0 β) (k.cells.take (n * i.size)) (cs.toList.take (n * i.size)) := by
      have := g3.take (n * i.size)
      rwa [List.take_take, Nat.min_eq_left (by rw [hcl]; exact hnc)] at this
    split at h
    · rename_i hroom
      simp only [Option.some.injEq, Prod.mk.injEq] at h
      obtain ⟨rfl, rfl⟩ := h
      have hfit : n * i.size + l.length ≤ k.cells.length := by rw [hll, h2, hcl, ← Nat.add_mul]; exact Nat.mul_le_mul_right _ hroom
      have hr := run_append_room (P := P) w t ty e i ht hi bb n (c + xx) cs hg a' m c' l' h2 h4 (oneCells h3) (by omega) (by rw [hcs, h2, ← Nat.add_mul]; exact Nat.mul_le_mul_right _ (by omega))
      have hw := put_cells (off := n * i.size) hs r1 hk hb (by rw [r2]; exact hg) g3 g4 g5 g6 h3 hfit
      rw [show l.length = m * i.size by rw [hll, h2]] at hw
      refine ⟨_, _, β, hr, Ext.refl _, .one (.base (.slc hb)), hw⟩
    · rename_i hroom
      simp only [Option.some.injEq, Prod.mk.injEq] at h
      obtain ⟨rfl, rfl⟩ := h
      have hnl : (k.cells.take (n * i.size) ++ l).length = (n + m) * i.size := by
        rw [List.length_append, hll, h2, List.length_take, hcl, Nat.min_eq_left hnc, Nat.add_mul]
      by_cases hin : n + m ≤ c + xx
      · have hr := run_append_room (P := P) w t ty e i ht hi bb n (c + xx) cs hg a' m c' l' h2 h4 (oneCells h3) hin (by rw [hcs, h2, ← Nat.add_mul]; exact Nat.mul_le_mul_right _ hin)
        have hmul : (n + m) * i.size ≤ (c + xx) * i.size := Nat.mul_le_mul_right _ hin
        have hlen2 : n * i.size + l'.length = (n + m) * i.size := by rw [h2, ← Nat.add_mul]
        have htk : (cs.toList.take (n * i.size)).length = n * i.size := by rw [List.length_take, Array.length_toList, hcs]; exact Nat.min_eq_left (Nat.le_trans (Nat.mul_le_mul_right _ (Nat.le_add_right n m)) hmul)
        obtain ⟨a1, a2, a3⟩ := hs.adopt (isResv_ok rj) (k' := { cells := k.cells.take (n * i.size) ++ l, elem := e, unit := i.size, capN := n + m, opn := true }) (x' := c + xx - (n + m))
          (cs' := (cs.toList.take (n * i.size) ++ l' ++ cs.toList.drop (n * i.size + l'.length)).toArray) r1 hk hb (by rw [r2]; exact hg) r2.symm
          (by
            have e2 : (cs.toList.take (n * i.size) ++ l' ++ cs.toList.drop (n * i.size + l'.length)).take ((n + m) * i.size) = cs.toList.take (n * i.size) ++ l' := List.take_left' (by rw [List.length_append, htk, hlen2])
            simp only [hnl, e2]
            exact hold.append h3)
          (by
            have e3 : (cs.toList.take (n * i.size) ++ l' ++ cs.toList.drop (n * i.size + l'.length)).length = (c + xx) * i.size := by
              rw [List.length_append, List.length_append, htk, List.length_drop, show cs.toList.length = (c + xx) * i.size from (Array.length_toList (xs := cs)).trans hcs, hlen2]; omega
            simp only [List.size_toArray, e3, hnl]
            rw [← Nat.add_mul, show n + m + (c + xx - (n + m)) = c + xx by omega])
          rfl (by show n + m + (c + xx - (n + m)) ≤ maxLen; omega)
        refine ⟨_, _, _, hr, a2, ?_, a1⟩
        have := RV.one (.base (R0.slc (o := 0) (n := n + m) (c := n + m) a3))
        rw [show n + m + (c + xx - (n + m)) = c + xx by omega] at this
        exact this
      · have hcells : ∀ j v, (cs.toList.take (n * i.size))[j]? = some v → w.cell? ((⟨bb, 0, none⟩ : Addr).add j) = some v := by
          intro j v hj
          rw [addr_add, Nat.zero_add, cell_of_row w bb j cs e (0, 0) hg]
          rw [List.getElem?_take] at hj
          split at hj
          · simpa using hj
          · cases hj
        have hol := hold.length
        have htk : (cs.toList.take (n * i.size)).length = n * i.size := by rw [← hol, List.length_take, hcl, Nat.min_eq_left hnc]
        have hr := run_append_grow (P := P) w t ty e i z ht hi hz ⟨bb, 0, none⟩ n (c + xx) (cs.toList.take (n * i.size)) htk hcells a' m c' l' h2 h4 (by omega) (by omega) (growslice_fits (by omega) r7)
        have hge := grownCap_ge w (n + m) (c + xx) e
        have hle := grownCap_le_maxLen w (n + m) (c + xx) e (maxLen_big r8)
        obtain ⟨a1, a2, a3⟩ := (hs.kill hk).alloc (j := at_) (by rw [Hp.get_put_other hs.wf (by intro h; rw [h, hk] at rj; cases rj)]; exact isResv_ok rj) { cells := k.cells.take (n * i.size) ++ l, elem := e, unit := i.size, capN := n + m, opn := true } (grownCap w (n + m) (c + xx) e - (n + m))
          ((cs.toList.take (n * i.size)).toArray ++ l'.toArray ++ Builtin.zeroCells z.cells (grownCap w (n + m) (c + xx) e - (n + m))) w.drew (.inr rfl)
          (by
            have e2 : ((cs.toList.take (n * i.size)).toArray ++ l'.toArray ++ Builtin.zeroCells z.cells (grownCap w (n + m) (c + xx) e - (n + m))).toList.take ((n + m) * i.size) = cs.toList.take (n * i.size) ++ l' := by
              simp only [Array.toList_append]
              exact List.take_left' (by rw [List.length_append, htk, h2, ← Nat.add_mul])
            simp only [hnl, e2]
            exact hold.append h3)
          (by
            show _ = (k.cells.take (n * i.size) ++ l).length + _ * i.size
            simp only [Array.size_append, List.size_toArray, size_zeroCells, r9, hnl, htk, h2]
            rw [← Nat.add_mul])
          (by intro h; cases h) (by show n + m + _ ≤ maxLen; omega)
        refine ⟨_, _, _, hr, a2, ?_, a1⟩
        have := RV.one (.base (R0.slc (o := 0) (n := n + m) (c := n + m) a3))
        rw [show n + m + (grownCap w (n + m) (c + xx) e - (n + m)) = grownCap w (n + m) (c + xx) e by omega] at this
        exact this
  · rename_i a m cx b o q n c
    split at h
    rotate_left
    · cases h
    rename_i l old hl hold
    have hs2 := hs'.slp_inv
    obtain ⟨bb, xx, hb, hse⟩ := hs2
    obtain ⟨a', m', c', l', rfl, ⟨_, _, he⟩, h2, h3, h4⟩ := sliceCells_ok hl hx hs.toHR
    cases he
    obtain ⟨a2, n2, c2, old', he1, ⟨_, _, he2⟩, o2, o3, o4⟩ := sliceCells_ok hold hs' hs.toHR
    cases he2
    rw [hse] at he1
    simp only [Value.slice.injEq, Option.some.injEq] at he1
    obtain ⟨ea, _, ec⟩ := he1
    have ec : c = c2 := by simpa [xo] using ec
    subst hse
    split at h
    rotate_left
    · cases h
    rename_i hc
    obtain ⟨r1, r7, r8, r9, r10, rj⟩ := hc
    simp only [Option.some.injEq, Prod.mk.injEq] at h
    obtain ⟨rfl, rfl⟩ := h
    subst ec
    have hr := run_append_grow (P := P) w t ty e i z ht hi hz a2 n c old' o2 o4 a' m c' l' h2 h4 (by omega) (by omega) (growslice_fits (by omega) r7)
    rw [← ea] at hr
    have hge := grownCap_ge w (n + m) c e
    have hle := grownCap_le_maxLen w (n + m) c e (maxLen_big r8)
    have hnl : (old ++ l).length = (n + m) * i.size := by rw [List.length_append, o3.length, o2, h3.length, h2, Nat.add_mul]
    obtain ⟨a1, a3, a5⟩ := hs.alloc (isResv_ok rj) { cells := old ++ l, elem := e, unit := i.size, capN := n + m, opn := true } (grownCap w (n + m) c e - (n + m))
      (old'.toArray ++ l'.toArray ++ Builtin.zeroCells z.cells (grownCap w (n + m) c e - (n + m))) w.drew (.inr rfl)
      (by
        have e2 : (old'.toArray ++ l'.toArray ++ Builtin.zeroCells z.cells (grownCap w (n + m) c e - (n + m))).toList.take ((n + m) * i.size) = old' ++ l' := by
          simp only [Array.toList_append]
          exact List.take_left' (by rw [List.length_append, o2, h2, ← Nat.add_mul])
        simp only [hnl, e2]
        exact o3.append h3)
      (by
        show _ = (old ++ l).length + _ * i.size
        simp only [Array.size_append, List.size_toArray, size_zeroCells, r9, hnl, o2, h2]
        rw [← Nat.add_mul])
      (by intro h; cases h) (by show n + m + _ ≤ maxLen; omega)
    refine ⟨_, _, _, (by simpa [xo] using hr), a3, ?_, a1⟩
    have := RV.one (.base (R0.slc (o := 0) (n := n + m) (c := n + m) a5))
    rw [show n + m + (grownCap w (n + m) c e - (n + m)) = grownCap w (n + m) c e by omega] at this
    exact this
  · cases h
end
end Go.Proofs.Ytlieapapmkbbgaa

namespace Go.Proofs.Ytlieapapmkbbgaa
open Go Go.RowKit
set_option linter.unusedVariables false
set_option linter.unusedSimpArgs false

section
variable {P : Program} {N0 : Nat} {w0 w : World} {β : Bs} {H : Hp}

def aCopy (P : Program) (N0 : Nat) (H : Hp) (t : TypeId) (d x : Value) : Option (Value × Hp) :=
  match P.underlying t with
  | some (.slice e) => match sizeB P e, d, x with
    | some u, .slice (some ⟨i, o, _⟩) dl _, .slice (some a) m c =>
      match sliceCells H u (.slice (some a) (Nat.min m dl) c), H.get i with
      | some l, .live k => if N0 ≤ i ∧ o + l.length ≤ k.cells.length then some (.int .i64 (Nat.min m dl : Nat), H.put i (.live { k with cells := k.cells.take o ++ l ++ k.cells.drop (o + l.length) })) else none
      | _, _ => none
    | _, _, _ => none
  | _ => none
theorem aCopy_ok {t t2 ty : TypeId} {d d' x x' u : Value} {H' : Hp} (h : aCopy P N0 H t d x = some (u, H')) (hd : RV β d d') (hx : RV β x x') (hs : HS N0 w0 β H w) :
    ∃ u' w', (Builtin.copy_ #[t, t2] ty #[d', x']).run P w = .ok u' w' ∧ RV β u u' ∧ HS N0 w0 β H' w' := by
  unfold aCopy at h
  split at h
  rotate_left
  · cases h
  rename_i e ht
  split at h
  rotate_left
  · cases h
  rename_i z i o sp dl dc a m c hz
  split at h
  rotate_left
  · cases h
  rename_i l k hl hk
  split at h
  rotate_left
  · cases h
  rename_i hc
  obtain ⟨c1, c2⟩ := hc
  simp only [Option.some.injEq, Prod.mk.injEq] at h
  obtain ⟨rfl, rfl⟩ := h
  obtain ⟨b, xx, hb, rfl⟩ := hd.slp_inv
  have hx2 : ∃ ax cx, x' = .slice (some ax) m cx ∧ RV β (.slice (some a) (Nat.min m dl) c) (.slice (some ax) (Nat.min m dl) cx) := by
    cases hx with | one hx => cases hx with | base hx => cases hx with | base hx => cases hx with
      | flatX hx => simp [flat0] at hx
      | slc hx => exact ⟨_, _, rfl, .one (.base (.slp hx))⟩
  obtain ⟨ax, cx, rfl, hx3⟩ := hx2
  obtain ⟨a', m', c', l', he, ⟨_, _, he2⟩, h2, h3, h4⟩ := sliceCells_ok hl hx3 hs.toHR
  cases he; cases he2
  obtain ⟨b2, x2, cs, hb2, hg, g3, g4, g5, g6⟩ := hs.blk i k c1 hk
  rw [hb] at hb2; cases hb2
  have hw := put_cells (off := o) hs c1 hk hb hg g3 g4 g5 g6 h3 c2
  have hst := run_storeCells_at P b o k.elem l' 0 cs w hg (by rw [← h3.length, g4]; omega) (oneCells h3)
  have hf := run_firstCells_some (P := P) w z (Nat.min m dl) ax m cx l' h2 h4
  simp only [Nat.add_zero] at hst
  exact ⟨_, _, by simp [Builtin.copy_, run_underlying ht, Builtin.lenOf, run_sizeOf hz, hf, hst, goInt], .of_flat rfl, hw⟩

def aLen (P : Program) (t : TypeId) (v : Value) : Option Value :=
  match P.underlying t, v with
  | some (.slice _), .slice (some _) n _ => some (.int .i64 n)
  | some (.array n _), _ => some (.int .i64 n)
  | _, _ => none
theorem aLen_ok {t ty : TypeId} {v v' u : Value} (h : aLen P t v = some u) (hv : RV β v v') : (Builtin.len_ #[t] ty #[v']).run P w = .ok u w ∧ RV β u u := by
  unfold aLen at h
  split at h
  · rename_i a n c hu
    simp only [Option.some.injEq] at h; subst h
    cases hv with | one hv => cases hv with | base hv => cases hv with | base hv => cases hv with
      | flatX hx => simp [flat0] at hx
      | slc hx => exact ⟨by simp [Builtin.len_, run_underlying hu, goInt], .of_flat rfl⟩
  · rename_i n e hu
    simp only [Option.some.injEq] at h; subst h
    exact ⟨by simp [Builtin.len_, run_underlying hu, goInt], .of_flat rfl⟩
  · cases h

def aEqB (P : Program) (t : TypeId) (x y : Value) : Option Bool :=
  match P.underlying t, x, y with
  | some (.slice _), .slice (some ⟨_, _, _⟩) _ _, .slice none _ _ => some false
  | some (.slice _), .slice none _ _, .slice (some ⟨_, _, _⟩) _ _ => some false
  | some (.pointer _), .pointer (some ⟨_, _, none⟩), .pointer none => some false
  | some (.pointer _), .pointer none, .pointer (some ⟨_, _, none⟩) => some false
  | some (.pointer e), .pointer (some ⟨i, o, none⟩), .pointer (some ⟨j, o', none⟩) => match sizeB P e with
    | some (_ + 1) => if i = j then some (decide (o = o')) else none
    | _ => none
  | _, _, _ => none
theorem aEqIn_ok {t : TypeId} {x y x' y' : Value} {b : Bool} (h : aEqB P t x y = some b) (hx : RV β x x') (hy : RV β y y') (d : Nat) :
    (Op.equalIn (d + 1) t x' y').run P w = .ok b w ∧ ((∃ a n c a' n' c', x' = .slice a n c ∧ y' = .slice a' n' c') ∨ ∃ a a', x' = .pointer a ∧ y' = .pointer a') := by
  unfold aEqB at h
  split at h
  · rename_i i o sp n c n2 c2 hu
    simp only [Option.some.injEq] at h; subst h
    obtain ⟨bb, xx, hb, rfl⟩ := hx.slp_inv
    obtain rfl := hy.eq_flat rfl
    exact ⟨by simp [Op.equalIn, run_underlying hu], .inl ⟨_, _, _, _, _, _, rfl, rfl⟩⟩
  · rename_i n2 c2 i o sp n c hu
    simp only [Option.some.injEq] at h; subst h
    obtain ⟨bb, xx, hb, rfl⟩ := hy.slp_inv
    obtain rfl := hx.eq_flat rfl
    exact ⟨by simp [Op.equalIn, run_underlying hu], .inl ⟨_, _, _, _, _, _, rfl, rfl⟩⟩
  · rename_i hu
    simp only [Option.some.injEq] at h; subst h
    obtain ⟨bb, xx, hb, rfl⟩ := hx.ptr_inv
    obtain rfl := hy.eq_flat rfl
    exact ⟨by simp [Op.equalIn, run_underlying hu], .inr ⟨_, _, rfl, rfl⟩⟩
  · rename_i hu
    simp only [Option.some.injEq] at h; subst h
    obtain ⟨bb, xx, hb, rfl⟩ := hy.ptr_inv
    obtain rfl := hx.eq_flat rfl
    exact ⟨by simp [Op.equalIn, run_underlying hu], .inr ⟨_, _, rfl, rfl⟩⟩
  · rename_i e i o j o' hu
    split at h
    · rename_i z hz
      split at h
      · rename_i hij
        subst hij
        simp only [Option.some.injEq] at h; subst h
        obtain ⟨bb, xx, hb, rfl⟩ := hx.ptr_inv
        obtain ⟨b2, x2, hb2, rfl⟩ := hy.ptr_inv
        rw [hb] at hb2; cases hb2
        refine ⟨?_, .inr ⟨_, _, rfl, rfl⟩⟩
        simp [Op.equalIn, run_underlying hu, run_sizeOf hz, sameAddr]
        by_cases ho : o = o' <;> simp [ho]
      · cases h
    · cases h
  · cases h
theorem aEqB_ok {t : TypeId} {x y x' y' : Value} {b : Bool} (h : aEqB P t x y = some b) (hx : RV β x x') (hy : RV β y y') :
    (∀ op X Y, (op = .eql ∨ op = .neq) → (eqGuard op t X Y x' y').run P w = .ok () w) ∧ (binOp .eql t x' y').run P w = .ok (.bool b) w ∧ (binOp .neq t x' y').run P w = .ok (.bool !b) w := by
  obtain ⟨h1, h2⟩ := aEqIn_ok (w := w) h hx hy 9999
  have h1' : (Op.equal t x' y').run P w = .ok b w := h1
  rcases h2 with ⟨a, n, c, a', n', c', rfl, rfl⟩ | ⟨a, a', rfl, rfl⟩
  · refine ⟨?_, ?_, ?_⟩
    · rintro op X Y (rfl | rfl) <;> simp [eqGuard]
    · show ((do pure (.bool (← Op.equal t (.slice a n c) (.slice a' n' c')))) : Sem Value).run P w = _
      rw [Sem.run_bind, h1']; rfl
    · show ((do pure (.bool (!(← Op.equal t (.slice a n c) (.slice a' n' c'))))) : Sem Value).run P w = _
      rw [Sem.run_bind, h1']; rfl
  · refine ⟨?_, ?_, ?_⟩
    · rintro op X Y (rfl | rfl) <;> simp [eqGuard]
    · show ((do pure (.bool (← Op.equal t (.pointer a) (.pointer a')))) : Sem Value).run P w = _
      rw [Sem.run_bind, h1']; rfl
    · show ((do pure (.bool (!(← Op.equal t (.pointer a) (.pointer a'))))) : Sem Value).run P w = _
      rw [Sem.run_bind, h1']; rfl

inductive AR where
  | val (v : Value) (H : Hp)
  | enter (f : FuncId) (args : List Value)
def okOp (N0 : Nat) : Operand → Bool
  | .const v => flatX v
  | .global g => Nat.blt g N0
  | _ => true
/-- a frame's values, eight a row -/
abbrev Fr := List (List Value)
def Fr.get (f : Fr) (t : Nat) : Value := (List.getD f (t / 8) []).getD (t % 8) undef
def Fr.set (f : Fr) (d : Nat) (v : Value) : Fr := List.set f (d / 8) ((List.getD f (d / 8) []).set (d % 8) v)
def Fr.has (f : Fr) (t : Nat) : Prop := t / 8 < List.length f ∧ t % 8 < (List.getD f (t / 8) []).length
instance (f : Fr) (t : Nat) : Decidable (f.has t) := inferInstanceAs (Decidable (_ ∧ _))
theorem Fr.get_set (f : Fr) (d : Nat) (v : Value) (t : Nat) : ((f.set d v).get t = if t = d ∧ f.has d then v else f.get t) ∧ ((f.set d v).has t ↔ f.has t) := by
  unfold Fr.get Fr.set Fr.has
  by_cases hd : d / 8 < List.length f
  · by_cases h8 : t / 8 = d / 8
    · have e1 : List.getD (List.set f (d / 8) ((List.getD f (d / 8) []).set (d % 8) v)) (t / 8) [] = (List.getD f (d / 8) []).set (d % 8) v := by
        rw [h8, List.getD_eq_getElem?_getD, List.getElem?_set_self hd]; rfl
      rw [e1, h8]
      refine ⟨?_, by simp⟩
      by_cases hm : t % 8 = d % 8
      · have htd : t = d := by omega
        subst htd
        by_cases hl : t % 8 < (List.getD f (t / 8) []).length
        · rw [if_pos ⟨rfl, hd, hl⟩, List.getD_eq_getElem?_getD, List.getElem?_set_self hl]; rfl
        · rw [if_neg (fun h => hl h.2.2), List.set_eq_of_length_le (by omega)]
      · rw [if_neg (fun h => hm (by rw [h.1])), List.getD_eq_getElem?_getD, List.getElem?_set_ne (fun h => hm h.symm), ← List.getD_eq_getElem?_getD]
    · have e1 : List.getD (List.set f (d / 8) ((List.getD f (d / 8) []).set (d % 8) v)) (t / 8) [] = List.getD f (t / 8) [] := by
        rw [List.getD_eq_getElem?_getD, List.getElem?_set_ne (fun h => h8 h.symm), ← List.getD_eq_getElem?_getD]
      rw [e1]
      refine ⟨?_, by simp⟩
      rw [if_neg (fun h => h8 (by rw [h.1]))]
  · rw [List.set_eq_of_length_le (by omega)]
    refine ⟨?_, Iff.rfl⟩
    rw [if_neg (fun h => hd h.2.1)]
def chunk : Nat → List Value → Fr
  | 0, _ => []
  | n + 1, l => match l with
    | [] => []
    | l => l.take 8 :: chunk n (l.drop 8)
theorem chunk_ok : ∀ (n : Nat) (l : List Value) (t : Nat), l.length ≤ n → (Fr.get (chunk n l) t = l.getD t undef) ∧ (Fr.has (chunk n l) t ↔ t < l.length)
  | 0, l, t, h => by
    have : l = [] := List.eq_nil_of_length_eq_zero (by omega)
    subst this
    simp [chunk, Fr.get, Fr.has]
  | n + 1, [], t, h => by simp [chunk, Fr.get, Fr.has]
  | n + 1, a :: l, t, h => by
    simp only [chunk]
    by_cases ht : t < 8
    · have e0 : t / 8 = 0 := by omega
      have e1 : t % 8 = t := by omega
      unfold Fr.get Fr.has
      rw [e0, e1]
      refine ⟨?_, ?_⟩
      · show (List.take 8 (a :: l)).getD t undef = _
        rw [List.getD_eq_getElem?_getD, List.getElem?_take, if_pos ht, ← List.getD_eq_getElem?_getD]
      · show (0 < _ ∧ t < (List.take 8 (a :: l)).length) ↔ _
        rw [List.length_take]; simp; omega
    · obtain ⟨i1, i2⟩ := chunk_ok n ((a :: l).drop 8) (t - 8) (by simp at h ⊢; omega)
      have e0 : t / 8 = (t - 8) / 8 + 1 := by omega
      have e1 : t % 8 = (t - 8) % 8 := by omega
      unfold Fr.get Fr.has at *
      rw [e0, e1]
      refine ⟨?_, ?_⟩
      · show (List.getD (chunk n ((a :: l).drop 8)) ((t - 8) / 8) []).getD ((t - 8) % 8) undef = _
        rw [i1, List.getD_eq_getElem?_getD, List.getElem?_drop, ← List.getD_eq_getElem?_getD, show 8 + (t - 8) = t by omega]
      · show ((t - 8) / 8 + 1 < (chunk n ((a :: l).drop 8)).length + 1 ∧ (t - 8) % 8 < (List.getD (chunk n ((a :: l).drop 8)) ((t - 8) / 8) []).length) ↔ _
        have := i2
        rw [List.length_drop] at this
        constructor
        · intro hh
          have := this.1 ⟨by omega, hh.2⟩
          omega
        · intro hh
          have := this.2 (by omega)
          exact ⟨by omega, this.2⟩
def evT (tm : Fr) : Operand → Value
  | .tmp t => tm.get t
  | .const v => v
  | .global g => .pointer (some ⟨g, 0, none⟩)
  | .func f => .func (.func f) #[] #[]

/-- a value that can lie in a closure -/
def isB : Value → Bool
  | .pointer (some _) | .slice (some _) _ _ => true
  | v => flat0 v
def isRa : Value → Bool
  | .agg cs => cs.toList.all isB
  | v => isB v
theorem Rb_of {v v' : Value} (hv : R0 β v v') (h : isB v = true) : Rb β v v' := by
  cases hv with
  | base h => exact h
  | func _ _ => simp [isB, flat0] at h
theorem Ra_of {v v' : Value} (hv : RV β v v') (h : isRa v = true) : Ra β v v' := by
  cases hv with
  | tup _ => simp [isRa, isB, flat0] at h
  | one hv => cases hv with
    | base hv => cases hv with
      | base h => exact .base h
      | func _ _ => simp [isRa, isB, flat0] at h
    | agg hl =>
      simp only [isRa, List.all_eq_true] at h
      refine .agg ?_
      have : ∀ {l l' : List Value}, (∀ x ∈ l, isB x = true) → All2 (R0 β) l l' → All2 (Rb β) l l' := by
        intro l l' hall h
        induction h with
        | nil => exact .nil
        | cons h _ ih => exact .cons (Rb_of h (hall _ (by simp))) (ih fun x hx => hall x (by simp [hx]))
      exact this h hl
def isFn (P : Program) (f : FuncId) : Bool := match P.funcs[f]? with | some fn => fn.body.isSome | none => false

/-! whole numbers, quickly -/
def limK : IntKind → Nat
  | .i8 => 128 | .i16 => 32768 | .i32 => 2147483648 | .i64 => 9223372036854775808 | .u8 => 256 | .u16 => 65536 | .u32 => 4294967296 | .u64 => 18446744073709551616
def sgnK : IntKind → Bool
  | .i8 | .i16 | .i32 | .i64 => true
  | _ => false
def kN : IntKind → Nat
  | .i8 => 0 | .i16 => 1 | .i32 => 2 | .i64 => 3 | .u8 => 4 | .u16 => 5 | .u32 => 6 | .u64 => 7
theorem kN_inj {k l : IntKind} (h : Nat.beq (kN k) (kN l) = true) : k = l := by cases k <;> cases l <;> first | rfl | cases h
def wrapF (k : IntKind) (n : Int) : Int := match n with
  | .ofNat m => match Nat.blt m (limK k) with
    | true => .ofNat m
    | false => k.wrap (.ofNat m)
  | .negSucc m => match sgnK k with
    | true => match Nat.blt m (limK k) with
      | true => .negSucc m
      | false => k.wrap (.negSucc m)
    | false => k.wrap (.negSucc m)
theorem wrap_in (k : IntKind) (n : Int) (h : (0 ≤ n ∧ n < limK k) ∨ (sgnK k = true ∧ n < 0 ∧ -(limK k : Int) ≤ n)) : k.wrap n = n := by
  cases k <;> simp [IntKind.wrap, IntKind.bits, IntKind.signed, limK, sgnK] at h ⊢ <;> omega
theorem wrapF_eq (k : IntKind) (n : Int) : wrapF k n = k.wrap n := by
  unfold wrapF
  split
  · rename_i m
    split
    · rename_i h
      have := blt_true.1 h
      exact (wrap_in k _ (.inl ⟨Int.natCast_nonneg m, by simpa using this⟩)).symm
    · rfl
  · rename_i m
    split
    · rename_i hs
      split
      · rename_i h
        have := blt_true.1 h
        refine (wrap_in k _ (.inr ⟨hs, Int.negSucc_lt_zero m, ?_⟩)).symm
        rw [Int.negSucc_eq]; omega
      · rfl
    · rfl
def intBin (op : BinOp) (k : IntKind) (a b : Int) : Option Value :=
  match op with
  | .add => some (.int k (wrapF k (a + b)))
  | .sub => some (.int k (wrapF k (a - b)))
  | .mul => some (.int k (wrapF k (a * b)))
  | .eql => some (.bool (a == b))
  | .neq => some (.bool (a != b))
  | .lss => some (.bool (decide (a < b)))
  | .leq => some (.bool (decide (a ≤ b)))
  | .gtr => some (.bool (decide (a > b)))
  | .geq => some (.bool (decide (a ≥ b)))
  | _ => none
def aBin (op : BinOp) (x y : Value) : Option Value :=
  match x, y with
  | .int k a, .int l b => match Nat.beq (kN k) (kN l) with
    | true => intBin op k a b
    | false => none
  | _, _ => none
theorem aBin_ok {op : BinOp} {t : TypeId} {X Y : Operand} {x y v : Value} (h : aBin op x y = some v) :
    (do eqGuard op t X Y x y; binOp op t x y : Sem Value).run P w = .ok v w ∧ flatX v = true ∧ flatX x = true ∧ flatX y = true := by
  unfold aBin at h
  split at h
  · rename_i k a l b
    split at h
    · rename_i hk
      have := kN_inj hk; subst this
      have hg : (eqGuard op t X Y (.int k a) (.int k b)).run P w = .ok () w := by
        cases op <;> simp [eqGuard]
      cases op <;> simp only [intBin, reduceCtorEq, Option.some.injEq] at h <;> subst h <;> refine ⟨?_, rfl, rfl, rfl⟩ <;> rw [Sem.run_bind, hg] <;> simp [binOp, Op.intArith, Op.intCmp, wrapF_eq]
    · cases h
  · cases h
def notB : Value → Option Value
  | .bool true => some (.bool false)
  | .bool false => some (.bool true)
  | _ => none
def aConv (P : Program) (src dst : TypeId) (x : Value) : Option Value :=
  match x with
  | .int _ n => match P.underlying src, P.underlying dst with
    | some _, some (.int k) => some (.int k (wrapF k n))
    | _, _ => none
  | _ => none
theorem aConv_ok {src dst : TypeId} {x v : Value} (h : aConv P src dst x = some v) : (convert src dst x).run P w = .ok v w ∧ flatX v = true ∧ flatX x = true := by
  unfold aConv at h
  split at h
  · split at h
    · rename_i n d k hs hd
      simp only [Option.some.injEq] at h; subst h
      refine ⟨?_, rfl, rfl⟩
      simp [convert, run_underlying hs, run_underlying hd, Conv.intToInt, wrapF_eq]
    · cases h
  · cases h

def roOf (ev : Operand → Value) (x : Option Operand) : Option Value := x.map ev
def notSel : Op → Bool
  | .select .. => false
  | _ => true
def aGen (P : Program) (ev : Operand → Value) (o : Oper) : Option Value :=
  if o.op.operands.toList.all (fun x => flatX (ev x)) && notSel o.op then
    match semPure P (execOp ev o) with
    | some (.value v) => if flatX v then some v else none
    | _ => none
  else none
/-- what only reads -/
def aSpec (P : Program) (H : Hp) (ev : Operand → Value) (op : Op) : Option Value :=
  match op with
  | .move x | .assign x => some (ev x)
  | .pick c a b => match ev c with
    | .bool true => some (ev a)
    | .bool false => some (ev b)
    | _ => none
  | .build t parts => aBuild P t (parts.toList.map fun p => (p.1, ev p.2))
  | .load t a => aLoad P H t (ev a)
  | .nilCheck x => match ev x with
    | .pointer (some ⟨i, o, none⟩) => some (.pointer (some ⟨i, o, none⟩))
    | .slice (some ⟨i, o, sp⟩) n c => some (.slice (some ⟨i, o, sp⟩) n c)
    | .func (.func f) a b => some (.func (.func f) a b)
    | _ => none
  | .fieldAddr s x f => aFieldAddr P s (ev x) f
  | .indexAddr t x i => aIndexAddr P t (ev x) (ev i)
  | .slice t x lo hi none => aSlice P H t (ev x) (roOf ev lo) (roOf ev hi)
  | .slice t x lo hi (some m) => aSlice3 P t (ev x) (roOf ev lo) (roOf ev hi) (some (ev m))
  | .field t x f => aField P t (ev x) f
  | .index t x i => aIndex P t (ev x) (ev i)
  | .extract t i => aExtract (ev t) i
  | .makeFunc fn a b => if (a.toList.all fun x => isRa (ev x)) && (b.toList.all fun x => isRa (ev x)) then some (.func fn (a.toList.map ev).toArray (b.toList.map ev).toArray) else none
  | .binOp op t x y _ => match aBin op (ev x) (ev y) with
    | some v => some v
    | none => match op with
      | .eql => (aEqB P t (ev x) (ev y)).map fun b => .bool b
      | .neq => (aEqB P t (ev x) (ev y)).map fun b => .bool !b
      | _ => none
  | .unOp .not _ x => notB (ev x)
  | .convert s d x => aConv P s d (ev x)
  | .call c => match c.callee, c.argTypes.toList, c.args.toList with
    | .builtin .len, [t], [x] => aLen P t (ev x)
    | _, _, _ => none
  | _ => none
def aQ (P : Program) (H : Hp) (tm : Fr) (o : Oper) : Option Value :=
  match aSpec P H (evT tm) o.op with
  | some v => some v
  | none => aGen P (evT tm) o
def isLoud : Op → Bool
  | .alloc _ | .box .. | .buildSlice .. | .store .. | .makeSlice .. => true
  | .call c => match c.callee with
    | .builtin .append | .builtin .copy => true
    | .builtin _ => false
    | _ => true
  | _ => false
/-- a function without a body here: the model's own answer -/
def aExt (P : Program) (H : Hp) (g : FuncId) (args : List Value) : Option AR :=
  match args.all flatX with
  | true => match semPure P (callFunc g args.toArray) with
    | some (.value v) => match flatX v with
      | true => some (.val v H)
      | false => none
    | _ => none
  | false => none
/-- what changes something -/
def aL (P : Program) (N0 : Nat) (H : Hp) (at_ : Nat) (ev : Operand → Value) (op : Op) : Option AR :=
  match op with
  | .alloc e => match zeroB P e with
    | some z => if flatX z then (aNew P H at_ e z).map fun r => .val r.1 r.2 else none
    | none => none
  | .box e x => (aNew P H at_ e (ev x)).map fun r => .val r.1 r.2
  | .buildSlice t n parts => (aBuildSlice P H at_ t n (parts.toList.map fun p => (p.1, ev p.2))).map fun r => .val r.1 r.2
  | .store t a x => (aStore P N0 H t (ev a) (ev x)).map (.val undef ·)
  | .makeSlice t l c => (aMake P H at_ t (ev l) (ev c)).map fun r => .val r.1 r.2
  | .call c => match c.callee with
    | .value f => match ev f with
      | .func (.func g) first cap => match isFn P g with
        | true => some (.enter g (first.toList ++ c.args.toList.map ev ++ cap.toList))
        | false => aExt P H g (first.toList ++ c.args.toList.map ev ++ cap.toList)
      | _ => none
    | .builtin b => match b, c.argTypes.toList, c.args.toList with
      | .append, [t, t'], [s, x] => if t = t' then (aAppend P N0 H at_ t (ev s) (ev x)).map fun r => .val r.1 r.2 else none
      | .copy, [t, _], [d, x] => (aCopy P N0 H t (ev d) (ev x)).map fun r => .val r.1 r.2
      | _, _, _ => none
    | _ => none
  | _ => none
def aOp (P : Program) (N0 : Nat) (H : Hp) (at_ : Nat) (tm : Fr) (o : Oper) : Option AR :=
  match isLoud o.op with
  | true => aL P N0 H at_ (evT tm) o.op
  | false => match aQ P H tm o with
    | some v => some (.val v H)
    | none => none

def OpR (P : Program) (N0 : Nat) (w0 : World) (β : Bs) (w : World) (r : AR) (res : Result Next) : Prop :=
  match r with
  | .val v H' => ∃ v' w' β', (res = .ok (.value v') w' ∨ (res = .ok .skip w' ∧ v' = undef)) ∧ Ext β β' ∧ RV β' v v' ∧ HS N0 w0 β' H' w'
  | .enter f args => ∃ args', All2 (RV β) args args' ∧ isFn P f = true ∧ res = .ok (.enter f args'.toArray) w
def namesOk (P : Program) : Bool := P.funcs.toList.all fun fn => !(fn.name == "runtime.NumGoroutine")
theorem run_callFunc_ok (hn : namesOk P = true) {f : FuncId} (hf : isFn P f = true) (args : Array Value) : (callFunc f args).run P w = .ok (.enter f args) w := by
  unfold isFn at hf
  cases h : P.funcs[f]? with
  | none => rw [h] at hf; cases hf
  | some fn =>
    rw [h] at hf
    have hname : (fn.name == "runtime.NumGoroutine") = false := by
      have := List.all_eq_true.1 hn fn (by have := Array.mem_of_getElem? h; simpa using this)
      simpa using this
    have hb : fn.body.isNone = false := by cases hb : fn.body <;> simp_all
    have h1 : fn.name ≠ "runtime.NumGoroutine" := by simpa using hname
    have h2 : ¬ fn.body = none := by intro e; rw [e] at hb; cases hb
    simp [callFunc, h, h1, h2]
theorem parts_ok {ev ρ : Operand → Value} {parts : Array (Nat × Operand)} (h : ∀ p ∈ parts.toList, RV β (ev p.2) (ρ p.2)) :
    AllP β (parts.toList.map fun p => (p.1, ev p.2)) (parts.map fun (i, x) => (i, ρ x)).toList := by
  rw [Array.toList_map]
  exact All2.map fun p hp => ⟨rfl, h p hp⟩
theorem ro_ok {ev ρ : Operand → Value} {x : Option Operand} (h : ∀ y, x = some y → RV β (ev y) (ρ y)) : RO β (roOf ev x) (x.map ρ) := by
  cases x with
  | none => exact .no
  | some y => exact .so (h y rfl)

/-- a value, and the world as it was -/
def QR (P : Program) (β : Bs) (w : World) (v : Value) (res : Result Next) : Prop := ∃ v', res = .ok (.value v') w ∧ RV β v v'
theorem aSpec_ok {ev ρ : Operand → Value} {o : Oper} {v : Value} (h : aSpec P H ev o.op = some v) (hev : ∀ x ∈ o.op.operands, RV β (ev x) (ρ x)) (hs : HR N0 β H w) :
    QR P β w v ((execOp ρ o).run P w) := by
  obtain ⟨dst, op, ty, pos, after, guard⟩ := o
  simp only at h hev
  unfold aSpec at h
  split at h
  · rename_i x
    cases h
    exact ⟨ρ x, rfl, hev x (by simp [Op.operands])⟩
  · rename_i x
    cases h
    exact ⟨ρ x, rfl, hev x (by simp [Op.operands])⟩
  · rename_i c a b
    have hc := hev c (by simp [Op.operands])
    split at h
    · rename_i ht
      cases h
      rw [ht] at hc
      have hc := hc.bool_inv
      exact ⟨ρ a, by simp [execOp, hc, asBool], hev a (by simp [Op.operands])⟩
    · rename_i ht
      cases h
      rw [ht] at hc
      have hc := hc.bool_inv
      exact ⟨ρ b, by simp [execOp, hc, asBool], hev b (by simp [Op.operands])⟩
    · cases h
  · rename_i t parts
    obtain ⟨u', h1, h2⟩ := aBuild_ok (w := w) h (parts_ok (ρ := ρ) fun p hp => hev p.2 (by simp only [Op.operands]; simp; exact ⟨p.1, by simpa using hp⟩))
    exact ⟨u', by simp only [execOp, Sem.run_bind, h1]; rfl, h2⟩
  · rename_i t a
    obtain ⟨u', h1, h2⟩ := aLoad_ok h (hev a (by simp [Op.operands])) hs
    exact ⟨u', by simp [execOp, h1], h2⟩
  · rename_i x
    have hx := hev x (by simp [Op.operands])
    split at h
    · rename_i i o hq
      cases h
      rw [hq] at hx
      obtain ⟨b, xx, hb, he⟩ := hx.ptr_inv
      exact ⟨ρ x, by simp [execOp, he], hx⟩
    · rename_i i o sp n c hq
      cases h
      rw [hq] at hx
      obtain ⟨b, xx, hb, he⟩ := hx.slp_inv
      exact ⟨ρ x, by simp [execOp, he], hx⟩
    · rename_i f a b hq
      cases h
      rw [hq] at hx
      obtain ⟨f', c', _, _, he⟩ := hx.func_inv
      exact ⟨ρ x, by simp [execOp, he], hx⟩
    · cases h
  · rename_i s x f
    obtain ⟨u', h1, h2⟩ := aFieldAddr_ok (w := w) h (hev x (by simp [Op.operands]))
    exact ⟨u', by simp [execOp, h1], h2⟩
  · rename_i t x i
    obtain ⟨u', h1, h2⟩ := aIndexAddr_ok (w := w) h (hev x (by simp [Op.operands])) (hev i (by simp [Op.operands]))
    exact ⟨u', by simp [execOp, h1], h2⟩
  · rename_i t x lo hi
    obtain ⟨u', h1, h2⟩ := aSlice_ok h (hev x (by simp [Op.operands])) (ro_ok (ρ := ρ) fun y e => hev y (by subst e; simp [Op.operands])) (ro_ok (ρ := ρ) fun y e => hev y (by subst e; simp [Op.operands])) hs
    exact ⟨u', by simp [execOp, h1], h2⟩
  · rename_i t x lo hi m
    obtain ⟨u', h1, h2⟩ := aSlice3_ok (w := w) h (hev x (by simp [Op.operands])) (ro_ok (ρ := ρ) fun y e => hev y (by subst e; simp [Op.operands])) (ro_ok (ρ := ρ) fun y e => hev y (by subst e; simp [Op.operands])) (.so (hev m (by simp [Op.operands])))
    exact ⟨u', by simp [execOp, h1], h2⟩
  · rename_i t x f
    obtain ⟨u', h1, h2⟩ := aField_ok (w := w) h (hev x (by simp [Op.operands]))
    exact ⟨u', by simp [execOp, h1], h2⟩
  · rename_i t x i
    obtain ⟨u', h1, h2⟩ := aIndex_ok (w := w) h (hev x (by simp [Op.operands])) (hev i (by simp [Op.operands]))
    exact ⟨u', by simp [execOp, h1], h2⟩
  · rename_i t i
    obtain ⟨u', h1, h2⟩ := aExtract_ok (P := P) (w := w) h (hev t (by simp [Op.operands]))
    exact ⟨u', by simp [execOp, h1], h2⟩
  · rename_i fn a b
    split at h
    · rename_i hc
      cases h
      simp only [Bool.and_eq_true, List.all_eq_true] at hc
      refine ⟨.func fn (a.toList.map ρ).toArray (b.toList.map ρ).toArray, by simp [execOp, Instr.makeFunc]; exact ⟨by rw [← Array.toList_map], by rw [← Array.toList_map]⟩, ?_⟩
      exact .one (.base (.func (All2.map fun x hx => Ra_of (hev x (by simp [Op.operands]; exact .inl (by simpa using hx))) (hc.1 x hx)) (All2.map fun x hx => Ra_of (hev x (by simp [Op.operands]; exact .inr (by simpa using hx))) (hc.2 x hx))))
    · cases h
  · rename_i bop t x y yt
    have hx := hev x (by simp [Op.operands])
    have hy := hev y (by simp [Op.operands])
    split at h
    · rename_i u hu
      cases h
      obtain ⟨h1, h2, h3, h4⟩ := aBin_ok (P := P) (w := w) (t := t) (X := x) (Y := y) hu
      have ex := hx.eq_flat h3
      have ey := hy.eq_flat h4
      refine ⟨v, ?_, .of_flat h2⟩
      have hrun : (execOp ρ { dst := dst, op := .binOp bop t x y yt, type := ty, pos := pos, after := after, guard := guard }).run P w =
          ((do eqGuard bop t x y (ρ x) (ρ y); binOp bop t (ρ x) (ρ y) : Sem Value).run P w).andThen fun a w => .ok (.value a) w := by
        simp [execOp]
        cases Sem.run P (eqGuard bop t x y (ρ x) (ρ y)) w <;> rfl
      rw [hrun, ex, ey, h1]; rfl
    · split at h
      · simp only [Option.map_eq_some_iff] at h
        obtain ⟨u, hu, rfl⟩ := h
        obtain ⟨h1, h2, h3⟩ := aEqB_ok (P := P) (w := w) hu hx hy
        exact ⟨.bool u, by simp [execOp, h1 _ x y (.inl rfl), h2], .of_flat rfl⟩
      · simp only [Option.map_eq_some_iff] at h
        obtain ⟨u, hu, rfl⟩ := h
        obtain ⟨h1, h2, h3⟩ := aEqB_ok (P := P) (w := w) hu hx hy
        exact ⟨.bool !u, by simp [execOp, h1 _ x y (.inr rfl), h3], .of_flat rfl⟩
      · cases h
  · rename_i t x
    have hx := hev x (by simp [Op.operands])
    unfold notB at h
    split at h
    · rename_i hq
      cases h
      rw [hq] at hx
      exact ⟨.bool false, by simp [execOp, Op.unary, hx.bool_inv], .of_flat rfl⟩
    · rename_i hq
      cases h
      rw [hq] at hx
      exact ⟨.bool true, by simp [execOp, Op.unary, hx.bool_inv], .of_flat rfl⟩
    · cases h
  · rename_i s d x
    obtain ⟨h1, h2, h3⟩ := aConv_ok (P := P) (w := w) h
    have ex := (hev x (by simp [Op.operands])).eq_flat h3
    exact ⟨v, by simp only [execOp, Sem.run_bind, ex, h1]; rfl, .of_flat h2⟩
  · rename_i c
    obtain ⟨callee, args, argTypes⟩ := c
    split at h
    · rename_i t x hcal hat har
      simp only at hcal; subst hcal
      have e1 : argTypes = #[t] := by apply Array.ext'; exact hat
      have e2 : args = #[x] := by apply Array.ext'; exact har
      subst e1; subst e2
      obtain ⟨h1, h2⟩ := aLen_ok (P := P) (w := w) (ty := ty) h (hev x (by simp [Op.operands, Call.operands]))
      exact ⟨v, by simp [execOp, resolve, invoke, builtin, h1], h2⟩
    · cases h
  · cases h
theorem aGen_ok {ev ρ : Operand → Value} {o : Oper} {v : Value} (h : aGen P ev o = some v) (hev : ∀ x ∈ o.op.operands, RV β (ev x) (ρ x)) : QR P β w v ((execOp ρ o).run P w) := by
  unfold aGen at h
  split at h
  · rename_i hc
    simp only [Bool.and_eq_true, List.all_eq_true] at hc
    obtain ⟨h1, h2⟩ := hc
    have he : execOp ρ o = execOp ev o := execOp_congr o (by intro cs b e; rw [e] at h2; cases h2) fun x hx => (hev x hx).eq_flat (h1 x (by simpa using hx))
    split at h
    · rename_i u hv
      split at h
      · rename_i hf
        cases h
        exact ⟨v, by rw [he]; exact semPure_ok hv, .of_flat hf⟩
      · cases h
    · cases h
  · cases h

/-- tmps -/
def Tm (β : Bs) (tm : Fr) (a : Act) : Prop := (∀ t, RV β (tm.get t) (a.tmps.getD t undef)) ∧ a.defers = [] ∧ ∀ t, tm.has t ↔ t < a.tmps.size
theorem evT_ok {tm : Fr} {a : Act} (ht : Tm β tm a) (hs : HR N0 β H w) {x : Operand} (hx : okOp N0 x = true) : RV β (evT tm x) (a.eval x) := by
  cases x with
  | tmp t => exact ht.1 t
  | const v => exact .of_flat hx
  | global g => exact .one (.base (.ptr (hs.glob g (blt_true.1 hx))))
  | func f => exact .of_flat rfl
def opOk (N0 : Nat) (o : Oper) : Bool := o.op.operands.toList.all (okOp N0)
theorem opOk_ev {tm : Fr} {a : Act} {o : Oper} (hok : opOk N0 o = true) (ht : Tm β tm a) (hs : HR N0 β H w) : ∀ x ∈ o.op.operands, RV β (evT tm x) (a.eval x) :=
  fun x hx => evT_ok ht hs (List.all_eq_true.1 hok x (by simpa using hx))
theorem aQ_ok {tm : Fr} {a : Act} {o : Oper} {v : Value} (hok : opOk N0 o = true) (h : aQ P H tm o = some v) (ht : Tm β tm a) (hs : HR N0 β H w) : QR P β w v ((execOp a.eval o).run P w) := by
  unfold aQ at h
  split at h
  · rename_i u hu
    cases h
    exact aSpec_ok hu (opOk_ev hok ht hs) hs
  · exact aGen_ok h (opOk_ev hok ht hs)
theorem aL_ok (hn : namesOk P = true) {ev ρ : Operand → Value} {o : Oper} {r : AR} {at_ : Nat} (h : aL P N0 H at_ ev o.op = some r) (hev : ∀ x ∈ o.op.operands, RV β (ev x) (ρ x)) (hs : HS N0 w0 β H w) :
    OpR P N0 w0 β w r ((execOp ρ o).run P w) := by
  obtain ⟨dst, op, ty, pos, after, guard⟩ := o
  simp only at h hev
  unfold aL at h
  split at h
  · rename_i e
    split at h
    · rename_i z hz
      split at h
      · rename_i hf
        simp only [Option.map_eq_some_iff] at h
        obtain ⟨⟨u, H'⟩, hu, rfl⟩ := h
        obtain ⟨a, w', β', h1, h2, h3, h4⟩ := aNew_ok hu (RV.of_flat hf) hs
        exact ⟨_, w', β', .inl (by simp [execOp, Instr.alloc, run_zeroValue hz, h1]), h2, h3, h4⟩
      · cases h
    · cases h
  · rename_i e x
    simp only [Option.map_eq_some_iff] at h
    obtain ⟨⟨u, H'⟩, hu, rfl⟩ := h
    obtain ⟨a, w', β', h1, h2, h3, h4⟩ := aNew_ok hu (hev x (by simp [Op.operands])) hs
    exact ⟨_, w', β', .inl (by simp [execOp, Instr.box, h1]), h2, h3, h4⟩
  · rename_i t n parts
    simp only [Option.map_eq_some_iff] at h
    obtain ⟨⟨u, H'⟩, hu, rfl⟩ := h
    obtain ⟨u', w', β', h1, h2, h3, h4⟩ := aBuildSlice_ok hu (parts_ok (ρ := ρ) fun p hp => hev p.2 (by simp only [Op.operands]; simp; exact ⟨p.1, by simpa using hp⟩)) hs
    exact ⟨u', w', β', .inl (by simp only [execOp, Sem.run_bind, h1]; rfl), h2, h3, h4⟩
  · rename_i t a x
    simp only [Option.map_eq_some_iff] at h
    obtain ⟨H', hu, rfl⟩ := h
    obtain ⟨w', h1, h2⟩ := aStore_ok hu (hev a (by simp [Op.operands])) (hev x (by simp [Op.operands])) hs
    exact ⟨undef, w', β, .inr ⟨by simp [execOp, h1], rfl⟩, Ext.refl _, .undef, h2⟩
  · rename_i t l c
    simp only [Option.map_eq_some_iff] at h
    obtain ⟨⟨u, H'⟩, hu, rfl⟩ := h
    obtain ⟨u', w', β', h1, h2, h3, h4⟩ := aMake_ok hu (hev l (by simp [Op.operands])) (hev c (by simp [Op.operands])) hs
    exact ⟨u', w', β', .inl (by simp [execOp, h1]), h2, h3, h4⟩
  · rename_i c
    obtain ⟨callee, args, argTypes⟩ := c
    split at h
    · rename_i f hcal
      simp only at hcal; subst hcal
      split at h
      · rename_i g first cap hf
        have hf' := hev f (by simp [Op.operands, Call.operands])
        rw [hf] at hf'
        obtain ⟨f', c', q1, q2, he⟩ := hf'.func_inv
        have hargs : All2 (RV β) (args.toList.map ev) (args.toList.map ρ) := All2.map fun x hx => hev x (by simp [Op.operands, Call.operands]; exact .inr (by simpa using hx))
        have hall : All2 (RV β) (first.toList ++ args.toList.map ev ++ cap.toList) (f' ++ args.toList.map ρ ++ c') := ((q1.mono fun _ _ h => h.toRV).append hargs).append (q2.mono fun _ _ h => h.toRV)
        split at h
        · rename_i hfn
          cases h
          refine ⟨f' ++ args.toList.map ρ ++ c', hall, hfn, ?_⟩
          simp [execOp, resolve, Deferred.ofValue, he, invoke, run_callFunc_ok hn hfn]
        · unfold aExt at h
          split at h
          · rename_i hfl
            have hflat := List.all_eq_true.1 hfl
            have heq : f' ++ args.toList.map ρ ++ c' = first.toList ++ args.toList.map ev ++ cap.toList := hall.eq_of fun a b ha hr => hr.eq_flat (hflat a ha)
            split at h
            · rename_i u hu
              split at h
              · rename_i hfv
                cases h
                have hrun := semPure_ok (w := w) hu
                refine ⟨u, w, β, .inl ?_, Ext.refl _, .of_flat hfv, hs⟩
                rw [← heq] at hrun
                have e2 : (f' ++ args.toList.map ρ ++ c').toArray = f'.toArray ++ (args.map ρ ++ c'.toArray) := by
                  apply Array.ext'; simp
                rw [e2] at hrun
                simp [execOp, resolve, Deferred.ofValue, he, invoke, hrun]
              · cases h
            · cases h
          · cases h
      · cases h
    · rename_i b hcal
      simp only at hcal; subst hcal
      split at h
      · rename_i t t' s x hat har
        split at h
        · rename_i htt
          subst htt
          simp only [Option.map_eq_some_iff] at h
          obtain ⟨⟨u, H'⟩, hu, rfl⟩ := h
          have e1 : argTypes = #[t, t] := by apply Array.ext'; exact hat
          have e2 : args = #[s, x] := by apply Array.ext'; exact har
          subst e1; subst e2
          obtain ⟨u', w', β', h1, h2, h3, h4⟩ := aAppend_ok (ty := ty) hu (hev s (by simp [Op.operands, Call.operands])) (hev x (by simp [Op.operands, Call.operands])) hs
          exact ⟨u', w', β', .inl (by simp [execOp, resolve, invoke, builtin, h1]), h2, h3, h4⟩
        · cases h
      · rename_i t t2 d x hat har
        simp only [Option.map_eq_some_iff] at h
        obtain ⟨⟨u, H'⟩, hu, rfl⟩ := h
        have e1 : argTypes = #[t, t2] := by apply Array.ext'; exact hat
        have e2 : args = #[d, x] := by apply Array.ext'; exact har
        subst e1; subst e2
        obtain ⟨u', w', h1, h2, h3⟩ := aCopy_ok (ty := ty) (t2 := t2) hu (hev d (by simp [Op.operands, Call.operands])) (hev x (by simp [Op.operands, Call.operands])) hs
        exact ⟨u', w', β, .inl (by simp [execOp, resolve, invoke, builtin, h1]), Ext.refl _, h2, h3⟩
      · cases h
    · cases h
  · cases h
theorem aOp_ok (hn : namesOk P = true) {tm : Fr} {a : Act} {o : Oper} {r : AR} {at_ : Nat} (hok : opOk N0 o = true) (h : aOp P N0 H at_ tm o = some r) (ht : Tm β tm a) (hs : HS N0 w0 β H w) : OpR P N0 w0 β w r ((execOp a.eval o).run P w) := by
  unfold aOp at h
  split at h
  · exact aL_ok hn h (opOk_ev hok ht hs.toHR) hs
  · split at h
    · rename_i v hv
      cases h
      obtain ⟨v', h1, h2⟩ := aQ_ok hok hv ht hs.toHR
      exact ⟨v', w, β, .inl h1, Ext.refl _, h2, hs⟩
    · cases h
end
end Go.Proofs.Ytlieapapmkbbgaa

namespace Go.Proofs.Ytlieapapmkbbgaa
open Go Go.RowKit
set_option linter.unusedVariables false
set_option linter.unusedSimpArgs false

/-! equality that the kernel can ask for -/
def beqF : Value → Value → Bool
  | .bool a, .bool b => a == b
  | .int k a, .int l b => decide (k = l) && decide (a = b)
  | .string a, .string b => decide (a.data.toList = b.data.toList)
  | .pointer a, .pointer b => decide (a = b)
  | .slice a n c, .slice b m d => decide (a = b) && (Nat.beq n m && Nat.beq c d)
  | .float k a, .float l b => decide (k = l) && Nat.beq a b
  | .complex k a b, .complex l c d => decide (k = l) && (Nat.beq a c && Nat.beq b d)
  | .nilFunc, .nilFunc => true
  | .nilIface, .nilIface => true
  | _, _ => false
theorem beqF_ok {a b : Value} (h : beqF a b = true) : a = b := by
  cases a <;> cases b <;> simp_all [beqF]
  · rename_i a b
    obtain ⟨⟨a⟩⟩ := a; obtain ⟨⟨b⟩⟩ := b
    simpa using h
def beqFs : List Value → List Value → Bool
  | [], [] => true
  | a :: l, b :: m => beqF a b && beqFs l m
  | _, _ => false
theorem beqFs_ok : ∀ {a b : List Value}, beqFs a b = true → a = b
  | [], [], _ => rfl
  | a :: l, b :: m, h => by
    simp only [beqFs, Bool.and_eq_true] at h
    rw [beqF_ok h.1, beqFs_ok h.2]
  | [], _ :: _, h => by simp [beqFs] at h
  | _ :: _, [], h => by simp [beqFs] at h
def beqG : Value → Value → Bool
  | .agg a, .agg b => beqFs a.toList b.toList
  | a, b => beqF a b
theorem beqG_ok {a b : Value} (h : beqG a b = true) : a = b := by
  unfold beqG at h
  split at h
  · rw [Array.ext' (beqFs_ok h)]
  · exact beqF_ok h
def beqGs : List Value → List Value → Bool
  | [], [] => true
  | a :: l, b :: m => beqG a b && beqGs l m
  | _, _ => false
theorem beqGs_ok : ∀ {a b : List Value}, beqGs a b = true → a = b
  | [], [], _ => rfl
  | a :: l, b :: m, h => by
    simp only [beqGs, Bool.and_eq_true] at h
    rw [beqG_ok h.1, beqGs_ok h.2]
  | [], _ :: _, h => by simp [beqGs] at h
  | _ :: _, [], h => by simp [beqGs] at h
def beqC : Value → Value → Bool
  | .func (.func f) a b, .func (.func g) c d => Nat.beq f g && (beqGs a.toList c.toList && beqGs b.toList d.toList)
  | a, b => beqF a b
theorem beqC_ok {a b : Value} (h : beqC a b = true) : a = b := by
  unfold beqC at h
  split at h
  · simp only [Bool.and_eq_true] at h
    rw [Nat.eq_of_beq_eq_true h.1, Array.ext' (beqGs_ok h.2.1), Array.ext' (beqGs_ok h.2.2)]
  · exact beqF_ok h
def beqCs : List Value → List Value → Bool
  | [], [] => true
  | a :: l, b :: m => beqC a b && beqCs l m
  | _, _ => false
theorem beqCs_ok : ∀ {a b : List Value}, beqCs a b = true → a = b
  | [], [], _ => rfl
  | a :: l, b :: m, h => by
    simp only [beqCs, Bool.and_eq_true] at h
    rw [beqC_ok h.1, beqCs_ok h.2]
  | [], _ :: _, h => by simp [beqCs] at h
  | _ :: _, [], h => by simp [beqCs] at h
def beqA : Value → Value → Bool
  | .agg a, .agg b => beqCs a.toList b.toList
  | a, b => beqC a b
theorem beqA_ok {a b : Value} (h : beqA a b = true) : a = b := by
  unfold beqA at h
  split at h
  · rw [Array.ext' (beqCs_ok h)]
  · exact beqC_ok h
def beqAs : List Value → List Value → Bool
  | [], [] => true
  | a :: l, b :: m => beqA a b && beqAs l m
  | _, _ => false
theorem beqAs_ok : ∀ {a b : List Value}, beqAs a b = true → a = b
  | [], [], _ => rfl
  | a :: l, b :: m, h => by
    simp only [beqAs, Bool.and_eq_true] at h
    rw [beqA_ok h.1, beqAs_ok h.2]
  | [], _ :: _, h => by simp [beqAs] at h
  | _ :: _, [], h => by simp [beqAs] at h
def beq1 : Value → Value → Bool
  | .tuple a, .tuple b => beqAs a.toList b.toList
  | a, b => beqA a b
theorem beq1_ok {a b : Value} (h : beq1 a b = true) : a = b := by
  unfold beq1 at h
  split at h
  · rw [Array.ext' (beqAs_ok h)]
  · exact beqA_ok h
def beq1s : List Value → List Value → Bool
  | [], [] => true
  | a :: l, b :: m => beq1 a b && beq1s l m
  | _, _ => false
theorem beq1s_ok : ∀ {a b : List Value}, beq1s a b = true → a = b
  | [], [], _ => rfl
  | a :: l, b :: m, h => by
    simp only [beq1s, Bool.and_eq_true] at h
    rw [beq1_ok h.1, beq1s_ok h.2]
  | [], _ :: _, h => by simp [beq1s] at h
  | _ :: _, [], h => by simp [beq1s] at h
def beqEnt : Ent → Ent → Bool
  | .dead, .dead => true
  | .resv, .resv => true
  | .live a, .live b => beqCs a.cells b.cells && (Nat.beq a.elem b.elem && (Nat.beq a.unit b.unit && (Nat.beq a.capN b.capN && (a.opn == b.opn))))
  | _, _ => false
theorem beqEnt_ok {a b : Ent} (h : beqEnt a b = true) : a = b := by
  cases a <;> cases b <;> simp [beqEnt] at h
  · rfl
  · rfl
  · rename_i a b
    obtain ⟨a1, a2, a3, a4, a5⟩ := a; obtain ⟨b1, b2, b3, b4, b5⟩ := b
    simp only at h
    rw [beqCs_ok h.1, h.2.1, h.2.2.1, h.2.2.2.1, h.2.2.2.2]
def beqEnts : List Ent → List Ent → Bool
  | [], [] => true
  | a :: l, b :: m => beqEnt a b && beqEnts l m
  | _, _ => false
theorem beqEnts_ok : ∀ {a b : List Ent}, beqEnts a b = true → a = b
  | [], [], _ => rfl
  | a :: l, b :: m, h => by
    simp only [beqEnts, Bool.and_eq_true] at h
    rw [beqEnt_ok h.1, beqEnts_ok h.2]
  | [], _ :: _, h => by simp [beqEnts] at h
  | _ :: _, [], h => by simp [beqEnts] at h
def beqHp (a b : Hp) : Bool := Nat.beq a.n b.n && beqEnts a.rev b.rev
theorem beqHp_ok {a b : Hp} (h : beqHp a b = true) : a = b := by
  obtain ⟨n, l⟩ := a; obtain ⟨m, k⟩ := b
  simp only [beqHp, Bool.and_eq_true] at h
  rw [Nat.eq_of_beq_eq_true h.1, beqEnts_ok h.2]
/-- what was known still stands -/
def keepsL : List Ent → List Ent → Bool
  | [], _ => true
  | .live a :: l, b :: m => beqEnt (.live a) b && keepsL l m
  | _ :: l, _ :: m => keepsL l m
  | .live _ :: _, [] => false
  | _ :: l, [] => keepsL l []
theorem keepsL_ok : ∀ {l m : List Ent}, keepsL l m = true → ∀ (i : Nat) (k : Blk), l[i]? = some (.live k) → m[i]? = some (.live k)
  | [], _, _, i, k, h => by simp at h
  | e :: l, b :: m, hk, i, k, h => by
    cases i with
    | zero =>
      simp at h; subst h
      simp only [keepsL, Bool.and_eq_true] at hk
      simp [← beqEnt_ok hk.1]
    | succ i =>
      simp at h ⊢
      refine keepsL_ok ?_ i k h
      cases e <;> simp_all [keepsL]
  | e :: l, [], hk, i, k, h => by
    cases i with
    | zero => simp at h; subst h; simp [keepsL] at hk
    | succ i =>
      simp at h
      have := keepsL_ok (l := l) (m := []) (by cases e <;> simp_all [keepsL]) i k h
      simp at this
def keepsB (Hs H : Hp) : Bool := match Nat.ble Hs.n H.n with
  | true => keepsL Hs.rev (H.rev.drop (H.n - Hs.n))
  | false => false
def Keeps (Hs H : Hp) : Prop := ∀ (i : Nat) (k : Blk), Hs.get i = .live k → H.get i = .live k
theorem keepsB_ok {Hs H : Hp} (h : keepsB Hs H = true) : Keeps Hs H := by
  intro i k hi
  unfold keepsB at h
  split at h
  · rename_i hle
    have hle := Nat.le_of_ble_eq_true hle
    unfold Hp.get at hi
    split at hi
    · rename_i hlt
      have hlt' := blt_true.1 hlt
      have hlt2 : Nat.blt i H.n = true := blt_true.2 (by omega)
      rw [List.getD_eq_getElem?_getD] at hi
      cases hg : Hs.rev[Hs.n - 1 - i]? with
      | none => rw [hg] at hi; cases hi
      | some e =>
        rw [hg] at hi
        simp at hi; subst hi
        have := keepsL_ok h _ k hg
        rw [List.getElem?_drop] at this
        simp only [Hp.get, hlt2]
        rw [List.getD_eq_getElem?_getD, show H.n - 1 - i = H.n - Hs.n + (Hs.n - 1 - i) by omega, this]
        rfl
    · cases hi
  · cases h

/-! what the kernel is to reckon at once -/
section
variable {α : Type}
def nk (n : Nat) (k : Nat → α) : α := match n with
  | 0 => k 0
  | m + 1 => k (m + 1)
theorem nk_eq (n : Nat) (k : Nat → α) : nk n k = k n := by cases n <;> rfl
def ik (i : Int) (k : Int → α) : α := match i with
  | .ofNat n => nk n fun n => k (.ofNat n)
  | .negSucc n => nk n fun n => k (.negSucc n)
theorem ik_eq (n : Int) (k : Int → α) : ik n k = k n := by cases n <;> simp [ik, nk_eq]
def bk (b : Bool) (k : Bool → α) : α := match b with
  | true => k true
  | false => k false
theorem bk_eq (b : Bool) (k : Bool → α) : bk b k = k b := by cases b <;> rfl
def kk (x : IntKind) (k : IntKind → α) : α := match x with
  | .i8 => k .i8 | .i16 => k .i16 | .i32 => k .i32 | .i64 => k .i64 | .u8 => k .u8 | .u16 => k .u16 | .u32 => k .u32 | .u64 => k .u64
theorem kk_eq (x : IntKind) (k : IntKind → α) : kk x k = k x := by cases x <;> rfl
def byk (l : List UInt8) (k : List UInt8 → α) : α := match l with
  | [] => k []
  | b :: l => nk b.toNat fun n => byk l fun m => k (UInt8.ofNat n :: m)
theorem byk_eq (l : List UInt8) (k : List UInt8 → α) : byk l k = k l := by
  induction l generalizing k with
  | nil => rfl
  | cons b l ih => simp [byk, nk_eq, ih]
def lk (v : Value) (k : Value → α) : α := match v with
  | .int x n => ik n fun n => k (.int x n)
  | .bool b => bk b fun b => k (.bool b)
  | .string s => byk s.data.toList fun l => k (.string ⟨⟨l⟩⟩)
  | .pointer (some ⟨i, o, t⟩) => nk i fun i => nk o fun o => k (.pointer (some ⟨i, o, t⟩))
  | .slice (some ⟨i, o, t⟩) n c => nk i fun i => nk o fun o => nk n fun n => nk c fun c => k (.slice (some ⟨i, o, t⟩) n c)
  | .float x n => nk n fun n => k (.float x n)
  | .complex x n m => nk n fun n => nk m fun m => k (.complex x n m)
  | v => k v
theorem lk_eq (v : Value) (k : Value → α) : lk v k = k v := by
  unfold lk
  split <;> simp only [bk_eq, ik_eq, nk_eq, byk_eq]
def lks (l : List Value) (k : List Value → α) : α := match l with
  | [] => k []
  | v :: l => lk v fun v => lks l fun m => k (v :: m)
theorem lks_eq (l : List Value) (k : List Value → α) : lks l k = k l := by
  induction l generalizing k with
  | nil => rfl
  | cons b l ih => simp [lks, lk_eq, ih]
def ak (v : Value) (k : Value → α) : α := match v with
  | .int x n => ik n fun n => k (.int x n)
  | .bool b => bk b fun b => k (.bool b)
  | .agg cs => lks cs.toList fun l => k (.agg ⟨l⟩)
  | v => lk v k
theorem ak_eq (v : Value) (k : Value → α) : ak v k = k v := by
  unfold ak
  split
  · simp only [ik_eq]
  · simp only [bk_eq]
  · simp only [lks_eq]
  · exact lk_eq _ _
/-- the list itself, not what is in it -/
def spK (l : List Value) (k : List Value → α) : α := match l with
  | [] => k []
  | v :: l => spK l fun m => k (v :: m)
theorem spK_eq (l : List Value) (k : List Value → α) : spK l k = k l := by
  induction l generalizing k with
  | nil => rfl
  | cons b l ih => simp [spK, ih]
def aks (l : List Value) (k : List Value → α) : α := match l with
  | [] => k []
  | v :: l => ak v fun v => aks l fun m => k (v :: m)
theorem aks_eq (l : List Value) (k : List Value → α) : aks l k = k l := by
  induction l generalizing k with
  | nil => rfl
  | cons b l ih => simp [aks, ak_eq, ih]
def vk (v : Value) (k : Value → α) : α := match v with
  | .int x n => ik n fun n => k (.int x n)
  | .bool b => bk b fun b => k (.bool b)
  | .tuple cs => spK cs.toList fun l => k (.tuple ⟨l⟩)
  | .agg cs => spK cs.toList fun l => k (.agg ⟨l⟩)
  | .func f a b => lks a.toList fun a => lks b.toList fun b => k (.func f ⟨a⟩ ⟨b⟩)
  | .pointer (some ⟨i, o, t⟩) => nk i fun i => nk o fun o => k (.pointer (some ⟨i, o, t⟩))
  | .slice (some ⟨i, o, t⟩) n c => nk i fun i => nk o fun o => nk n fun n => nk c fun c => k (.slice (some ⟨i, o, t⟩) n c)
  | .string s => byk s.data.toList fun l => k (.string ⟨⟨l⟩⟩)
  | .float x n => nk n fun n => k (.float x n)
  | .complex x n m => nk n fun n => nk m fun m => k (.complex x n m)
  | v => k v
theorem vk_eq (v : Value) (k : Value → α) : vk v k = k v := by
  unfold vk
  split <;> simp only [ik_eq, bk_eq, spK_eq, lks_eq, nk_eq, byk_eq]
def vks (l : List Value) (k : List Value → α) : α := match l with
  | [] => k []
  | v :: l => vk v fun v => vks l fun m => k (v :: m)
theorem vks_eq (l : List Value) (k : List Value → α) : vks l k = k l := by
  induction l generalizing k with
  | nil => rfl
  | cons b l ih => simp [vks, vk_eq, ih]
def setK (l : List Value) (d : Nat) (v : Value) (k : List Value → α) : α := match l, d with
  | [], _ => k []
  | _ :: l, 0 => k (v :: l)
  | a :: l, d + 1 => setK l d v fun m => k (a :: m)
theorem setK_eq (l : List Value) (d : Nat) (v : Value) (k : List Value → α) : setK l d v k = k (l.set d v) := by
  induction l generalizing d k with
  | nil => rfl
  | cons b l ih => cases d <;> simp [setK, ih]
def blkK (b : Blk) (k : Blk → α) : α := spK b.cells fun cs => nk b.elem fun e => nk b.unit fun u => nk b.capN fun c => bk b.opn fun o => k ⟨cs, e, u, c, o⟩
theorem blkK_eq (b : Blk) (k : Blk → α) : blkK b k = k b := by simp [blkK, spK_eq, nk_eq, bk_eq]
def entK (e : Ent) (k : Ent → α) : α := match e with
  | .live b => blkK b fun b => k (.live b)
  | .dead => k .dead
  | .resv => k .resv
theorem entK_eq (e : Ent) (k : Ent → α) : entK e k = k e := by cases e <;> simp [entK, blkK_eq]
/-- the list up to a place, and what lies there -/
def revK (l : List Ent) (d : Nat) (k : List Ent → α) : α := match l, d with
  | [], _ => k []
  | e :: l, 0 => entK e fun e => k (e :: l)
  | e :: l, d + 1 => revK l d fun m => k (e :: m)
theorem revK_eq (l : List Ent) (d : Nat) (k : List Ent → α) : revK l d k = k l := by
  induction l generalizing d k with
  | nil => rfl
  | cons b l ih => cases d <;> simp [revK, entK_eq, ih]
def hpK (j : Nat) (H : Hp) (k : Hp → α) : α := match H with
  | ⟨n, rev⟩ => nk n fun n => revK rev (n - 1 - j) fun rev => k ⟨n, rev⟩
theorem hpK_eq (j : Nat) (H : Hp) (k : Hp → α) : hpK j H k = k H := by cases H; simp [hpK, nk_eq, revK_eq]
end
def blockOf : Value → Nat
  | .pointer (some a) => a.block
  | .slice (some a) _ _ => a.block
  | _ => 0
def forceH {α : Type} (at_ : Nat) (tm : Fr) (op : Op) (H' : Hp) (k : Hp → α) : α :=
  match op with
  | .store _ a _ => hpK (blockOf (evT tm a)) H' k
  | .call c => match c.args.toList with
    | a :: _ => hpK at_ H' fun H' => hpK (blockOf (evT tm a)) H' k
    | [] => k H'
  | _ => hpK at_ H' k
theorem forceH_eq {α : Type} (at_ : Nat) (tm : Fr) (op : Op) (H' : Hp) (k : Hp → α) : forceH at_ tm op H' k = k H' := by
  unfold forceH
  split
  · rw [hpK_eq]
  · split
    · rw [hpK_eq, hpK_eq]
    · rfl
  · rw [hpK_eq]

section
variable {P : Program} {N0 : Nat} {w0 w : World} {β : Bs} {H : Hp}

theorem Rb.unique {v a b : Value} (h : Rb β v a) (k : Rb β v b) : a = b := by
  cases h with
  | flatX h => exact (k.eq_flat h).symm
  | ptr h => cases k with
    | flatX k => simp [flat0] at k
    | ptr k => rw [h] at k; cases k; rfl
  | slc h => cases k with
    | flatX k => simp [flat0] at k
    | slc k => rw [h] at k; cases k; rfl
theorem All2.unique {α γ : Type} {R : α → γ → Prop} (hr : ∀ a b c, R a b → R a c → b = c) {l : List α} {m n : List γ} (h : All2 R l m) (k : All2 R l n) : m = n := by
  induction h generalizing n with
  | nil => cases k; rfl
  | cons h _ ih => cases k with | cons k ks => rw [hr _ _ _ h k, ih ks]
theorem Ra.unique {v a b : Value} (h : Ra β v a) (k : Ra β v b) : a = b := by
  cases h with
  | base h => cases k with
    | base k => exact h.unique k
    | agg k => cases h with | flatX h => simp [flat0] at h
  | agg h => cases k with
    | base k => cases k with | flatX k => simp [flat0] at k
    | agg k => rw [All2.unique (R := Rb β) (fun _ _ _ h k => Rb.unique h k) h k]
theorem R0.unique {v a b : Value} (h : R0 β v a) (k : R0 β v b) : a = b := by
  cases h with
  | base h => cases k with
    | base k => exact h.unique k
    | func _ _ => cases h with | flatX h => simp [flat0] at h
  | func h h' => cases k with
    | base k => cases k with | flatX k => simp [flat0] at k
    | func k k' => rw [All2.unique (R := Ra β) (fun _ _ _ h k => Ra.unique h k) h k, All2.unique (R := Ra β) (fun _ _ _ h k => Ra.unique h k) h' k']
theorem All2.uniq0 {l m n : List Value} (h : All2 (R0 β) l m) (k : All2 (R0 β) l n) : m = n := All2.unique (R := R0 β) (fun _ _ _ h k => R0.unique h k) h k
theorem R1.unique {v a b : Value} (h : R1 β v a) (k : R1 β v b) : a = b := by
  cases h with
  | base h => cases k with
    | base k => exact h.unique k
    | agg k => cases h with | base h => cases h with | flatX h => simp [flat0] at h
  | agg h => cases k with
    | base k => cases k with | base k => cases k with | flatX k => simp [flat0] at k
    | agg k => rw [h.uniq0 k]
theorem All2.uniq1 {l m n : List Value} (h : All2 (R1 β) l m) (k : All2 (R1 β) l n) : m = n := All2.unique (R := R1 β) (fun _ _ _ h k => R1.unique h k) h k
theorem RV.unique {v a b : Value} (h : RV β v a) (k : RV β v b) : a = b := by
  cases h with
  | one h => cases k with
    | one k => exact h.unique k
    | tup k => cases h with | base h => cases h with | base h => cases h with | flatX h => simp [flat0] at h
  | tup h => cases k with
    | one k => cases k with | base k => cases k with | base k => cases k with | flatX k => simp [flat0] at k
    | tup k => rw [h.uniq1 k]

/-- what was known of an earlier heap, of a later world -/
theorem HR.weaken {β' : Bs} {H' : Hp} {w' : World} (h : HR N0 β H w) (h' : HR N0 β' H' w') (e : Ext β β') (hk : Keeps H H') : HR N0 β H w' := by
  refine ⟨?_, h.glob⟩
  intro i k hi
  obtain ⟨b, x, g1, g2⟩ := h.rd i k hi
  obtain ⟨b', x', q1, q2⟩ := h'.rd i k (hk i k hi)
  rw [e _ _ g1] at q1; cases q1
  refine ⟨b, x, g1, fun j v hj => ?_⟩
  obtain ⟨v1, _, r1⟩ := g2 j v hj
  obtain ⟨v2, c2, r2⟩ := q2 j v hj
  exact ⟨v2, c2, by rw [← (r1.mono e).unique r2]; exact r1⟩
theorem HR.ext {β' : Bs} (h : HR N0 β H w) (e : Ext β β') : HR N0 β' H w := ⟨fun i k hi => (h.rd i k hi).mono e, fun i hi => e _ _ (h.glob i hi)⟩

def putL (tm : Fr) (dst : Option Tmp) (v : Value) : Fr := match dst with | some d => tm.set d v | none => tm
/-- row number r, and what becomes of it -/
def rowsK {α : Type} (f : List (List Value)) (r c : Nat) (v : Value) (k : List (List Value) → α) : α := match f, r with
  | [], _ => k []
  | a :: f, 0 => setK a c v fun a => k (a :: f)
  | a :: f, r + 1 => rowsK f r c v fun f => k (a :: f)
theorem rowsK_eq {α : Type} (f : List (List Value)) (r c : Nat) (v : Value) (k : List (List Value) → α) : rowsK f r c v k = k (List.set f r ((List.getD f r []).set c v)) := by
  induction f generalizing r k with
  | nil => rfl
  | cons a f ih => cases r with
    | zero => simp [rowsK, setK_eq]
    | succ r => simp [rowsK, ih]
def putK {α : Type} (tm : Fr) (dst : Option Tmp) (v : Value) (k : Fr → α) : α := match dst with
  | some d => rowsK tm (d / 8) (d % 8) v k
  | none => k tm
theorem putK_eq {α : Type} (tm : Fr) (dst : Option Tmp) (v : Value) (k : Fr → α) : putK tm dst v k = k (putL tm dst v) := by
  cases dst with
  | none => rfl
  | some d => exact rowsK_eq tm (d / 8) (d % 8) v k
theorem Tm.put {tm : Fr} {a : Act} (h : Tm β tm a) (dst : Option Tmp) {v v' : Value} (hv : RV β v v') : Tm β (putL tm dst v) (a.put dst v') := by
  cases dst with
  | none => exact h
  | some d =>
    obtain ⟨h1, h2, h3⟩ := h
    refine ⟨fun t => ?_, h2, fun t => ?_⟩
    · show RV β ((tm.set d v).get t) ((a.tmps.setIfInBounds d v').getD t undef)
      rw [(Fr.get_set tm d v t).1]
      by_cases hc : t = d ∧ tm.has d
      · obtain ⟨rfl, hh⟩ := hc
        rw [if_pos ⟨rfl, hh⟩]
        have := (h3 t).1 hh
        simpa [this] using hv
      · rw [if_neg hc]
        by_cases htd : t = d
        · subst htd
          have hn : ¬ t < a.tmps.size := fun hlt => hc ⟨rfl, (h3 t).2 hlt⟩
          rw [Array.setIfInBounds_eq_of_size_le (by omega)]
          exact h1 t
        · have e : (a.tmps.setIfInBounds d v').getD t undef = a.tmps.getD t undef := by
            simp only [Array.getD_eq_getD_getElem?]
            rw [Array.getElem?_setIfInBounds_ne (fun h => htd h.symm)]
          rw [e]; exact h1 t
    · show (tm.set d v).has t ↔ t < (a.tmps.setIfInBounds d v').size
      rw [(Fr.get_set tm d v t).2, h3 t]; simp
theorem Tm.mono {β' : Bs} (e : Ext β β') {tm : Fr} {a : Act} (h : Tm β tm a) : Tm β' tm a := ⟨fun t => (h.1 t).mono e, h.2⟩

def boolOf : Value → Option Bool
  | .bool b => some b
  | _ => none
theorem RV.boolOf {v v' : Value} (h : RV β v v') : boolOf v' = boolOf v := by
  cases h with
  | tup _ => rfl
  | one h => cases h with
    | agg _ => rfl
    | base h => cases h with
      | func _ _ => rfl
      | base h => cases h <;> rfl
def yieldedL (ops : Array Oper) (tm : Fr) (j : Nat) : Option Bool := ((ops[j]?).bind (·.dst)).bind fun d => boolOf (tm.get d)
theorem yieldedL_ok {tm : Fr} {a : Act} (h : Tm β tm a) (ops : Array Oper) : yieldedL ops tm = yielded ops a.tmps := by
  funext j
  unfold yieldedL yielded
  cases hd : (ops[j]?).bind (·.dst) with
  | none => simp
  | some d =>
    simp only [Option.bind_some]
    have hr := h.1 d
    rw [← hr.boolOf]
    simp only [Array.getD_eq_getD_getElem?]
    cases a.tmps[d]? with
    | none => rfl
    | some v' => cases v' <;> rfl

abbrev CallF := FuncId → List Value → Hp → Option (Value × Hp)
def CallOk (P : Program) (N0 : Nat) (w0 : World) (call : CallF) : Prop :=
  ∀ f args args' β H w v H', call f args H = some (v, H') → isFn P f = true → All2 (RV β) args args' → HS N0 w0 β H w →
    Calls P f args'.toArray w fun e w' => ∃ v' β', e = .returned v' ∧ Ext β β' ∧ RV β' v v' ∧ HS N0 w0 β' H' w'

def aDo (P : Program) (N0 : Nat) (call : CallF) (tm : Fr) (H : Hp) (at_ : Nat) (o : Oper) : Option (Fr × Hp) :=
  match isLoud o.op with
  | false => match aQ P H tm o with
    | some v => vk v fun v => putK tm o.dst v fun tm' => some (tm', H)
    | none => none
  | true => match aL P N0 H at_ (evT tm) o.op with
    | some (.val v H') => vk v fun v => forceH at_ tm o.op H' fun H' => putK tm o.dst v fun tm' => some (tm', H')
    | some (.enter f args) => vks args fun args => match call f args H with
      | some (v, H') => putK tm o.dst v fun tm' => some (tm', H')
      | none => none
    | none => none
theorem aDo_ok (hn : namesOk P = true) {call : CallF} (hc : CallOk P N0 w0 call) {tm tm' : Fr} {H' : Hp} {o : Oper} {at_ : Nat} (hok : opOk N0 o = true) (h : aDo P N0 call tm H at_ o = some (tm', H')) {a : Act} (ht : Tm β tm a) (hs : HS N0 w0 β H w)
    {K : Act → World → Prop} {Q : Exit → Act → World → Prop} (hk : ∀ β' a' w', Ext β β' → Tm β' tm' a' → HS N0 w0 β' H' w' → K a' w') : o.wp P a w K Q := by
  unfold aDo at h
  split at h
  · split at h
    · rename_i v hv
      simp only [vk_eq, putK_eq, Option.some.injEq, Prod.mk.injEq] at h
      obtain ⟨rfl, rfl⟩ := h
      obtain ⟨v', hr, hv'⟩ := aQ_ok hok hv ht hs.toHR
      unfold Oper.wp
      rw [hr]; exact hk β _ _ (Ext.refl _) (ht.put o.dst hv') hs
    · cases h
  · have hev := opOk_ev hok ht hs.toHR
    split at h
    · rename_i v H1 hop
      simp only [vk_eq, forceH_eq, putK_eq, Option.some.injEq, Prod.mk.injEq] at h
      obtain ⟨rfl, rfl⟩ := h
      obtain ⟨v', w', β', hr, e, hv, hs'⟩ := aL_ok hn hop hev hs
      unfold Oper.wp
      rcases hr with hr | ⟨hr, rfl⟩
      · rw [hr]; exact hk β' _ _ e ((ht.mono e).put o.dst hv) hs'
      · rw [hr]; exact hk β' _ _ e ((ht.mono e).put o.dst hv) hs'
    · rename_i f args hop
      obtain ⟨args', ha, hfn, hr⟩ := aL_ok hn hop hev hs
      simp only [vks_eq] at h
      split at h
      · rename_i v H1 hcall
        simp only [putK_eq, Option.some.injEq, Prod.mk.injEq] at h
        obtain ⟨rfl, rfl⟩ := h
        unfold Oper.wp
        rw [hr, Oper.upon_enter]
        refine (hc f args args' β H w v H1 hcall hfn ha hs).mono ?_
        rintro e w' ⟨v', β', rfl, e', hv, hs'⟩
        exact hk β' _ _ e' ((ht.mono e').put o.dst hv) hs'
      · cases h
    · cases h

def aOps (P : Program) (N0 : Nat) (call : CallF) (ops : Array Oper) : List Oper → Fr → Hp → Option (Fr × Hp)
  | [], tm, H => some (tm, H)
  | o :: rest, tm, H => match Region.wanted o (yieldedL ops tm) with
      | true => match aDo P N0 call tm H H.n o with
        | some (tm', H') => aOps P N0 call ops rest tm' H'
        | none => none
      | false => putK tm o.dst undef fun tm => aOps P N0 call ops rest tm H
theorem aOps_ok (hn : namesOk P = true) {call : CallF} (hc : CallOk P N0 w0 call) (ops : Array Oper) (hok : ∀ o ∈ ops.toList, opOk N0 o = true) {Q : Exit → Act → World → Prop} : ∀ (l pre : List Oper) {β : Bs} {H : Hp} {w : World} {tm tm' : Fr} {H' : Hp} {a : Act},
    ops.toList = pre ++ l → aOps P N0 call ops l tm H = some (tm', H') → Tm β tm a → HS N0 w0 β H w → (∀ β' a' w', Ext β β' → Tm β' tm' a' → HS N0 w0 β' H' w' → Q .normal a' w') → wpOps P ops Q (List.range' pre.length l.length) a w
  | [], pre, β, H, w, tm, tm', H', a, hl, h, ht, hs, hk => by
    simp only [aOps, Option.some.injEq, Prod.mk.injEq] at h
    obtain ⟨rfl, rfl⟩ := h
    exact hk β a w (Ext.refl _) ht hs
  | o :: rest, pre, β, H, w, tm, tm', H', a, hl, h, ht, hs, hk => by
    have ho : ops[pre.length]? = some o := by
      rw [← Array.getElem?_toList, hl, List.getElem?_append_right (Nat.le_refl _)]; simp
    have hl2 : ops.toList = (pre ++ [o]) ++ rest := by rw [hl]; simp
    have ih := fun {β : Bs} {H : Hp} {w : World} {tm tm' : Fr} {H' : Hp} {a : Act} => @aOps_ok hn call hc ops hok Q rest (pre ++ [o]) β H w tm tm' H' a hl2
    simp only [List.length_append, List.length_cons, List.length_nil, Nat.zero_add] at ih
    simp only [aOps] at h
    simp only [List.length_cons, List.range'_succ, wpOps, ho]
    rw [← yieldedL_ok ht]
    cases hw : Region.wanted o (yieldedL ops tm) with
    | true =>
      rw [hw] at h
      simp only at h
      simp only [if_true]
      split at h
      · rename_i tm1 H1 hd
        refine .inl (aDo_ok hn hc (hok o (by rw [hl]; simp)) hd ht hs fun β' a' w' e ht' hs' => ?_)
        exact ih h ht' hs' fun β2 a2 w2 e2 => hk β2 a2 w2 (e.trans e2)
      · cases h
    | false =>
      rw [hw] at h
      simp only [putK_eq] at h
      simp only [Bool.false_eq_true, if_false]
      exact ih h (ht.put _ .undef) hs hk

/-! any order -/
def afterOk (ls : List Bool) : List Edge → Bool
  | [] => true
  | e :: l => match Region.binds .any e with
    | true => match ls.getD e.on false with
      | true => afterOk ls l
      | false => false
    | false => afterOk ls l
theorem afterOk_eq (ls : List Bool) : ∀ l : List Edge, afterOk ls l = l.all fun e => !Region.binds .any e || ls.getD e.on false
  | [] => rfl
  | e :: l => by
    simp only [afterOk, List.all_cons, afterOk_eq ls l]
    cases Region.binds .any e <;> cases ls.getD e.on false <;> simp
/-- which operations may come up -/
def readyL (ls : List Bool) : Nat → List Oper → List Bool → List Nat
  | i, o :: ops, b :: bs => match b with
    | true => readyL ls (i + 1) ops bs
    | false => match afterOk ls o.after.toList with
      | true => i :: readyL ls (i + 1) ops bs
      | false => readyL ls (i + 1) ops bs
  | _, _, _ => []
def readyF (ops : Array Oper) (listed : Array Bool) : List Nat := readyL listed.toList 0 ops.toList listed.toList
theorem readyF_eq (ops : Array Oper) (listed : Array Bool) : readyF ops listed = Region.ready .any ops listed := by
  have key : ∀ (suf pre : List Oper) (suf' pre' : List Bool), ops.toList = pre ++ suf → listed.toList = pre' ++ suf' → pre.length = pre'.length →
      readyL listed.toList pre.length suf suf' = (List.range' pre.length suf.length).filter fun i => !listed.getD i true && ((ops[i]?).map (·.after.all fun e => !Region.binds .any e || listed.getD e.on false)).getD false := by
    intro suf
    induction suf with
    | nil => intro pre suf' pre' _ _ _; cases suf' <;> rfl
    | cons o suf ih =>
      intro pre suf' pre' h1 h2 h3
      cases suf' with
      | nil =>
        have hs : listed.size = pre.length := by rw [← Array.length_toList, h2]; simp [h3]
        simp only [readyL]
        symm
        rw [List.filter_eq_nil_iff]
        intro i hi
        have := (List.mem_range'_1.1 hi).1
        have hn : listed.getD i true = true := by rw [Array.getD_eq_getD_getElem?, Array.getElem?_eq_none (by omega)]; rfl
        simp [hn]
      | cons b bs =>
        have ho : ops[pre.length]? = some o := by rw [← Array.getElem?_toList, h1, List.getElem?_append_right (Nat.le_refl _)]; simp
        have hb : listed.getD pre.length true = b := by rw [Array.getD_eq_getD_getElem?, ← Array.getElem?_toList, h2, h3, List.getElem?_append_right (Nat.le_refl _)]; simp
        have hih := ih (pre ++ [o]) bs (pre' ++ [b]) (by rw [h1]; simp) (by rw [h2]; simp) (by simp [h3])
        rw [List.length_append, List.length_cons, List.length_nil, Nat.zero_add] at hih
        rw [List.length_cons, List.range'_succ, List.filter_cons, hb, ho]
        have ha : (Option.map (fun x : Oper => x.after.all fun e => !Region.binds .any e || listed.getD e.on false) (some o)).getD false = afterOk listed.toList o.after.toList := by
          rw [afterOk_eq]
          simp only [Option.map_some, Option.getD_some]
          rw [← Array.all_toList]
          congr 1
          funext e
          simp [Array.getD_eq_getD_getElem?, List.getD_eq_getElem?_getD]
        rw [ha]
        simp only [readyL]
        cases b with
        | true => simpa using hih
        | false =>
          cases afterOk listed.toList o.after.toList with
          | true => simp only [Bool.not_false, Bool.and_self, if_true]; rw [hih]
          | false => simpa using hih
  have := key ops.toList [] listed.toList [] rfl rfl rfl
  unfold readyF Region.ready
  rw [List.range_eq_range']
  simpa using this
/-- the value of an operation that may be taken first; Hs: the heap that stands throughout the region -/
def aQuiet (P : Program) (ops : Array Oper) (Hs : Hp) (listed : Array Bool) (tm : Fr) (i : Nat) : Option (Option Tmp × Value) :=
  match ops[i]? with
  | some o =>
    match isLoud o.op with
    | true => match Region.wanted o (yieldedL ops tm) with
      | true => none
      | false => match Region.free .any ops listed i with
        | true => some (o.dst, undef)
        | false => none
    | false => match Region.free .any ops listed i with
      | true => match Region.wanted o (yieldedL ops tm) with
        | true => match aQ P Hs tm o with
          | some v => some (o.dst, v)
          | none => none
        | false => some (o.dst, undef)
      | false => none
  | none => none
def firstQuiet (P : Program) (ops : Array Oper) (Hs : Hp) (listed : Array Bool) (tm : Fr) : List Nat → Option (Nat × Option Tmp × Value)
  | [] => none
  | i :: l => match aQuiet P ops Hs listed tm i with
    | some (d, v) => some (i, d, v)
    | none => firstQuiet P ops Hs listed tm l
def beqFr : List (List Value) → List (List Value) → Bool
  | [], [] => true
  | a :: l, b :: m => beq1s a b && beqFr l m
  | _, _ => false
theorem beqFr_ok : ∀ {a b : List (List Value)}, beqFr a b = true → a = b
  | [], [], _ => rfl
  | a :: l, b :: m, h => by
    simp only [beqFr, Bool.and_eq_true] at h
    rw [beq1s_ok h.1, beqFr_ok h.2]
  | [], _ :: _, h => by simp [beqFr] at h
  | _ :: _, [], h => by simp [beqFr] at h
def beqSt (a b : Fr × Hp) : Bool := beqFr a.1 b.1 && beqHp a.2 b.2
theorem beqSt_ok {a b : Fr × Hp} (h : beqSt a b = true) : a = b := by
  simp only [beqSt, Bool.and_eq_true] at h
  exact Prod.ext (beqFr_ok h.1) (beqHp_ok h.2)
/-- how many operations that change something stand ahead -/
def rank : List Oper → Nat → Nat
  | [], _ => 0
  | _, 0 => 0
  | o :: l, i + 1 => match isLoud o.op with
    | true => rank l i + 1
    | false => rank l i
/-- one operation out of order -/
def aOne (P : Program) (N0 : Nat) (call : CallF) (ops : Array Oper) (Hs : Hp) (base : Option Nat) (tm : Fr) (H : Hp) (i : Nat) : Option (Fr × Hp) :=
  match ops[i]? with
  | none => none
  | some o => match Region.wanted o (yieldedL ops tm) with
    | true => match aDo P N0 call tm H (match base with | some b => b + rank ops.toList i | none => H.n) o with
      | some (tm', H') => match keepsB Hs H' with
        | true => some (tm', H')
        | false => none
      | none => none
    | false => putK tm o.dst undef fun tm => some (tm, H)
/-- all of a list come to the same -/
def allSame (f : Nat → Option (Fr × Hp)) : List Nat → Option (Fr × Hp)
  | [] => none
  | [i] => f i
  | i :: l => match f i, allSame f l with
    | some a, some b => match beqSt a b with
      | true => some a
      | false => none
    | _, _ => none
theorem allSame_ok {f : Nat → Option (Fr × Hp)} : ∀ {l : List Nat} {r : Fr × Hp}, allSame f l = some r → ∀ i ∈ l, f i = some r
  | [], r, h => by simp [allSame] at h
  | [i], r, h => by intro j hj; simp at hj; subst hj; exact h
  | i :: k :: l, r, h => by
    simp only [allSame] at h
    split at h
    · rename_i a b ha hb
      split at h
      · rename_i he
        simp only [Option.some.injEq] at h; subst h
        have := beqSt_ok he; subst this
        intro j hj
        cases hj with
        | head => exact ha
        | tail _ hj => exact allSame_ok hb j hj
      · cases h
    · cases h
def setBx {α : Type} (l : List Bool) (d : Nat) (k : List Bool → α) : α := match l, d with
  | [], _ => k []
  | _ :: l, 0 => k (true :: l)
  | a :: l, d + 1 => setBx l d fun m => k (a :: m)
theorem setB_eq {α : Type} (l : List Bool) (d : Nat) (k : List Bool → α) : setBx l d k = k (l.set d true) := by
  induction l generalizing d k with
  | nil => rfl
  | cons b l ih => cases d <;> simp [setBx, ih]
def lsK {α : Type} (l : Array Bool) (i : Nat) (k : Array Bool → α) : α := setBx l.toList i fun m => k ⟨m⟩
theorem lsK_eq {α : Type} (l : Array Bool) (i : Nat) (k : Array Bool → α) : lsK l i k = k (l.setIfInBounds i true) := by
  unfold lsK
  rw [setB_eq]
  congr 1
  apply Array.ext'; simp
def aAny (P : Program) (N0 : Nat) (call : CallF) (ops : Array Oper) (Hs : Hp) (base : Option Nat) : Nat → Array Bool → Fr → Hp → Option (Fr × Hp)
  | 0, listed, tm, H => match readyF ops listed with
    | [] => some (tm, H)
    | _ => none
  | n + 1, listed, tm, H => match readyF ops listed with
    | [] => some (tm, H)
    | rs => match firstQuiet P ops Hs listed tm rs with
      | some (i, d, v) => vk v fun v => putK tm d v fun tm => lsK listed i fun listed => aAny P N0 call ops Hs base n listed tm H
      | none => allSame (fun i => match aOne P N0 call ops Hs base tm H i with
        | some (tm', H') => lsK listed i fun listed => aAny P N0 call ops Hs base n listed tm' H'
        | none => none) rs
theorem firstQuiet_ok {ops : Array Oper} {Hs : Hp} {listed : Array Bool} {tm : Fr} : ∀ {l : List Nat} {i : Nat} {d : Option Tmp} {v : Value}, firstQuiet P ops Hs listed tm l = some (i, d, v) → i ∈ l ∧ aQuiet P ops Hs listed tm i = some (d, v)
  | [], _, _, _, h => by simp [firstQuiet] at h
  | j :: l, i, d, v, h => by
    simp only [firstQuiet] at h
    split at h
    · rename_i d' v' hq
      cases h
      exact ⟨by simp, hq⟩
    · obtain ⟨h1, h2⟩ := firstQuiet_ok h
      exact ⟨by simp [h1], h2⟩
theorem aAny_ok (hn : namesOk P = true) {call : CallF} (hc : CallOk P N0 w0 call) {ops : Array Oper} (hok : ∀ o ∈ ops.toList, opOk N0 o = true) (hsel : Region.noSelect ops = true) {Hs : Hp} {βs : Bs} {base : Option Nat}
    {tm' : Fr} {H' : Hp} : ∀ (n : Nat) {listed : Array Bool} {tm : Fr} {H : Hp} {β : Bs} {a : Act} {w : World}, aAny P N0 call ops Hs base n listed tm H = some (tm', H') → Ext βs β → Tm β tm a → HS N0 w0 β H w → HR N0 βs Hs w →
    wpAnyH P .any ops (fun e a' w' => e = .normal ∧ ∃ β', Ext βs β' ∧ Tm β' tm' a' ∧ HS N0 w0 β' H' w') (HR N0 βs Hs) n listed a w
  | 0, listed, tm, H, β, a, w, h, e, ht, hs, hS => by
    simp only [aAny, readyF_eq] at h
    split at h
    · rename_i hr
      simp only [Option.some.injEq, Prod.mk.injEq] at h
      obtain ⟨rfl, rfl⟩ := h
      exact wpAnyH_done hr ⟨rfl, β, e, ht, hs⟩ 0
    · cases h
  | n + 1, listed, tm, H, β, a, w, h, e, ht, hs, hS => by
    simp only [aAny, readyF_eq] at h
    split at h
    · rename_i hr
      simp only [Option.some.injEq, Prod.mk.injEq] at h
      obtain ⟨rfl, rfl⟩ := h
      exact wpAnyH_done hr ⟨rfl, β, e, ht, hs⟩ _
    · rename_i rs hne
      split at h
      · rename_i i d v hq
        simp only [vk_eq, putK_eq, lsK_eq] at h
        obtain ⟨hi, hq⟩ := firstQuiet_ok hq
        unfold aQuiet at hq
        split at hq
        · rename_i o ho
          have hoo : opOk N0 o = true := hok o (by have := Array.mem_of_getElem? ho; simpa using this)
          have key : Region.free .any ops listed i = true ∧ ∃ v', RV β v v' ∧ d = o.dst ∧ YieldsIf P ops (HR N0 βs Hs) o v' a := by
            split at hq
            · split at hq
              · cases hq
              · rename_i hw
                split at hq
                · rename_i hfree
                  cases hq
                  exact ⟨hfree, undef, .undef, rfl, .inr ⟨by rw [← yieldedL_ok ht]; exact hw, rfl⟩⟩
                · cases hq
            · split at hq
              · rename_i hfree
                refine ⟨hfree, ?_⟩
                split at hq
                · rename_i hw
                  split at hq
                  · rename_i v1 hop
                    cases hq
                    obtain ⟨v', _, hv⟩ := aQ_ok hoo hop ht (hS.ext e)
                    refine ⟨v', hv, rfl, .inl ⟨by rw [← yieldedL_ok ht]; exact hw, fun w' hS' => ?_⟩⟩
                    obtain ⟨v2, h7, hv2⟩ := aQ_ok hoo hop ht (hS'.ext e)
                    rw [hv.unique hv2]; exact h7
                  · cases hq
                · rename_i hw
                  cases hq
                  exact ⟨undef, .undef, rfl, .inr ⟨by rw [← yieldedL_ok ht]; exact hw, rfl⟩⟩
              · cases hq
          obtain ⟨hfree, v', hv, rfl, hy⟩ := key
          refine wpAnyH_take ho hsel hfree (by simpa using hi) (fun c a w h => by simp at h) hy hS ?_
          exact aAny_ok hn hc hok hsel n h e (ht.put _ hv) hs hS
        · cases hq
      · have hall := allSame_ok h
        refine wpAnyH_all rfl (by intro h0; exact hne h0) fun i hi => ?_
        have hi := hall i hi
        split at hi
        · rename_i tm1 H1 h1
          simp only [lsK_eq] at hi
          unfold aOne at h1
          unfold wpOp
          split at h1
          · cases h1
          · rename_i o ho
            have hoo : opOk N0 o = true := hok o (by have := Array.mem_of_getElem? ho; simpa using this)
            simp only [ho]
            rw [← yieldedL_ok ht]
            split at h1
            · rename_i hw
              rw [hw]
              simp only [if_true]
              split at h1
              · rename_i tm2 H2 hd
                split at h1
                · rename_i hk
                  cases h1
                  refine .inl (aDo_ok hn hc hoo hd ht hs fun β1 a1 w1 e1 ht1 hs1 => ⟨hS.weaken hs1.toHR (e.trans e1) (keepsB_ok hk), ?_⟩)
                  exact aAny_ok hn hc hok hsel n hi (e.trans e1) ht1 hs1 (hS.weaken hs1.toHR (e.trans e1) (keepsB_ok hk))
                · cases h1
              · cases h1
            · rename_i hw
              simp only [putK_eq] at h1
              cases h1
              rw [hw]
              simp only [Bool.false_eq_true, if_false]
              exact ⟨hS, aAny_ok hn hc hok hsel n hi e (ht.put _ .undef) hs hS⟩
        · cases hi
end
end Go.Proofs.Ytlieapapmkbbgaa

namespace Go.Proofs.Ytlieapapmkbbgaa
open Go Go.RowKit
set_option linter.unusedVariables false
set_option linter.unusedSimpArgs false

section
variable {P : Program} {N0 : Nat} {w0 w : World} {β : Bs} {H : Hp}

inductive AE where
  | normal
  | exit (id : Nat)
  | ret
def AE.to : AE → Exit
  | .normal => .normal
  | .exit id => .exit id
  | .ret => .ret
abbrev St := Fr × Hp
def opsOk (N0 : Nat) (ops : Array Oper) : Bool := ops.toList.all (opOk N0)
def loudN : List Oper → Nat
  | [] => 0
  | o :: l => match isLoud o.op with
    | true => loudN l + 1
    | false => loudN l
def aDraw (P : Program) (N0 : Nat) (call : CallF) (ops : Array Oper) (base : Option Nat) (tm : Fr) (H : Hp) : Option St :=
  match aAny P N0 call ops H base ops.size (Array.replicate ops.size false) tm H with
  | some r => some r
  | none => aAny P N0 call ops ⟨0, []⟩ base ops.size (Array.replicate ops.size false) tm H
def aRegion (P : Program) (N0 : Nat) (call : CallF) (ops : Array Oper) (draw : Bool) (s : St) : Option St :=
  match opsOk N0 ops with
  | true => match draw with
    | false => aOps P N0 call ops ops.toList s.1 s.2
    | true => match Region.noSelect ops with
      | true => match loudN ops.toList with
        | c + 2 => hpK 0 (s.2.put (s.2.n + (c + 1)) .resv) fun H => nk s.2.n fun b => aDraw P N0 call ops (some b) s.1 H
        | _ => aDraw P N0 call ops none s.1 s.2
      | false => none
  | false => none
def aCode (P : Program) (N0 : Nat) (call : CallF) : Nat → Code → St → Option (AE × St)
  | 0, _, _ => none
  | n + 1, c, s => match c with
    | .skip => some (.normal, s)
    | .label _ => some (.normal, s)
    | .region _ ops draw => match aRegion P N0 call ops draw s with
      | some s' => some (.normal, s')
      | none => none
    | .seq a b => match aCode P N0 call n a s with
      | some (.normal, s') => aCode P N0 call n b s'
      | r => r
    | .cond c a b => match evT s.1 c with
      | .bool true => aCode P N0 call n a s
      | .bool false => aCode P N0 call n b s
      | _ => none
    | .block id a => match aCode P N0 call n a s with
      | some (.exit id', s') => if id' = id then some (.normal, s') else some (.exit id', s')
      | r => r
    | .loop a => match aCode P N0 call n a s with
      | some (.normal, s') => aCode P N0 call n (.loop a) s'
      | r => r
    | .exit id => some (.exit id, s)
    | .ret => some (.ret, s)
    | _ => none

/-- what stands at an exit -/
def Post (N0 : Nat) (w0 : World) (β : Bs) (e : AE) (s : St) (x : Exit) (a : Act) (w : World) : Prop :=
  x = e.to ∧ ∃ β', Ext β β' ∧ Tm β' s.1 a ∧ HS N0 w0 β' s.2 w
theorem Hp.get_empty (i : Nat) : (⟨0, []⟩ : Hp).get i = .resv := by unfold Hp.get; split <;> rfl
theorem HR.empty (h : HR N0 β H w) : HR N0 β ⟨0, []⟩ w := ⟨fun i k hi => (by rw [Hp.get_empty] at hi; cases hi), h.glob⟩
theorem aDraw_ok (hn : namesOk P = true) (hm : P.follows .mixedOrders = true) {call : CallF} (hc : CallOk P N0 w0 call) {ops : Array Oper} (hok : ∀ o ∈ ops.toList, opOk N0 o = true) (hsel : Region.noSelect ops = true) {base : Option Nat} {id : Nat} {tm : Fr} {s' : St}
    (h : aDraw P N0 call ops base tm H = some s') {a : Act} (ht : Tm β tm a) (hs : HS N0 w0 β H w) : (Code.region id ops true).wp P (Post N0 w0 β .normal s') a w := by
  unfold aDraw at h
  split at h
  · rename_i r hr
    cases h
    exact wp_region_held hm (aAny_ok hn hc hok hsel (tm' := s'.1) (H' := s'.2) ops.size hr (Ext.refl _) ht hs.drew hs.drew.toHR)
  · exact wp_region_held hm (aAny_ok hn hc hok hsel (tm' := s'.1) (H' := s'.2) ops.size h (Ext.refl _) ht hs.drew hs.drew.toHR.empty)
theorem aRegion_ok (hn : namesOk P = true) (hm : P.follows .mixedOrders = true) {call : CallF} (hc : CallOk P N0 w0 call) {ops : Array Oper} {draw : Bool} {id : Nat} {tm : Fr} {s' : St} (h : aRegion P N0 call ops draw (tm, H) = some s') {a : Act} (ht : Tm β tm a) (hs : HS N0 w0 β H w) :
    (Code.region id ops draw).wp P (Post N0 w0 β .normal s') a w := by
  unfold aRegion at h
  split at h
  · rename_i hok
    have hok : ∀ o ∈ ops.toList, opOk N0 o = true := List.all_eq_true.1 hok
    split at h
    · have := aOps_ok hn hc ops hok (Q := Post N0 w0 β .normal s') ops.toList [] (tm' := s'.1) (H' := s'.2) rfl h ht hs fun β' a' w' e ht' hs' => ⟨rfl, β', e, ht', hs'⟩
      refine wp_region ?_
      rw [List.range_eq_range']
      simpa using this
    · split at h
      · rename_i hsel
        split at h
        · rename_i c hcnt
          simp only [hpK_eq, nk_eq] at h
          have hr : H.get (H.n + (c + 1)) = .resv := by
            have : Nat.blt (H.n + (c + 1)) H.n = false := by cases hb : Nat.blt (H.n + (c + 1)) H.n; rfl; have := blt_true.1 hb; omega
            simp [Hp.get, this]
          exact aDraw_ok hn hm hc hok hsel h ht (hs.reserve hr)
        · exact aDraw_ok hn hm hc hok hsel h ht hs
      · cases h
  · cases h

/-- a loop from its round on -/
def LoopWp (P : Program) (c : Code) (Q : Exit → Act → World → Prop) (a : Act) (w : World) : Prop :=
  ∀ (b : Frame) (k : List Item) (cs : List Frame), ∃ e a' w', Q e a' w' ∧ Arrives P (lone (b.at a (.code c :: .inLoop c :: k)) cs w) b k cs e a' w'
theorem LoopWp.loop {c : Code} {Q : Exit → Act → World → Prop} {a : Act} (h : LoopWp P c Q a w) : (Code.loop c).wp P Q a w := by
  intro b k cs
  obtain ⟨e, a', w', hq, harr⟩ := h b k cs
  exact ⟨e, a', w', hq, .of_steps (.one step_loop) harr⟩
theorem LoopWp.round {c : Code} {Q : Exit → Act → World → Prop} {a : Act} (h : c.wp P (Exit.then (LoopWp P c Q) Q) a w) : LoopWp P c Q a w := by
  intro b k cs
  obtain ⟨e, a₁, w₁, hq, harr⟩ := h b (.inLoop c :: k) cs
  cases e with
  | normal =>
    obtain ⟨e₂, a₂, w₂, hq₂, harr₂⟩ := hq b k cs
    exact ⟨e₂, a₂, w₂, hq₂, .of_steps (Steps.trans harr (.one step_inLoop)) harr₂⟩
  | exit id => exact ⟨_, a₁, w₁, hq, .pass (x := .inLoop c) rfl (fun _ _ => .inl (by simp)) harr⟩
  | goto l => exact ⟨_, a₁, w₁, hq, .pass (x := .inLoop c) rfl (fun _ _ => .inl (by simp)) harr⟩
  | ret => exact ⟨_, a₁, w₁, hq, .pass (x := .inLoop c) rfl (fun _ _ => .inl (by simp)) harr⟩
  | panic ch => exact ⟨_, a₁, w₁, hq, .pass (x := .inLoop c) rfl (fun _ _ => .inl (by simp)) harr⟩
  | outgrown => exact ⟨_, a₁, w₁, hq, .pass (x := .inLoop c) rfl (fun _ _ => .inl (by simp)) harr⟩

theorem Post.ext {β' : Bs} (e : Ext β β') {x : AE} {s : St} {ex : Exit} {a : Act} {w : World} (h : Post N0 w0 β' x s ex a w) : Post N0 w0 β x s ex a w := by
  obtain ⟨h1, b, h2, h3⟩ := h
  exact ⟨h1, b, e.trans h2, h3⟩
theorem aCode_ok (hn : namesOk P = true) (hm : P.follows .mixedOrders = true) {call : CallF} (hc : CallOk P N0 w0 call) : ∀ (n : Nat) {c : Code} {s s' : St} {x : AE} {β : Bs} {a : Act} {w : World}, aCode P N0 call n c s = some (x, s') → Tm β s.1 a → HS N0 w0 β s.2 w →
    c.wp P (Post N0 w0 β x s') a w ∧ ∀ d, c = .loop d → LoopWp P d (Post N0 w0 β x s') a w
  | 0, c, s, s', x, β, a, w, h, ht, hs => by simp [aCode] at h
  | n + 1, c, s, s', x, β, a, w, h, ht, hs => by
    have ih := @aCode_ok hn hm call hc n
    cases c with
    | skip =>
      simp only [aCode, Option.some.injEq, Prod.mk.injEq] at h
      obtain ⟨rfl, rfl⟩ := h
      exact ⟨wp_skip ⟨rfl, β, Ext.refl _, ht, hs⟩, fun d h => by cases h⟩
    | label l =>
      simp only [aCode, Option.some.injEq, Prod.mk.injEq] at h
      obtain ⟨rfl, rfl⟩ := h
      exact ⟨wp_label ⟨rfl, β, Ext.refl _, ht, hs⟩, fun d h => by cases h⟩
    | region id ops draw =>
      simp only [aCode] at h
      split at h
      · rename_i s1 hr
        cases h
        exact ⟨aRegion_ok hn hm hc (tm := s.1) (H := s.2) hr ht hs, fun d h => by cases h⟩
      · cases h
    | seq c1 c2 =>
      refine ⟨?_, fun d h => by cases h⟩
      simp only [aCode] at h
      cases h1 : aCode P N0 call n c1 s with
      | none => rw [h1] at h; cases h
      | some r =>
        obtain ⟨x1, s1⟩ := r
        rw [h1] at h
        refine wp_seq (wp_mono (ih h1 ht hs).1 ?_)
        rintro ex a1 w1 ⟨rfl, β1, e1, ht1, hs1⟩
        cases x1 with
        | normal => exact wp_mono (ih h ht1 hs1).1 fun _ _ _ hp => hp.ext e1
        | exit id => cases h; exact ⟨rfl, β1, e1, ht1, hs1⟩
        | ret => cases h; exact ⟨rfl, β1, e1, ht1, hs1⟩
    | cond cc c1 c2 =>
      refine ⟨?_, fun d h => by cases h⟩
      simp only [aCode] at h
      have hv : ∀ b, evT s.1 cc = .bool b → a.eval cc = .bool b := by
        intro b hb
        cases cc with
        | tmp t =>
          have := ht.1 t
          simp only [evT] at hb
          rw [hb] at this
          exact this.bool_inv
        | const v => exact hb
        | global g => simp [evT] at hb
        | func f => simp [evT] at hb
      split at h
      · rename_i hb
        exact wp_cond_true (hv _ hb) (ih h ht hs).1
      · rename_i hb
        exact wp_cond_false (hv _ hb) (ih h ht hs).1
      · cases h
    | block id c1 =>
      refine ⟨?_, fun d h => by cases h⟩
      simp only [aCode] at h
      cases h1 : aCode P N0 call n c1 s with
      | none => rw [h1] at h; cases h
      | some r =>
        obtain ⟨x1, s1⟩ := r
        rw [h1] at h
        refine wp_block (wp_mono (ih h1 ht hs).1 ?_)
        rintro ex a1 w1 ⟨rfl, β1, e1, ht1, hs1⟩
        cases x1 with
        | normal => cases h; exact ⟨rfl, β1, e1, ht1, hs1⟩
        | ret => cases h; exact ⟨rfl, β1, e1, ht1, hs1⟩
        | exit id' =>
          simp only [AE.to, Exit.inBlock]
          simp only at h
          split at h
          · rename_i hid
            cases h
            rw [if_pos hid]
            exact ⟨rfl, β1, e1, ht1, hs1⟩
          · rename_i hid
            cases h
            rw [if_neg hid]
            exact ⟨rfl, β1, e1, ht1, hs1⟩
    | loop d =>
      have key : LoopWp P d (Post N0 w0 β x s') a w := by
        simp only [aCode] at h
        cases h1 : aCode P N0 call n d s with
        | none => rw [h1] at h; cases h
        | some r =>
          obtain ⟨x1, s1⟩ := r
          rw [h1] at h
          refine .round (wp_mono (ih h1 ht hs).1 ?_)
          rintro ex a1 w1 ⟨rfl, β1, e1, ht1, hs1⟩
          cases x1 with
          | normal =>
            have h2 := (ih h ht1 hs1).2 d rfl
            intro b k cs
            obtain ⟨e, a', w', hq, harr⟩ := h2 b k cs
            exact ⟨e, a', w', hq.ext e1, harr⟩
          | exit id => cases h; exact ⟨rfl, β1, e1, ht1, hs1⟩
          | ret => cases h; exact ⟨rfl, β1, e1, ht1, hs1⟩
      exact ⟨key.loop, fun d' h' => by cases h'; exact key⟩
    | exit id =>
      simp only [aCode, Option.some.injEq, Prod.mk.injEq] at h
      obtain ⟨rfl, rfl⟩ := h
      exact ⟨wp_exit ⟨rfl, β, Ext.refl _, ht, hs⟩, fun d h => by cases h⟩
    | ret =>
      simp only [aCode, Option.some.injEq, Prod.mk.injEq] at h
      obtain ⟨rfl, rfl⟩ := h
      exact ⟨wp_ret ⟨rfl, β, Ext.refl _, ht, hs⟩, fun d h => by cases h⟩
    | rangeFunc _ _ _ _ => simp [aCode] at h
    | scope _ => simp [aCode] at h
    | goto _ => simp [aCode] at h
    | refuse _ => simp [aCode] at h

def aRes (P : Program) (H : Hp) (tm : Fr) : ResultVar → Option Value
  | .tmp t => some (tm.get t)
  | .cell a t => aLoad P H t (tm.get a)
def aRess (P : Program) (H : Hp) (tm : Fr) : List ResultVar → Option (List Value)
  | [] => some []
  | r :: l => match aRes P H tm r, aRess P H tm l with
    | some v, some m => some (v :: m)
    | _, _ => none
def notTup : Value → Bool
  | .tuple _ => false
  | _ => true
def aResults (P : Program) (H : Hp) (fn : Func) (tm : Fr) : Option Value :=
  match aRess P H tm fn.results.toList with
  | some [v] => some v
  | some l => if l.all notTup then some (.tuple l.toArray) else none
  | none => none
def resOf (tmps : Array Value) : ResultVar → Sem Value
  | .tmp t => pure (tmps.getD t undef)
  | .cell a t => do loadVar t (← asAddr (tmps.getD a undef))
theorem aRes_ok {tm : Fr} {a : Act} {r : ResultVar} {v : Value} (h : aRes P H tm r = some v) (ht : Tm β tm a) (hs : HS N0 w0 β H w) : ∃ v', (resOf a.tmps r).run P w = .ok v' w ∧ RV β v v' := by
  cases r with
  | tmp t =>
    simp only [aRes, Option.some.injEq] at h; subst h
    exact ⟨a.tmps.getD t undef, rfl, ht.1 t⟩
  | cell p t =>
    simp only [aRes] at h
    have hp : RV β (tm.get p) (a.tmps.getD p undef) := ht.1 p
    obtain ⟨u', h1, h2⟩ := aLoad_ok h hp hs.toHR
    refine ⟨u', ?_, h2⟩
    unfold aLoad at h
    split at h
    · rename_i i off hq
      rw [hq] at hp
      obtain ⟨b, x, hb, he⟩ := hp.ptr_inv
      simp only [resOf, Sem.run_bind]
      rw [he] at h1 ⊢
      simpa [Instr.loadAt, Instr.sureAddr, asAddr] using h1
    · cases h
theorem aRess_ok {tm : Fr} {a : Act} (ht : Tm β tm a) (hs : HS N0 w0 β H w) : ∀ {l : List ResultVar} {vs : List Value}, aRess P H tm l = some vs → ∃ vs', (l.mapM (resOf a.tmps)).run P w = .ok vs' w ∧ All2 (RV β) vs vs'
  | [], vs, h => by simp only [aRess, Option.some.injEq] at h; subst h; exact ⟨[], rfl, .nil⟩
  | r :: l, vs, h => by
    simp only [aRess] at h
    split at h
    · rename_i v m hv hm
      simp only [Option.some.injEq] at h; subst h
      obtain ⟨v', h1, h2⟩ := aRes_ok hv ht hs
      obtain ⟨vs', h3, h4⟩ := aRess_ok ht hs hm
      exact ⟨v' :: vs', by simp [List.mapM_cons, h1, h3], .cons h2 h4⟩
    · cases h
theorem aResults_ok {fn : Func} {tm : Fr} {a : Act} {v : Value} (h : aResults P H fn tm = some v) (ht : Tm β tm a) (hs : HS N0 w0 β H w) : ∃ v', (results fn a.tmps).run P w = .ok v' w ∧ RV β v v' := by
  unfold aResults at h
  have hm : ∀ vs', (fn.results.toList.mapM (resOf a.tmps)).run P w = .ok vs' w → (results fn a.tmps).run P w = .ok (if h : vs'.toArray.size = 1 then vs'.toArray[0] else .tuple vs'.toArray) w := by
    intro vs' h1
    have e : results fn a.tmps = (do let vs ← fn.results.mapM (resOf a.tmps); pure (if h : vs.size = 1 then vs[0] else .tuple vs)) := rfl
    rw [e, Array.mapM_eq_mapM_toList]
    simp [h1]
  split at h
  · rename_i u hl
    simp only [Option.some.injEq] at h; subst h
    obtain ⟨vs', h1, h2⟩ := aRess_ok ht hs hl
    cases h2 with | cons h3 h4 =>
    cases h4
    exact ⟨_, hm _ h1, by simpa using h3⟩
  · rename_i l hne hl
    split at h
    · rename_i hall
      simp only [Option.some.injEq] at h; subst h
      obtain ⟨vs', h1, h2⟩ := aRess_ok ht hs hl
      refine ⟨_, hm _ h1, ?_⟩
      have hlen := h2.length
      have hsz : ¬ vs'.toArray.size = 1 := by
        intro e
        rw [List.size_toArray, ← hlen] at e
        match l, e with
        | [u], _ => exact hne u rfl
      rw [dif_neg hsz]
      refine .tup ?_
      have : ∀ {l l' : List Value}, l.all notTup = true → All2 (RV β) l l' → All2 (R1 β) l l' := by
        intro l l' hall h
        induction h with
        | nil => exact .nil
        | cons h _ ih =>
          simp only [List.all_cons, Bool.and_eq_true] at hall
          refine .cons ?_ (ih hall.2)
          cases h with
          | one h => exact h
          | tup _ => simp [notTup] at hall
      exact this hall h2
    · cases h
  · cases h

/-- a new frame, row by row -/
def rowK {α : Type} (n : Nat) (l : List Value) (k : List Value → List Value → α) : α := match n, l with
  | n + 1, v :: l => rowK n l fun r l => k (v :: r) l
  | _, l => k [] l
theorem rowK_eq {α : Type} (n : Nat) (l : List Value) (k : List Value → List Value → α) : rowK n l k = k (l.take n) (l.drop n) := by
  induction n generalizing l k with
  | zero => cases l <;> simp [rowK]
  | succ n ih => cases l <;> simp [rowK, ih]
def frK {α : Type} (n : Nat) (l : List Value) (k : Fr → α) : α := match n with
  | 0 => k []
  | n + 1 => match l with
    | [] => k []
    | v :: l => rowK 8 (v :: l) fun r l => frK n l fun f => k (r :: f)
theorem frK_eq {α : Type} (n : Nat) (l : List Value) (k : Fr → α) : frK n l k = k (chunk n l) := by
  induction n generalizing l k with
  | zero => rfl
  | succ n ih => cases l with
    | nil => rfl
    | cons v l => simp only [frK, rowK_eq, ih]; rfl
def FUEL : Nat := 100000000
def aFun (P : Program) (N0 : Nat) : Nat → CallF
  | 0, _, _, _ => none
  | n + 1, f, args, H => match P.funcs[f]? with
    | some fn => match fn.body with
      | some c => frK (args ++ List.replicate (fn.ntmps - args.length) undef).length (args ++ List.replicate (fn.ntmps - args.length) undef) fun tm => match aCode P N0 (aFun P N0 n) FUEL c (tm, H) with
        | some (.normal, s) | some (.ret, s) => match aResults P s.2 fn s.1 with
          | some v => vk v fun v => some (v, s.2)
          | none => none
        | _ => none
      | none => none
    | none => none
theorem aFun_ok (hn : namesOk P = true) (hm : P.follows .mixedOrders = true) : ∀ n, CallOk P N0 w0 (aFun P N0 n)
  | 0 => by intro f args args' β H w v H' h; simp [aFun] at h
  | n + 1 => by
    intro f args args' β H w v H' h hfn ha hs
    simp only [aFun] at h
    split at h
    · rename_i fn hf
      split at h
      · rename_i c hb
        simp only [frK_eq, vk_eq] at h
        have ht : Tm β (chunk (args ++ List.replicate (fn.ntmps - args.length) undef).length (args ++ List.replicate (fn.ntmps - args.length) undef)) { tmps := args'.toArray ++ Array.replicate (fn.ntmps - args'.toArray.size) undef, defers := [] } := by
          have hall : All2 (RV β) (args ++ List.replicate (fn.ntmps - args.length) undef) (args'.toArray ++ Array.replicate (fn.ntmps - args'.toArray.size) undef).toList := by
            simp only [Array.toList_append, Array.toList_replicate, List.size_toArray]
            rw [← ha.length]
            exact ha.append (All2.self fun x hx => by rw [List.mem_replicate] at hx; rw [hx.2]; exact .undef)
          generalize args ++ List.replicate (fn.ntmps - args.length) undef = L at hall
          generalize args'.toArray ++ Array.replicate (fn.ntmps - args'.toArray.size) undef = A at hall
          refine ⟨fun t => ?_, rfl, fun t => ?_⟩
          · rw [(chunk_ok L.length L t (Nat.le_refl _)).1]
            have := hall.getD RV.undef t
            simpa using this
          · rw [(chunk_ok L.length L t (Nat.le_refl _)).2, hall.length]; simp
        have fin : ∀ (x : AE) (s : St), (x = .normal ∨ x = .ret) → aCode P N0 (aFun P N0 n) FUEL c (chunk (args ++ List.replicate (fn.ntmps - args.length) undef).length (args ++ List.replicate (fn.ntmps - args.length) undef), H) = some (x, s) → aResults P s.2 fn s.1 = some v → s.2 = H' →
            Calls P f args'.toArray w fun e w' => ∃ v' β', e = .returned v' ∧ Ext β β' ∧ RV β' v v' ∧ HS N0 w0 β' H' w' := by
          rintro x s hx hcode hres rfl
          refine calls_of_wp hf hb (wp_mono (aCode_ok hn hm (aFun_ok hn hm n) FUEL hcode ht hs).1 ?_)
          rintro ex a1 w1 ⟨rfl, β1, e1, ht1, hs1⟩
          obtain ⟨v', h1, h2⟩ := aResults_ok hres ht1 hs1
          rcases hx with rfl | rfl
          · exact ⟨ht1.2.1, v', h1, v', β1, rfl, e1, h2, hs1⟩
          · exact ⟨ht1.2.1, v', h1, v', β1, rfl, e1, h2, hs1⟩
        split at h
        · rename_i s hcode
          split at h
          · rename_i u hres
            simp only [Option.some.injEq, Prod.mk.injEq] at h
            obtain ⟨rfl, rfl⟩ := h
            exact fin .normal s (.inl rfl) hcode hres rfl
          · cases h
        · rename_i s hcode
          split at h
          · rename_i u hres
            simp only [Option.some.injEq, Prod.mk.injEq] at h
            obtain ⟨rfl, rfl⟩ := h
            exact fin .ret s (.inr rfl) hcode hres rfl
          · cases h
        · cases h
      · cases h
    · cases h

/-- a call without package-level variables, of flatX arguments, with a flatX result -/
theorem HS.start (w : World) : HS 0 w (fun _ => none) ⟨0, []⟩ w := by
  have hx := Hp.get_empty
  refine { rd := ?_, blk := ?_, glob := fun i hi => absurd hi (by omega), gsz := Nat.zero_le _, wf := rfl, below := Below.refl _ _, resv := fun _ _ => rfl, own := ?_, inj := ?_ }
  · intro i k h; rw [hx] at h; cases h
  · intro i k _ h; rw [hx] at h; cases h
  · intro i b x _ h; cases h
  · intro i j ki kj bi bj _ _ h; rw [hx] at h; cases h
def runs (P : Program) (n : Nat) (f : FuncId) (args : List Value) : Option Value := match aFun P 0 n f args ⟨0, []⟩ with | some (v, _) => some v | none => none
theorem calls_closed (hn : namesOk P = true) (hm : P.follows .mixedOrders = true) {n : Nat} {f : FuncId} {args : List Value} {v : Value} (hr : runs P n f args = some v) (hf : isFn P f = true) (ha : args.all flatX = true) (hv : flatX v = true) (w : World) :
    Calls P f args.toArray w fun e w' => e = .returned v ∧ Below w.heap.size w w' := by
  unfold runs at hr
  split at hr
  · rename_i u H' h
    cases hr
    refine (aFun_ok hn hm n f args args _ _ w v H' h hf (All2.self fun x hx => .of_flat (List.all_eq_true.1 ha x hx)) (HS.start w)).mono ?_
    rintro e w' ⟨v', β', rfl, _, h2, h3⟩
    exact ⟨by rw [h2.eq_flat hv], h3.below⟩
  · cases hr
end
end Go.Proofs.Ytlieapapmkbbgaa

namespace Go.Proofs.Ytlieapapmkbbgaa
open Go Go.RowKit
set_option linter.unusedVariables false

theorem names_ok39 : namesOk Try.prog = true := by kernel_rfl
theorem mixed_ok39 : Try.prog.follows .mixedOrders = true := by kernel_rfl
theorem lives39 (w : World) : Calls Try.prog 7 #[] w fun e w' => e = .returned (.bool true) ∧ Below w.heap.size w w' :=
  calls_closed names_ok39 mixed_ok39 (n := 60) (args := []) (by kernel_rfl) (by kernel_rfl) rfl rfl w
end Go.Proofs.Ytlieapapmkbbgaa
