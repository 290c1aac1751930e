/- A runner: concrete calls carried out by the kernel on lists, whatever the world, its order of evaluation, its new blocks' numbers and its capacities. Part A: values, blocks, and how they stand for a world's. -/
import Derived.OrdersHeld
import Derived.Laws.AppendOwn
import Derived.Laws.CopyRow
import Derived.Laws.MakeOwn
import Derived.Laws.Slices
import Derived.Laws.Build
import Derived.Laws.Pointers
import Derived.Below
import Derived.KernelRfl
namespace Go.Proofs.Ytmmhoemddfncmaa
open Go Go.RowKit
set_option linter.unusedVariables false
set_option linter.unusedSimpArgs false

inductive All2 {α β : Type} (R : α → β → Prop) : List α → List β → Prop
  | nil : All2 R [] []
  | cons {a : α} {b : β} {l : List α} {m : List β} : R a b → All2 R l m → All2 R (a :: l) (b :: m)
namespace All2
variable {α β : Type} {R S : α → β → Prop}
theorem length {l : List α} {m : List β} (h : All2 R l m) : l.length = m.length := by
  induction h with
  | nil => rfl
  | cons _ _ ih => simp [ih]
theorem mono {l : List α} {m : List β} (h : All2 R l m) (hr : ∀ a b, R a b → S a b) : All2 S l m := by
  induction h with
  | nil => exact .nil
  | cons h _ ih => exact .cons (hr _ _ h) ih
theorem get {l : List α} {m : List β} (h : All2 R l m) : ∀ {i : Nat} {a : α}, l[i]? = some a → ∃ b, m[i]? = some b ∧ R a b := by
  induction h with
  | nil => intro i a h; simp at h
  | cons h _ ih =>
    intro i a' ha
    cases i with
    | zero => simp at ha; subst ha; exact ⟨_, by simp, h⟩
    | succ i => simp at ha; obtain ⟨b, hb, hr⟩ := ih ha; exact ⟨b, by simpa using hb, hr⟩
theorem getD {l : List α} {m : List β} (h : All2 R l m) {d : α} {e : β} (hd : R d e) (i : Nat) : R (l.getD i d) (m.getD i e) := by
  cases ha : l[i]? with
  | some a => obtain ⟨b, hb, hr⟩ := h.get ha; simp [List.getD, ha, hb, hr]
  | none =>
    have : m[i]? = none := by rw [List.getElem?_eq_none_iff] at ha ⊢; rw [← h.length]; exact ha
    simp [List.getD, ha, this, hd]
theorem append {l l' : List α} {m m' : List β} (h : All2 R l m) (h' : All2 R l' m') : All2 R (l ++ l') (m ++ m') := by
  induction h with
  | nil => exact h'
  | cons h _ ih => exact .cons h ih
theorem take {l : List α} {m : List β} (h : All2 R l m) : ∀ n, All2 R (l.take n) (m.take n) := by
  induction h with
  | nil => intro n; simp; exact .nil
  | cons h _ ih => intro n; cases n with
    | zero => simp; exact .nil
    | succ n => simp; exact .cons h (ih n)
theorem drop {l : List α} {m : List β} (h : All2 R l m) : ∀ n, All2 R (l.drop n) (m.drop n) := by
  induction h with
  | nil => intro n; simp; exact .nil
  | cons h hh ih => intro n; cases n with
    | zero => simp; exact .cons h hh
    | succ n => simp; exact ih n
theorem set {l : List α} {m : List β} (h : All2 R l m) {a : α} {b : β} (hr : R a b) : ∀ n, All2 R (l.set n a) (m.set n b) := by
  induction h with
  | nil => intro n; simp; exact .nil
  | cons h hh ih => intro n; cases n with
    | zero => simp; exact .cons hr hh
    | succ n => simp; exact .cons h (ih n)
theorem map {γ : Type} {l : List γ} {f : γ → α} {g : γ → β} (h : ∀ x ∈ l, R (f x) (g x)) : All2 R (l.map f) (l.map g) := by
  induction l with
  | nil => exact .nil
  | cons x l ih => exact .cons (h x (by simp)) (ih fun y hy => h y (by simp [hy]))
theorem self {R : α → α → Prop} {l : List α} (h : ∀ x ∈ l, R x x) : All2 R l l := by
  induction l with
  | nil => exact .nil
  | cons x l ih => exact .cons (h x (by simp)) (ih fun y hy => h y (by simp [hy]))
theorem eq_of {R : α → α → Prop} {l m : List α} (h : All2 R l m) (hr : ∀ a b, a ∈ l → R a b → b = a) : m = l := by
  induction h with
  | nil => rfl
  | cons h _ ih => rw [hr _ _ (by simp) h, ih fun a b ha => hr a b (by simp [ha])]
end All2

/-- no address in it -/
def flat0 : Value → Bool
  | .bool _ | .int _ _ | .float _ _ | .complex _ _ _ | .string _ | .pointer none | .slice none _ _ | .map none | .chan none | .nilFunc | .nilIface => true
  | .iface _ (.bool _) | .iface _ (.int _ _) | .iface _ (.string _) => true
  | _ => false
def flatA : Value → Bool
  | .agg cs => cs.toList.all flat0
  | v => flat0 v
def flatL : Value → Bool
  | .func _ f c => f.toList.all flatA && c.toList.all flatA
  | v => flat0 v
def flat1 : Value → Bool
  | .agg cs => cs.toList.all flatL
  | v => flatL v
def flat : Value → Bool
  | .tuple vs => vs.toList.all flat1
  | v => flat1 v

abbrev Bs := Nat → Option (Nat × Nat)
/-- a slice whose capacity is known stands with a mark -/
def xo (sp : Option Nat) (x : Nat) : Nat := match sp with
  | none => x
  | some _ => 0
inductive Rb (β : Bs) : Value → Value → Prop
  | flat {v : Value} : flat0 v = true → Rb β v v
  | ptr {i b x o : Nat} : β i = some (b, x) → Rb β (.pointer (some ⟨i, o, none⟩)) (.pointer (some ⟨b, o, none⟩))
  | slc {i b x o n c : Nat} {sp : Option Nat} : β i = some (b, x) → Rb β (.slice (some ⟨i, o, sp⟩) n c) (.slice (some ⟨b, o, none⟩) n (c + xo sp x))
inductive Ra (β : Bs) : Value → Value → Prop
  | base {v v' : Value} : Rb β v v' → Ra β v v'
  | agg {l l' : List Value} : All2 (Rb β) l l' → Ra β (.agg l.toArray) (.agg l'.toArray)
inductive R0 (β : Bs) : Value → Value → Prop
  | base {v v' : Value} : Rb β v v' → R0 β v v'
  | func {fn : Fn} {f f' c c' : List Value} : All2 (Ra β) f f' → All2 (Ra β) c c' → R0 β (.func fn f.toArray c.toArray) (.func fn f'.toArray c'.toArray)
inductive R1 (β : Bs) : Value → Value → Prop
  | base {v v' : Value} : R0 β v v' → R1 β v v'
  | agg {l l' : List Value} : All2 (R0 β) l l' → R1 β (.agg l.toArray) (.agg l'.toArray)
inductive RV (β : Bs) : Value → Value → Prop
  | one {v v' : Value} : R1 β v v' → RV β v v'
  | tup {l l' : List Value} : All2 (R1 β) l l' → RV β (.tuple l.toArray) (.tuple l'.toArray)
def Ext (β β' : Bs) : Prop := ∀ (i : Nat) (x : Nat × Nat), β i = some x → β' i = some x
theorem Ext.refl (β : Bs) : Ext β β := fun _ _ h => h
theorem Ext.trans {a b c : Bs} (h : Ext a b) (k : Ext b c) : Ext a c := fun i x hx => k i x (h i x hx)
def upd (β : Bs) (j : Nat) (x : Nat × Nat) : Bs := fun i => if i = j then some x else β i
theorem upd_same (β : Bs) (j : Nat) (x : Nat × Nat) : upd β j x j = some x := by simp [upd]
theorem upd_other (β : Bs) {i j : Nat} (x : Nat × Nat) (h : i ≠ j) : upd β j x i = β i := by simp [upd, h]
theorem Ext.upd {β : Bs} {j : Nat} (h : β j = none) (x : Nat × Nat) : Ext β (upd β j x) := fun i y hy => by
  by_cases e : i = j
  · subst e; rw [h] at hy; cases hy
  · rw [upd_other _ _ e]; exact hy
theorem Ra.of_flat {β : Bs} {v : Value} (hf : flatA v = true) : Ra β v v := by
  by_cases h : flat0 v = true
  · exact .base (.flat h)
  · cases v <;> first | exact absurd hf h | skip
    rename_i cs
    simp only [flatA, List.all_eq_true] at hf
    have := Ra.agg (β := β) (All2.self (R := Rb β) (l := cs.toList) fun x hx => .flat (hf x hx))
    simpa using this
theorem R0.flat {β : Bs} {v : Value} (hf : flatL v = true) : R0 β v v := by
  by_cases h : flat0 v = true
  · exact .base (.flat h)
  · cases v <;> first | exact absurd hf h | skip
    rename_i fn f c
    simp only [flatL, Bool.and_eq_true, List.all_eq_true] at hf
    have := R0.func (β := β) (fn := fn) (All2.self (R := Ra β) (l := f.toList) fun x hx => .of_flat (hf.1 x hx)) (All2.self (R := Ra β) (l := c.toList) fun x hx => .of_flat (hf.2 x hx))
    simpa using this
theorem R0.ptr {β : Bs} {i b x o : Nat} (h : β i = some (b, x)) : R0 β (.pointer (some ⟨i, o, none⟩)) (.pointer (some ⟨b, o, none⟩)) := .base (.ptr h)
theorem R0.slc {β : Bs} {i b x o n c : Nat} (h : β i = some (b, x)) : R0 β (.slice (some ⟨i, o, none⟩) n c) (.slice (some ⟨b, o, none⟩) n (c + x)) := .base (.slc (sp := none) h)
theorem R0.slp {β : Bs} {i b x o n c : Nat} {sp : Option Nat} (h : β i = some (b, x)) : R0 β (.slice (some ⟨i, o, sp⟩) n c) (.slice (some ⟨b, o, none⟩) n (c + xo sp x)) := .base (.slc h)
theorem Rb.mono {β β' : Bs} (e : Ext β β') {v v' : Value} (h : Rb β v v') : Rb β' v v' := by
  cases h with
  | flat h => exact .flat h
  | ptr h => exact .ptr (e _ _ h)
  | slc h => exact .slc (e _ _ h)
theorem Ra.mono {β β' : Bs} (e : Ext β β') {v v' : Value} (h : Ra β v v') : Ra β' v v' := by
  cases h with
  | base h => exact .base (h.mono e)
  | agg h => exact .agg (h.mono fun _ _ => Rb.mono e)
theorem R0.mono {β β' : Bs} (e : Ext β β') {v v' : Value} (h : R0 β v v') : R0 β' v v' := by
  cases h with
  | base h => exact .base (h.mono e)
  | func h k => exact .func (h.mono fun _ _ => Ra.mono e) (k.mono fun _ _ => Ra.mono e)
theorem R1.mono {β β' : Bs} (e : Ext β β') {v v' : Value} (h : R1 β v v') : R1 β' v v' := by
  cases h with
  | base h => exact .base (h.mono e)
  | agg h => exact .agg (h.mono fun _ _ => R0.mono e)
theorem RV.mono {β β' : Bs} (e : Ext β β') {v v' : Value} (h : RV β v v') : RV β' v v' := by
  cases h with
  | one h => exact .one (h.mono e)
  | tup h => exact .tup (h.mono fun _ _ => R1.mono e)
theorem Rb.eq_flat {β : Bs} {v v' : Value} (h : Rb β v v') (hf : flat0 v = true) : v' = v := by
  cases h with
  | flat _ => rfl
  | ptr _ => simp [flat0] at hf
  | slc _ => simp [flat0] at hf
theorem Ra.eq_flat {β : Bs} {v v' : Value} (h : Ra β v v') (hf : flatA v = true) : v' = v := by
  cases h with
  | base h =>
    refine h.eq_flat ?_
    cases h with
    | flat h => exact h
    | ptr _ => exact hf
    | slc _ => exact hf
  | agg h =>
    simp only [flatA, List.all_eq_true] at hf
    rw [h.eq_of fun a b ha hr => hr.eq_flat (hf a ha)]
theorem R0.eq_flat {β : Bs} {v v' : Value} (h : R0 β v v') (hf : flatL v = true) : v' = v := by
  cases h with
  | base h =>
    refine h.eq_flat ?_
    cases h with
    | flat h => exact h
    | ptr _ => exact hf
    | slc _ => exact hf
  | func h k =>
    simp only [flatL, Bool.and_eq_true, List.all_eq_true] at hf
    rw [h.eq_of fun a b ha hr => hr.eq_flat (hf.1 a ha), k.eq_of fun a b ha hr => hr.eq_flat (hf.2 a ha)]
theorem flatL_of {v : Value} (h : flat0 v = true) : flatL v = true := by cases v <;> simp_all [flat0, flatL]
theorem R1.eq_flat {β : Bs} {v v' : Value} (h : R1 β v v') (hf : flat1 v = true) : v' = v := by
  cases h with
  | base h =>
    refine h.eq_flat ?_
    cases h with
    | base h => cases h with
      | flat h => exact flatL_of h
      | ptr _ => exact hf
      | slc _ => exact hf
    | func _ _ => exact hf
  | agg h =>
    simp only [flat1, List.all_eq_true] at hf
    rw [h.eq_of fun a b ha hr => hr.eq_flat (hf a ha)]
theorem RV.eq_flat {β : Bs} {v v' : Value} (h : RV β v v') (hf : flat v = true) : v' = v := by
  cases h with
  | one h =>
    refine h.eq_flat ?_
    cases h with
    | base h => cases h with
      | base h => cases h with
        | flat h => have := flatL_of h; revert hf; cases v <;> simp_all [flat, flat1, flatL, flat0]
        | ptr _ => exact hf
        | slc _ => exact hf
      | func _ _ => exact hf
    | agg _ => exact hf
  | tup h =>
    simp only [flat, List.all_eq_true] at hf
    rw [h.eq_of fun a b ha hr => hr.eq_flat (hf a ha)]
theorem R1.of_flat {β : Bs} {v : Value} (hf : flat1 v = true) : R1 β v v := by
  by_cases h : flatL v = true
  · exact .base (.flat h)
  · cases v <;> first | exact absurd hf h | skip
    rename_i cs
    simp only [flat1, List.all_eq_true] at hf
    have := R1.agg (β := β) (All2.self (R := R0 β) (l := cs.toList) fun x hx => .flat (hf x hx))
    simpa using this
theorem RV.of_flat {β : Bs} {v : Value} (hf : flat v = true) : RV β v v := by
  by_cases h : flat1 v = true
  · exact .one (.of_flat h)
  · cases v <;> first | exact absurd hf h | skip
    rename_i cs
    simp only [flat, List.all_eq_true] at hf
    have := RV.tup (β := β) (All2.self (R := R1 β) (l := cs.toList) fun x hx => .of_flat (hf x hx))
    simpa using this
theorem RV.undef {β : Bs} : RV β undef undef := .of_flat rfl

/-- what each operand shape stands for -/
theorem RV.int_inv {β : Bs} {k : IntKind} {n : Int} {v' : Value} (h : RV β (.int k n) v') : v' = .int k n := h.eq_flat rfl
theorem RV.bool_inv {β : Bs} {b : Bool} {v' : Value} (h : RV β (.bool b) v') : v' = .bool b := h.eq_flat rfl
theorem RV.ptr_inv {β : Bs} {i o : Nat} {v' : Value} (h : RV β (.pointer (some ⟨i, o, none⟩)) v') : ∃ b x, β i = some (b, x) ∧ v' = .pointer (some ⟨b, o, none⟩) := by
  cases h with | one h => cases h with | base h => cases h with | base h => cases h with
    | flat h => simp [flat0] at h
    | ptr h => exact ⟨_, _, h, rfl⟩
theorem RV.slp_inv {β : Bs} {i o n c : Nat} {sp : Option Nat} {v' : Value} (h : RV β (.slice (some ⟨i, o, sp⟩) n c) v') : ∃ b x, β i = some (b, x) ∧ v' = .slice (some ⟨b, o, none⟩) n (c + xo sp x) := by
  cases h with | one h => cases h with | base h => cases h with | base h => cases h with
    | flat h => simp [flat0] at h
    | slc h => exact ⟨_, _, h, rfl⟩
theorem RV.slc_inv {β : Bs} {i o n c : Nat} {v' : Value} (h : RV β (.slice (some ⟨i, o, none⟩) n c) v') : ∃ b x, β i = some (b, x) ∧ v' = .slice (some ⟨b, o, none⟩) n (c + x) := h.slp_inv
theorem RV.agg_inv {β : Bs} {l : Array Value} {v' : Value} (h : RV β (.agg l) v') : ∃ l' : List Value, All2 (R0 β) l.toList l' ∧ v' = .agg l'.toArray := by
  cases h with | one h => cases h with
    | base h => cases h with | base h => cases h with
      | flat h => simp [flat0] at h
    | agg h => exact ⟨_, h, rfl⟩
theorem RV.tup_inv {β : Bs} {l : Array Value} {v' : Value} (h : RV β (.tuple l) v') : ∃ l' : List Value, All2 (R1 β) l.toList l' ∧ v' = .tuple l'.toArray := by
  cases h with
  | one h => cases h with
    | base h => cases h with | base h => cases h with
      | flat h => simp [flat0] at h
  | tup h => exact ⟨_, h, rfl⟩
theorem RV.func_inv {β : Bs} {fn : Fn} {f c : Array Value} {v' : Value} (h : RV β (.func fn f c) v') : ∃ f' c' : List Value, All2 (Ra β) f.toList f' ∧ All2 (Ra β) c.toList c' ∧ v' = .func fn f'.toArray c'.toArray := by
  cases h with | one h => cases h with
    | base h => cases h with
      | base h => cases h with
        | flat h => simp [flat0] at h
      | func h k => exact ⟨_, _, h, k, rfl⟩
theorem Ra.toRV {β : Bs} {v v' : Value} (h : Ra β v v') : RV β v v' := by
  cases h with
  | base h => exact .one (.base (.base h))
  | agg h => exact .one (.agg (h.mono fun _ _ => .base))

/-- the cells that a value has in memory; none: it has none of its own -/
def cellsL : Value → Option (List Value)
  | .agg cs => some cs.toList
  | .tuple _ => none
  | v => some [v]
theorem RV.cells {β : Bs} {v v' : Value} (h : RV β v v') {cs : List Value} (hc : cellsL v = some cs) : All2 (R0 β) cs v'.cells.toList := by
  cases h with
  | tup _ => simp [cellsL] at hc
  | one h => cases h with
    | agg h => simp [cellsL] at hc; subst hc; simpa [Value.cells] using h
    | base h =>
      cases h with
      | func h k => simp [cellsL] at hc; subst hc; exact All2.cons (R0.func h k) All2.nil
      | base h =>
        cases h with
        | flat h =>
          have hv1 : cellsL v = some [v] := by cases v <;> simp_all [cellsL, flat0]
          have hv2 : v.cells = #[v] := by cases v <;> simp_all [Value.cells, flat0]
          rw [hv1] at hc
          cases hc
          rw [hv2]
          exact All2.cons (.base (.flat h)) All2.nil
        | ptr h => simp [cellsL] at hc; subst hc; exact .cons (.ptr h) .nil
        | slc h => simp [cellsL] at hc; subst hc; exact .cons (.slp h) .nil
theorem R0.one {β : Bs} {v v' : Value} (h : R0 β v v') : v'.oneCell' = true := by
  cases h with
  | func _ _ => rfl
  | base h => cases h with
    | flat h => cases v <;> simp_all [flat0, Value.oneCell']
    | ptr _ => rfl
    | slc _ => rfl

structure Blk where
  cells : List Value
  elem : TypeId
  unit : Nat
  capN : Nat
  opn : Bool
/-- what is known of a number: it is no longer asked for, nobody has it, or a block -/
inductive Ent where
  | dead
  | resv
  | live (k : Blk)
/-- how many numbers there are, and their blocks, the newest one first -/
structure Hp where
  n : Nat
  rev : List Ent
def Hp.get (H : Hp) (i : Nat) : Ent := match Nat.blt i H.n with
  | true => H.rev.getD (H.n - 1 - i) .resv
  | false => .resv
def Hp.put (H : Hp) (j : Nat) (e : Ent) : Hp := match Nat.blt j H.n with
  | true => ⟨H.n, H.rev.set (H.n - 1 - j) e⟩
  | false => ⟨j + 1, e :: (List.replicate (j - H.n) .resv ++ H.rev)⟩
def Hp.wf (H : Hp) : Prop := H.rev.length = H.n
theorem blt_true {a b : Nat} : Nat.blt a b = true ↔ a < b := by simp [Nat.blt, Nat.succ_le_iff]
theorem Hp.put_wf {H : Hp} (h : H.wf) (j : Nat) (e : Ent) : (H.put j e).wf := by
  unfold Hp.wf at *
  unfold Hp.put
  split
  · simp [h]
  · rename_i hb
    have : ¬ j < H.n := fun hlt => by rw [blt_true.2 hlt] at hb; cases hb
    simp [h]; omega
theorem Hp.get_put_same {H : Hp} (h : H.wf) (j : Nat) (e : Ent) : (H.put j e).get j = e := by
  unfold Hp.wf at h
  unfold Hp.put
  split
  · rename_i hb
    have hlt := blt_true.1 hb
    simp only [Hp.get, hb]
    rw [List.getD_eq_getElem?_getD, List.getElem?_set_self (by omega)]
    rfl
  · rename_i hb
    have hb2 : Nat.blt j (j + 1) = true := blt_true.2 (by omega)
    simp [Hp.get, hb2]
theorem Hp.get_put_other {H : Hp} (h : H.wf) {i j : Nat} (hne : i ≠ j) (e : Ent) : (H.put j e).get i = H.get i := by
  unfold Hp.wf at h
  unfold Hp.put
  split
  · rename_i hb
    have hlt := blt_true.1 hb
    cases hi : Nat.blt i H.n with
    | false => simp [Hp.get, hi]
    | true =>
      have hlt2 := blt_true.1 hi
      simp only [Hp.get, hi]
      rw [List.getD_eq_getElem?_getD, List.getD_eq_getElem?_getD, List.getElem?_set_ne (by omega)]
  · rename_i hb
    have hge : ¬ j < H.n := fun hlt => by rw [blt_true.2 hlt] at hb; cases hb
    cases hi : Nat.blt i H.n with
    | true =>
      have hlt2 := blt_true.1 hi
      have hi2 : Nat.blt i (j + 1) = true := blt_true.2 (by omega)
      simp only [Hp.get, hi, hi2]
      have e1 : j + 1 - 1 - i = (j - H.n) + (H.n - 1 - i) + 1 := by omega
      rw [e1, List.getD_eq_getElem?_getD, List.getD_eq_getElem?_getD, List.getElem?_cons_succ, List.getElem?_append_right (by simp)]
      simp
    | false =>
      have hlt2 : ¬ i < H.n := fun hlt => by rw [blt_true.2 hlt] at hi; cases hi
      simp only [Hp.get, hi]
      cases hi2 : Nat.blt i (j + 1) with
      | false => rfl
      | true =>
        have hlt3 := blt_true.1 hi2
        have e1 : j + 1 - 1 - i = (j - 1 - i) + 1 := by omega
        simp only []
        rw [e1, List.getD_eq_getElem?_getD, List.getElem?_cons_succ, List.getElem?_append_left (by simp; omega), List.getElem?_replicate]
        split <;> rfl

def BlkOk (β : Bs) (i : Nat) (k : Blk) (w : World) : Prop :=
  ∃ b x cs, β i = some (b, x) ∧ w.heap[b]? = some (.cells cs k.elem (0, 0)) ∧ All2 (R0 β) k.cells (cs.toList.take k.cells.length) ∧
    cs.size = k.cells.length + x * k.unit ∧ (k.opn = false → x = 0) ∧ k.capN + x ≤ maxLen

/-- a block that is read: its known cells -/
def RdOk (β : Bs) (i : Nat) (k : Blk) (w : World) : Prop := ∃ b x, β i = some (b, x) ∧ ∀ (j : Nat) (v : Value), k.cells[j]? = some v → ∃ v', w.cell? ⟨b, j, none⟩ = some v' ∧ R0 β v v'
theorem BlkOk.rd {β : Bs} {i : Nat} {k : Blk} {w : World} (h : BlkOk β i k w) : RdOk β i k w := by
  obtain ⟨b, x, cs, h1, h2, h3, _⟩ := h
  refine ⟨b, x, h1, fun j v hj => ?_⟩
  obtain ⟨v', hv, hr⟩ := h3.get hj
  refine ⟨v', ?_, hr⟩
  rw [cell_of_row w b j cs k.elem (0, 0) h2]
  rw [List.getElem?_take] at hv
  split at hv
  · simpa using hv
  · cases hv
theorem RdOk.mono {β β' : Bs} (e : Ext β β') {i : Nat} {k : Blk} {w : World} (h : RdOk β i k w) : RdOk β' i k w := by
  obtain ⟨b, x, h1, h2⟩ := h
  refine ⟨b, x, e _ _ h1, fun j v hj => ?_⟩
  obtain ⟨v', hv, hr⟩ := h2 j v hj
  exact ⟨v', hv, hr.mono e⟩
/-- what reading asks for -/
structure HR (N0 : Nat) (β : Bs) (H : Hp) (w : World) : Prop where
  rd : ∀ i k, H.get i = .live k → RdOk β i k w
  glob : ∀ i, i < N0 → β i = some (i, 0)
structure HS (N0 : Nat) (w0 : World) (β : Bs) (H : Hp) (w : World) : Prop extends HR N0 β H w where
  blk : ∀ i k, N0 ≤ i → H.get i = .live k → BlkOk β i k w
  gsz : N0 ≤ w0.heap.size
  wf : H.wf
  below : Below w0.heap.size w0 w
  resv : ∀ i, H.get i = .resv → β i = none
  own : ∀ i b x, N0 ≤ i → β i = some (b, x) → w0.heap.size ≤ b
  inj : ∀ (i j : Nat) (ki kj : Blk) (bi bj : Nat × Nat), N0 ≤ i → N0 ≤ j → H.get i = .live ki → H.get j = .live kj → β i = some bi → β j = some bj → bi.1 = bj.1 → i = j

theorem BlkOk.mono {β β' : Bs} (e : Ext β β') {i : Nat} {k : Blk} {w : World} (h : BlkOk β i k w) : BlkOk β' i k w := by
  obtain ⟨b, x, cs, h1, h2, h3, h4⟩ := h
  exact ⟨b, x, cs, e _ _ h1, h2, h3.mono fun _ _ => R0.mono e, h4⟩

/-- what lies below the base stays readable -/
theorem HS.old {N0 : Nat} {w0 w w' : World} {β : Bs} {H : Hp} (h : HS N0 w0 β H w) (hb : Below w0.heap.size w w') {i : Nat} {k : Blk} (hi : i < N0) (hl : H.get i = .live k) : RdOk β i k w' := by
  obtain ⟨b, x, h1, h2⟩ := h.rd i k hl
  rw [h.glob i hi] at h1; cases h1
  refine ⟨i, 0, h.glob i hi, fun j v hj => ?_⟩
  obtain ⟨v', hv, hr⟩ := h2 j v hj
  exact ⟨v', (hb.cell (p := ⟨i, j, none⟩) (by have := h.gsz; show i < _; omega)).trans hv, hr⟩
/-- a new block -/
theorem HS.alloc {N0 : Nat} {w0 w : World} {β : Bs} {H : Hp} (h : HS N0 w0 β H w) {j : Nat} (hj : H.get j = .resv) (k : Blk) (x : Nat) (cs : Array Value) (w1 : World) (hw : w1 = w ∨ w1 = w.drew)
    (h3 : All2 (R0 β) k.cells (cs.toList.take k.cells.length)) (h4 : cs.size = k.cells.length + x * k.unit) (h5 : k.opn = false → x = 0) (h6 : k.capN + x ≤ maxLen) :
    HS N0 w0 (upd β j (w.heap.size, x)) (H.put j (.live k)) (w1.alloc (.cells cs k.elem)) ∧ Ext β (upd β j (w.heap.size, x)) ∧ (upd β j (w.heap.size, x)) j = some (w.heap.size, x) := by
  have hws : w1.heap = w.heap := by rcases hw with rfl | rfl <;> rfl
  have hbj := h.resv j hj
  have e : Ext β (upd β j (w.heap.size, x)) := Ext.upd hbj _
  have hnew := upd_same β j (w.heap.size, x)
  have hjN : N0 ≤ j := by
    rcases Nat.lt_or_ge j N0 with hl | hl
    · rw [h.glob j hl] at hbj; cases hbj
    · exact hl
  have hold : ∀ i : Nat, ∀ kk : Blk, (H.put j (.live k)).get i = .live kk → (H.get i = .live kk ∧ i ≠ j) ∨ (i = j ∧ kk = k) := by
    intro i kk hk
    by_cases hi : i = j
    · subst hi
      rw [Hp.get_put_same h.wf] at hk
      cases hk
      exact .inr ⟨rfl, rfl⟩
    · rw [Hp.get_put_other h.wf hi] at hk; exact .inl ⟨hk, hi⟩
  have hlt : ∀ (i : Nat) (kk : Blk) (bb : Nat × Nat), N0 ≤ i → H.get i = .live kk → β i = some bb → bb.1 < w.heap.size := by
    intro i kk bb hN hi hb
    obtain ⟨b, x', cs', g1, g2, _⟩ := h.blk i kk hN hi
    rw [g1] at hb; cases hb
    exact (Array.getElem?_eq_some_iff.1 g2).1
  have hbel : Below w0.heap.size w (w1.alloc (.cells cs k.elem)) := by
    have : Below w0.heap.size w w1 := by rcases hw with rfl | rfl; exact Below.refl _ _; exact (Below.refl _ _).drew
    exact this.alloc (by have := h.below.size; rw [hws]; exact this) _
  have hblk : ∀ i kk, N0 ≤ i → (H.put j (.live k)).get i = .live kk → BlkOk (upd β j (w.heap.size, x)) i kk (w1.alloc (.cells cs k.elem)) := by
    intro i kk hN hi
    rcases hold i kk hi with ⟨hi, _⟩ | ⟨rfl, rfl⟩
    · obtain ⟨b, x', cs', g1, g2, g3⟩ := (h.blk i kk hN hi).mono e
      refine ⟨b, x', cs', g1, ?_, g3⟩
      rw [heap_alloc_old _ _ _ (by rw [hws]; exact (Array.getElem?_eq_some_iff.1 g2).1), hws]; exact g2
    · refine ⟨w.heap.size, x, cs, hnew, ?_, h3.mono fun _ _ => R0.mono e, h4, h5, h6⟩
      have := heap_alloc_new w1 (.cells cs kk.elem)
      rw [hws] at this; exact this
  refine ⟨{ rd := ?_, blk := hblk, glob := fun i hi => e _ _ (h.glob i hi), gsz := h.gsz, wf := Hp.put_wf h.wf _ _, below := h.below.trans hbel, resv := ?_, own := ?_, inj := ?_ }, e, hnew⟩
  · intro i kk hi
    rcases Nat.lt_or_ge i N0 with hl | hl
    · rcases hold i kk hi with ⟨hi, _⟩ | ⟨rfl, _⟩
      · exact (h.old hbel hl hi).mono e
      · omega
    · exact (hblk i kk hl hi).rd
  · intro i hi
    have hne : i ≠ j := by intro e; subst e; rw [Hp.get_put_same h.wf] at hi; cases hi
    rw [Hp.get_put_other h.wf hne] at hi
    rw [upd_other _ _ hne]; exact h.resv i hi
  · intro i b x' hi hb
    by_cases hne : i = j
    · subst hne; rw [hnew] at hb; cases hb; exact h.below.size
    · rw [upd_other _ _ hne] at hb; exact h.own i b x' hi hb
  · intro i i2 ki kj bi bj hNi hNj hi hj hbi hbj hb
    rcases hold i ki hi with ⟨qi, li⟩ | ⟨li, _⟩ <;> rcases hold i2 kj hj with ⟨qj, lj⟩ | ⟨lj, _⟩
    · rw [upd_other _ _ li] at hbi
      rw [upd_other _ _ lj] at hbj
      exact h.inj i i2 ki kj bi bj hNi hNj qi qj hbi hbj hb
    · rw [upd_other _ _ li] at hbi
      rw [lj, hnew] at hbj; cases hbj
      have := hlt i ki bi hNi qi hbi; omega
    · rw [upd_other _ _ lj] at hbj
      rw [li, hnew] at hbi; cases hbi
      have := hlt i2 kj bj hNj qj hbj; omega
    · rw [li, lj]

/-- a block is forgotten -/
theorem HS.kill {N0 : Nat} {w0 w : World} {β : Bs} {H : Hp} (h : HS N0 w0 β H w) {i : Nat} {ki : Blk} (hl : H.get i = .live ki) : HS N0 w0 β (H.put i .dead) w := by
  have hx : ∀ (j : Nat) (k : Blk), (H.put i .dead).get j = .live k → H.get j = .live k := by
    intro j k hk
    by_cases hj : j = i
    · subst hj; rw [Hp.get_put_same h.wf] at hk; cases hk
    · rwa [Hp.get_put_other h.wf hj] at hk
  refine { rd := fun j k hk => h.rd j k (hx j k hk), blk := fun j k hN hk => h.blk j k hN (hx j k hk), glob := h.glob, gsz := h.gsz, wf := Hp.put_wf h.wf _ _, below := h.below, resv := ?_, own := h.own, inj := fun a b ka kb bi bj na nb ha hb => h.inj a b ka kb bi bj na nb (hx _ _ ha) (hx _ _ hb) }
  intro j hj
  by_cases hji : j = i
  · subst hji; rw [Hp.get_put_same h.wf] at hj; cases hj
  · rw [Hp.get_put_other h.wf hji] at hj; exact h.resv j hj

/-- a block's known cells are others -/
theorem HS.write {N0 : Nat} {w0 w : World} {β : Bs} {H : Hp} (h : HS N0 w0 β H w) {i b x : Nat} {k k' : Blk} {cs cs' : Array Value} (hN : N0 ≤ i) (hk : H.get i = .live k) (hb : β i = some (b, x))
    (hg : w.heap[b]? = some (.cells cs k.elem (0, 0))) (he : k'.elem = k.elem) (h3 : All2 (R0 β) k'.cells (cs'.toList.take k'.cells.length)) (h4 : cs'.size = k'.cells.length + x * k'.unit) (h5 : k'.opn = false → x = 0) (h6 : k'.capN + x ≤ maxLen) :
    HS N0 w0 β (H.put i (.live k')) (w.setRow b cs') := by
  have hx : ∀ (j : Nat) (kj : Blk), (H.put i (.live k')).get j = .live kj → (j = i ∧ kj = k') ∨ (j ≠ i ∧ H.get j = .live kj) := by
    intro j kj hj
    by_cases hji : j = i
    · subst hji; rw [Hp.get_put_same h.wf] at hj; cases hj; exact .inl ⟨rfl, rfl⟩
    · rw [Hp.get_put_other h.wf hji] at hj; exact .inr ⟨hji, hj⟩
  have hbel : Below w0.heap.size w (w.setRow b cs') := ⟨rfl, rfl, rfl, by simp, fun j hj => setRow_other w b j cs' (by have := h.own i b x hN hb; omega)⟩
  have hblk : ∀ j kj, N0 ≤ j → (H.put i (.live k')).get j = .live kj → BlkOk β j kj (w.setRow b cs') := by
    intro j kj hNj hj
    rcases hx j kj hj with ⟨rfl, rfl⟩ | ⟨hne, hj⟩
    · exact ⟨b, x, cs', hb, by rw [he]; exact setRow_heap w b cs cs' k.elem (0, 0) hg, h3, h4, h5, h6⟩
    · obtain ⟨b', x', c', g1, g2, g3⟩ := h.blk j kj hNj hj
      refine ⟨b', x', c', g1, ?_, g3⟩
      rw [setRow_other w b b' cs' (fun e => hne (h.inj j i kj k _ _ hNj hN hj hk g1 hb e))]; exact g2
  refine { rd := ?_, blk := hblk, glob := h.glob, gsz := h.gsz, wf := Hp.put_wf h.wf _ _, below := h.below.trans hbel, resv := ?_, own := h.own, inj := ?_ }
  · intro j kj hj
    rcases Nat.lt_or_ge j N0 with hl | hl
    · rcases hx j kj hj with ⟨e, _⟩ | ⟨_, hj⟩
      · omega
      · exact h.old hbel hl hj
    · exact (hblk j kj hl hj).rd
  · intro j hj
    by_cases hji : j = i
    · subst hji; rw [Hp.get_put_same h.wf] at hj; cases hj
    · rw [Hp.get_put_other h.wf hji] at hj; exact h.resv j hj
  · intro a c ka kc ba bc na nc ha hc hba hbc e
    have ga : ∃ z, H.get a = .live z := by rcases hx a ka ha with ⟨e, _⟩ | ⟨_, ha⟩; exact ⟨k, e ▸ hk⟩; exact ⟨_, ha⟩
    have gc : ∃ z, H.get c = .live z := by rcases hx c kc hc with ⟨e, _⟩ | ⟨_, hc⟩; exact ⟨k, e ▸ hk⟩; exact ⟨_, hc⟩
    obtain ⟨za, ga⟩ := ga
    obtain ⟨zc, gc⟩ := gc
    exact h.inj _ _ _ _ _ _ na nc ga gc hba hbc e
theorem HS.drew {N0 : Nat} {w0 w : World} {β : Bs} {H : Hp} (h : HS N0 w0 β H w) : HS N0 w0 β H w.drew :=
  { rd := h.rd, blk := h.blk, glob := h.glob, gsz := h.gsz, wf := h.wf, below := h.below.drew, resv := h.resv, own := h.own, inj := h.inj }
/-- numbers are laid by -/
theorem HS.reserve {N0 : Nat} {w0 w : World} {β : Bs} {H : Hp} (h : HS N0 w0 β H w) {j : Nat} (hj : H.get j = .resv) : HS N0 w0 β (H.put j .resv) w := by
  have hx : ∀ i, (H.put j .resv).get i = H.get i := by
    intro i
    by_cases hi : i = j
    · subst hi; rw [Hp.get_put_same h.wf, hj]
    · exact Hp.get_put_other h.wf hi _
  exact { rd := fun i k hi => h.rd i k (by rwa [hx] at hi), blk := fun i k hN hi => h.blk i k hN (by rwa [hx] at hi), glob := h.glob, gsz := h.gsz, wf := Hp.put_wf h.wf _ _, below := h.below, resv := fun i hi => h.resv i (by rwa [hx] at hi), own := h.own,
          inj := fun a b ka kb bi bj na nb ha hb => h.inj a b ka kb bi bj na nb (by rwa [hx] at ha) (by rwa [hx] at hb) }
theorem Hp.get_n (H : Hp) : H.get H.n = .resv := by
  have : Nat.blt H.n H.n = false := by cases hb : Nat.blt H.n H.n; rfl; have := blt_true.1 hb; omega
  simp [Hp.get, this]
end Go.Proofs.Ytmmhoemddfncmaa
