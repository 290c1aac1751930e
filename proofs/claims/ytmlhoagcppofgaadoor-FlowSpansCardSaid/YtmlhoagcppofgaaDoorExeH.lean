/- A runner, part H: closed calls beside one table of numbers among the package-level variables. -/
import Derived.Test.YtmlhoagcppofgaaDoorExeG
namespace Go.Proofs.YtmlhoagcppofgaaDoor
open Go Go.RowKit
set_option linter.unusedVariables false
section
variable {P : Program}
/-- variable number g is a table -/
def tabHp (g : Nat) (k : IntKind) (t : TypeId) (l : List Int) : Hp := ⟨g + 1, .live { cells := l.map (.int k ·), elem := t, unit := 1, capN := 1, opn := false } :: List.replicate g .dead⟩
theorem tab_at (g : Nat) (k : IntKind) (t : TypeId) (l : List Int) : (tabHp g k t l).get g = .live { cells := l.map (.int k ·), elem := t, unit := 1, capN := 1, opn := false } := by
  have : Nat.blt g (g + 1) = true := blt_true.2 (by omega)
  simp [tabHp, Hp.get, this]
theorem tab_less (g : Nat) (k : IntKind) (t : TypeId) (l : List Int) {i : Nat} (h : i < g) : (tabHp g k t l).get i = .dead := by
  have h1 : Nat.blt i (g + 1) = true := blt_true.2 (by omega)
  have e : g + 1 - 1 - i = (g - 1 - i) + 1 := by omega
  simp only [tabHp, Hp.get, h1]
  rw [e, List.getD_eq_getElem?_getD, List.getElem?_cons_succ, List.getElem?_replicate, if_pos (by omega)]
  rfl
theorem tab_more (g : Nat) (k : IntKind) (t : TypeId) (l : List Int) {i : Nat} (h : g < i) : (tabHp g k t l).get i = .resv := by
  have h1 : Nat.blt i (g + 1) = false := by cases hb : Nat.blt i (g + 1); rfl; have := blt_true.1 hb; omega
  simp [tabHp, Hp.get, h1]
theorem HS.tab (g : Nat) (k : IntKind) (t : TypeId) (l : List Int) (w : World) (hg : g < w.heap.size) (hc : ∀ i, i < l.length → w.cell? ⟨g, i, none⟩ = some (.int k (l.getD i 0))) :
    HS (g + 1) w (fun i => if i < g + 1 then some (i, 0) else none) (tabHp g k t l) w := by
  have hl : ∀ (i : Nat) (kk : Blk), (tabHp g k t l).get i = .live kk → i = g ∧ kk.cells = l.map (.int k ·) := by
    intro i kk hi
    rcases Nat.lt_trichotomy i g with h | h | h
    · rw [tab_less g k t l h] at hi; cases hi
    · subst h; rw [tab_at] at hi; cases hi; exact ⟨rfl, rfl⟩
    · rw [tab_more g k t l h] at hi; cases hi
  refine { rd := ?_, glob := fun i hi => by simp [hi], blk := ?_, gsz := hg, wf := by simp [Hp.wf, tabHp], below := Below.refl _ _, resv := ?_, own := ?_, inj := ?_ }
  · intro i kk hi
    obtain ⟨rfl, hcs⟩ := hl i kk hi
    refine ⟨i, 0, by simp, fun j v hj => ?_⟩
    rw [hcs, List.getElem?_map, Option.map_eq_some_iff] at hj
    obtain ⟨z, hz, rfl⟩ := hj
    have hjl := (List.getElem?_eq_some_iff.1 hz).1
    refine ⟨_, hc j hjl, ?_⟩
    rw [List.getD_eq_getElem?_getD, hz]
    exact .flatX rfl
  · intro i kk hN hi
    obtain ⟨rfl, _⟩ := hl i kk hi
    omega
  · intro i hi
    rcases Nat.lt_trichotomy i g with h | h | h
    · rw [tab_less g k t l h] at hi; cases hi
    · subst h; rw [tab_at] at hi; cases hi
    · have : ¬ i < g + 1 := by omega
      simp [this]
  · intro i b x hi hb
    have : ¬ i < g + 1 := by omega
    simp [this] at hb
  · intro i j ki kj bi bj hNi _ hi
    obtain ⟨rfl, _⟩ := hl i ki hi
    omega
def runsT (P : Program) (g : Nat) (k : IntKind) (t : TypeId) (l : List Int) (n : Nat) (f : FuncId) (args : List Value) : Option Value := match aFun P (g + 1) n f args (tabHp g k t l) with | some (v, _) => some v | none => none
theorem calls_tab (hn : namesOk P = true) (hm : P.follows .mixedOrders = true) {g : Nat} {k : IntKind} {t : TypeId} {l : List Int} {n : Nat} {f : FuncId} {args : List Value} {v : Value} (hr : runsT P g k t l n f args = some v) (hf : isFn P f = true) (ha : args.all flatX = true) (hv : flatX v = true)
    (w : World) (hg : g < w.heap.size) (hc : ∀ i, i < l.length → w.cell? ⟨g, i, none⟩ = some (.int k (l.getD i 0))) :
    Calls P f args.toArray w fun e w' => e = .returned v ∧ Below w.heap.size w w' := by
  unfold runsT at hr
  split at hr
  · rename_i u H' h
    cases hr
    refine (aFun_ok hn hm n f args args _ _ w v H' h hf (All2.self fun x hx => .of_flat (List.all_eq_true.1 ha x hx)) (HS.tab g k t l w hg hc)).mono ?_
    rintro e w' ⟨v', β', rfl, _, h2, h3⟩
    exact ⟨by rw [h2.eq_flat hv], h3.below⟩
  · cases hr
end
end Go.Proofs.YtmlhoagcppofgaaDoor
