/- A runner, part G: code, functions, closed calls. -/
import Derived.Test.YtmmhoemddfncmaaExeF
namespace Go.Proofs.Ytmmhoemddfncmaa
open Go Go.RowKit
set_option linter.unusedVariables false
set_option linter.unusedSimpArgs false

section
variable {P : Program} {N0 : Nat} {w0 w : World} {β : Bs} {H : Hp}

inductive AE where
  | normal
  | exit (id : Nat)
  | ret
def AE.to : AE → Exit
  | .normal => .normal
  | .exit id => .exit id
  | .ret => .ret
abbrev St := Fr × Hp
def opsOk (N0 : Nat) (ops : Array Oper) : Bool := ops.toList.all (opOk N0)
def loudN : List Oper → Nat
  | [] => 0
  | o :: l => match isLoud o.op with
    | true => loudN l + 1
    | false => loudN l
def aDraw (P : Program) (N0 : Nat) (call : CallF) (ops : Array Oper) (base : Option Nat) (tm : Fr) (H : Hp) : Option St :=
  match aAny P N0 call ops H base ops.size (Array.replicate ops.size false) tm H with
  | some r => some r
  | none => aAny P N0 call ops ⟨0, []⟩ base ops.size (Array.replicate ops.size false) tm H
def aRegion (P : Program) (N0 : Nat) (call : CallF) (ops : Array Oper) (draw : Bool) (s : St) : Option St :=
  match opsOk N0 ops with
  | true => match draw with
    | false => aOps P N0 call ops ops.toList s.1 s.2
    | true => match Region.noSelect ops with
      | true => match loudN ops.toList with
        | c + 2 => hpK 0 (s.2.put (s.2.n + (c + 1)) .resv) fun H => nk s.2.n fun b => aDraw P N0 call ops (some b) s.1 H
        | _ => aDraw P N0 call ops none s.1 s.2
      | false => none
  | false => none
def aCode (P : Program) (N0 : Nat) (call : CallF) : Nat → Code → St → Option (AE × St)
  | 0, _, _ => none
  | n + 1, c, s => match c with
    | .skip => some (.normal, s)
    | .label _ => some (.normal, s)
    | .region _ ops draw => match aRegion P N0 call ops draw s with
      | some s' => some (.normal, s')
      | none => none
    | .seq a b => match aCode P N0 call n a s with
      | some (.normal, s') => aCode P N0 call n b s'
      | r => r
    | .cond c a b => match evT s.1 c with
      | .bool true => aCode P N0 call n a s
      | .bool false => aCode P N0 call n b s
      | _ => none
    | .block id a => match aCode P N0 call n a s with
      | some (.exit id', s') => if id' = id then some (.normal, s') else some (.exit id', s')
      | r => r
    | .loop a => match aCode P N0 call n a s with
      | some (.normal, s') => aCode P N0 call n (.loop a) s'
      | r => r
    | .exit id => some (.exit id, s)
    | .ret => some (.ret, s)
    | _ => none

/-- what stands at an exit -/
def Post (N0 : Nat) (w0 : World) (β : Bs) (e : AE) (s : St) (x : Exit) (a : Act) (w : World) : Prop :=
  x = e.to ∧ ∃ β', Ext β β' ∧ Tm β' s.1 a ∧ HS N0 w0 β' s.2 w
theorem Hp.get_empty (i : Nat) : (⟨0, []⟩ : Hp).get i = .resv := by unfold Hp.get; split <;> rfl
theorem HR.empty (h : HR N0 β H w) : HR N0 β ⟨0, []⟩ w := ⟨fun i k hi => (by rw [Hp.get_empty] at hi; cases hi), h.glob⟩
theorem aDraw_ok (hn : namesOk P = true) (hm : P.follows .mixedOrders = true) {call : CallF} (hc : CallOk P N0 w0 call) {ops : Array Oper} (hok : ∀ o ∈ ops.toList, opOk N0 o = true) (hsel : Region.noSelect ops = true) {base : Option Nat} {id : Nat} {tm : Fr} {s' : St}
    (h : aDraw P N0 call ops base tm H = some s') {a : Act} (ht : Tm β tm a) (hs : HS N0 w0 β H w) : (Code.region id ops true).wp P (Post N0 w0 β .normal s') a w := by
  unfold aDraw at h
  split at h
  · rename_i r hr
    cases h
    exact wp_region_held hm (aAny_ok hn hc hok hsel (tm' := s'.1) (H' := s'.2) ops.size hr (Ext.refl _) ht hs.drew hs.drew.toHR)
  · exact wp_region_held hm (aAny_ok hn hc hok hsel (tm' := s'.1) (H' := s'.2) ops.size h (Ext.refl _) ht hs.drew hs.drew.toHR.empty)
theorem aRegion_ok (hn : namesOk P = true) (hm : P.follows .mixedOrders = true) {call : CallF} (hc : CallOk P N0 w0 call) {ops : Array Oper} {draw : Bool} {id : Nat} {tm : Fr} {s' : St} (h : aRegion P N0 call ops draw (tm, H) = some s') {a : Act} (ht : Tm β tm a) (hs : HS N0 w0 β H w) :
    (Code.region id ops draw).wp P (Post N0 w0 β .normal s') a w := by
  unfold aRegion at h
  split at h
  · rename_i hok
    have hok : ∀ o ∈ ops.toList, opOk N0 o = true := List.all_eq_true.1 hok
    split at h
    · have := aOps_ok hn hc ops hok (Q := Post N0 w0 β .normal s') ops.toList [] (tm' := s'.1) (H' := s'.2) rfl h ht hs fun β' a' w' e ht' hs' => ⟨rfl, β', e, ht', hs'⟩
      refine wp_region ?_
      rw [List.range_eq_range']
      simpa using this
    · split at h
      · rename_i hsel
        split at h
        · rename_i c hcnt
          simp only [hpK_eq, nk_eq] at h
          have hr : H.get (H.n + (c + 1)) = .resv := by
            have : Nat.blt (H.n + (c + 1)) H.n = false := by cases hb : Nat.blt (H.n + (c + 1)) H.n; rfl; have := blt_true.1 hb; omega
            simp [Hp.get, this]
          exact aDraw_ok hn hm hc hok hsel h ht (hs.reserve hr)
        · exact aDraw_ok hn hm hc hok hsel h ht hs
      · cases h
  · cases h

/-- a loop from its round on -/
def LoopWp (P : Program) (c : Code) (Q : Exit → Act → World → Prop) (a : Act) (w : World) : Prop :=
  ∀ (b : Frame) (k : List Item) (cs : List Frame), ∃ e a' w', Q e a' w' ∧ Arrives P (lone (b.at a (.code c :: .inLoop c :: k)) cs w) b k cs e a' w'
theorem LoopWp.loop {c : Code} {Q : Exit → Act → World → Prop} {a : Act} (h : LoopWp P c Q a w) : (Code.loop c).wp P Q a w := by
  intro b k cs
  obtain ⟨e, a', w', hq, harr⟩ := h b k cs
  exact ⟨e, a', w', hq, .of_steps (.one step_loop) harr⟩
theorem LoopWp.round {c : Code} {Q : Exit → Act → World → Prop} {a : Act} (h : c.wp P (Exit.then (LoopWp P c Q) Q) a w) : LoopWp P c Q a w := by
  intro b k cs
  obtain ⟨e, a₁, w₁, hq, harr⟩ := h b (.inLoop c :: k) cs
  cases e with
  | normal =>
    obtain ⟨e₂, a₂, w₂, hq₂, harr₂⟩ := hq b k cs
    exact ⟨e₂, a₂, w₂, hq₂, .of_steps (Steps.trans harr (.one step_inLoop)) harr₂⟩
  | exit id => exact ⟨_, a₁, w₁, hq, .pass (x := .inLoop c) rfl (fun _ _ => .inl (by simp)) harr⟩
  | goto l => exact ⟨_, a₁, w₁, hq, .pass (x := .inLoop c) rfl (fun _ _ => .inl (by simp)) harr⟩
  | ret => exact ⟨_, a₁, w₁, hq, .pass (x := .inLoop c) rfl (fun _ _ => .inl (by simp)) harr⟩
  | panic ch => exact ⟨_, a₁, w₁, hq, .pass (x := .inLoop c) rfl (fun _ _ => .inl (by simp)) harr⟩
  | outgrown => exact ⟨_, a₁, w₁, hq, .pass (x := .inLoop c) rfl (fun _ _ => .inl (by simp)) harr⟩

theorem Post.ext {β' : Bs} (e : Ext β β') {x : AE} {s : St} {ex : Exit} {a : Act} {w : World} (h : Post N0 w0 β' x s ex a w) : Post N0 w0 β x s ex a w := by
  obtain ⟨h1, b, h2, h3⟩ := h
  exact ⟨h1, b, e.trans h2, h3⟩
theorem aCode_ok (hn : namesOk P = true) (hm : P.follows .mixedOrders = true) {call : CallF} (hc : CallOk P N0 w0 call) : ∀ (n : Nat) {c : Code} {s s' : St} {x : AE} {β : Bs} {a : Act} {w : World}, aCode P N0 call n c s = some (x, s') → Tm β s.1 a → HS N0 w0 β s.2 w →
    c.wp P (Post N0 w0 β x s') a w ∧ ∀ d, c = .loop d → LoopWp P d (Post N0 w0 β x s') a w
  | 0, c, s, s', x, β, a, w, h, ht, hs => by simp [aCode] at h
  | n + 1, c, s, s', x, β, a, w, h, ht, hs => by
    have ih := @aCode_ok hn hm call hc n
    cases c with
    | skip =>
      simp only [aCode, Option.some.injEq, Prod.mk.injEq] at h
      obtain ⟨rfl, rfl⟩ := h
      exact ⟨wp_skip ⟨rfl, β, Ext.refl _, ht, hs⟩, fun d h => by cases h⟩
    | label l =>
      simp only [aCode, Option.some.injEq, Prod.mk.injEq] at h
      obtain ⟨rfl, rfl⟩ := h
      exact ⟨wp_label ⟨rfl, β, Ext.refl _, ht, hs⟩, fun d h => by cases h⟩
    | region id ops draw =>
      simp only [aCode] at h
      split at h
      · rename_i s1 hr
        cases h
        exact ⟨aRegion_ok hn hm hc (tm := s.1) (H := s.2) hr ht hs, fun d h => by cases h⟩
      · cases h
    | seq c1 c2 =>
      refine ⟨?_, fun d h => by cases h⟩
      simp only [aCode] at h
      cases h1 : aCode P N0 call n c1 s with
      | none => rw [h1] at h; cases h
      | some r =>
        obtain ⟨x1, s1⟩ := r
        rw [h1] at h
        refine wp_seq (wp_mono (ih h1 ht hs).1 ?_)
        rintro ex a1 w1 ⟨rfl, β1, e1, ht1, hs1⟩
        cases x1 with
        | normal => exact wp_mono (ih h ht1 hs1).1 fun _ _ _ hp => hp.ext e1
        | exit id => cases h; exact ⟨rfl, β1, e1, ht1, hs1⟩
        | ret => cases h; exact ⟨rfl, β1, e1, ht1, hs1⟩
    | cond cc c1 c2 =>
      refine ⟨?_, fun d h => by cases h⟩
      simp only [aCode] at h
      have hv : ∀ b, evT s.1 cc = .bool b → a.eval cc = .bool b := by
        intro b hb
        cases cc with
        | tmp t =>
          have := ht.1 t
          simp only [evT] at hb
          rw [hb] at this
          exact this.bool_inv
        | const v => exact hb
        | global g => simp [evT] at hb
        | func f => simp [evT] at hb
      split at h
      · rename_i hb
        exact wp_cond_true (hv _ hb) (ih h ht hs).1
      · rename_i hb
        exact wp_cond_false (hv _ hb) (ih h ht hs).1
      · cases h
    | block id c1 =>
      refine ⟨?_, fun d h => by cases h⟩
      simp only [aCode] at h
      cases h1 : aCode P N0 call n c1 s with
      | none => rw [h1] at h; cases h
      | some r =>
        obtain ⟨x1, s1⟩ := r
        rw [h1] at h
        refine wp_block (wp_mono (ih h1 ht hs).1 ?_)
        rintro ex a1 w1 ⟨rfl, β1, e1, ht1, hs1⟩
        cases x1 with
        | normal => cases h; exact ⟨rfl, β1, e1, ht1, hs1⟩
        | ret => cases h; exact ⟨rfl, β1, e1, ht1, hs1⟩
        | exit id' =>
          simp only [AE.to, Exit.inBlock]
          simp only at h
          split at h
          · rename_i hid
            cases h
            rw [if_pos hid]
            exact ⟨rfl, β1, e1, ht1, hs1⟩
          · rename_i hid
            cases h
            rw [if_neg hid]
            exact ⟨rfl, β1, e1, ht1, hs1⟩
    | loop d =>
      have key : LoopWp P d (Post N0 w0 β x s') a w := by
        simp only [aCode] at h
        cases h1 : aCode P N0 call n d s with
        | none => rw [h1] at h; cases h
        | some r =>
          obtain ⟨x1, s1⟩ := r
          rw [h1] at h
          refine .round (wp_mono (ih h1 ht hs).1 ?_)
          rintro ex a1 w1 ⟨rfl, β1, e1, ht1, hs1⟩
          cases x1 with
          | normal =>
            have h2 := (ih h ht1 hs1).2 d rfl
            intro b k cs
            obtain ⟨e, a', w', hq, harr⟩ := h2 b k cs
            exact ⟨e, a', w', hq.ext e1, harr⟩
          | exit id => cases h; exact ⟨rfl, β1, e1, ht1, hs1⟩
          | ret => cases h; exact ⟨rfl, β1, e1, ht1, hs1⟩
      exact ⟨key.loop, fun d' h' => by cases h'; exact key⟩
    | exit id =>
      simp only [aCode, Option.some.injEq, Prod.mk.injEq] at h
      obtain ⟨rfl, rfl⟩ := h
      exact ⟨wp_exit ⟨rfl, β, Ext.refl _, ht, hs⟩, fun d h => by cases h⟩
    | ret =>
      simp only [aCode, Option.some.injEq, Prod.mk.injEq] at h
      obtain ⟨rfl, rfl⟩ := h
      exact ⟨wp_ret ⟨rfl, β, Ext.refl _, ht, hs⟩, fun d h => by cases h⟩
    | rangeFunc _ _ _ _ => simp [aCode] at h
    | scope _ => simp [aCode] at h
    | goto _ => simp [aCode] at h
    | refuse _ => simp [aCode] at h

def aRes (P : Program) (H : Hp) (tm : Fr) : ResultVar → Option Value
  | .tmp t => some (tm.get t)
  | .cell a t => aLoad P H t (tm.get a)
def aRess (P : Program) (H : Hp) (tm : Fr) : List ResultVar → Option (List Value)
  | [] => some []
  | r :: l => match aRes P H tm r, aRess P H tm l with
    | some v, some m => some (v :: m)
    | _, _ => none
def notTup : Value → Bool
  | .tuple _ => false
  | _ => true
def aResults (P : Program) (H : Hp) (fn : Func) (tm : Fr) : Option Value :=
  match aRess P H tm fn.results.toList with
  | some [v] => some v
  | some l => if l.all notTup then some (.tuple l.toArray) else none
  | none => none
def resOf (tmps : Array Value) : ResultVar → Sem Value
  | .tmp t => pure (tmps.getD t undef)
  | .cell a t => do loadVar t (← asAddr (tmps.getD a undef))
theorem aRes_ok {tm : Fr} {a : Act} {r : ResultVar} {v : Value} (h : aRes P H tm r = some v) (ht : Tm β tm a) (hs : HS N0 w0 β H w) : ∃ v', (resOf a.tmps r).run P w = .ok v' w ∧ RV β v v' := by
  cases r with
  | tmp t =>
    simp only [aRes, Option.some.injEq] at h; subst h
    exact ⟨a.tmps.getD t undef, rfl, ht.1 t⟩
  | cell p t =>
    simp only [aRes] at h
    have hp : RV β (tm.get p) (a.tmps.getD p undef) := ht.1 p
    obtain ⟨u', h1, h2⟩ := aLoad_ok h hp hs.toHR
    refine ⟨u', ?_, h2⟩
    unfold aLoad at h
    split at h
    · rename_i i off hq
      rw [hq] at hp
      obtain ⟨b, x, hb, he⟩ := hp.ptr_inv
      simp only [resOf, Sem.run_bind]
      rw [he] at h1 ⊢
      simpa [Instr.loadAt, Instr.sureAddr, asAddr] using h1
    · cases h
theorem aRess_ok {tm : Fr} {a : Act} (ht : Tm β tm a) (hs : HS N0 w0 β H w) : ∀ {l : List ResultVar} {vs : List Value}, aRess P H tm l = some vs → ∃ vs', (l.mapM (resOf a.tmps)).run P w = .ok vs' w ∧ All2 (RV β) vs vs'
  | [], vs, h => by simp only [aRess, Option.some.injEq] at h; subst h; exact ⟨[], rfl, .nil⟩
  | r :: l, vs, h => by
    simp only [aRess] at h
    split at h
    · rename_i v m hv hm
      simp only [Option.some.injEq] at h; subst h
      obtain ⟨v', h1, h2⟩ := aRes_ok hv ht hs
      obtain ⟨vs', h3, h4⟩ := aRess_ok ht hs hm
      exact ⟨v' :: vs', by simp [List.mapM_cons, h1, h3], .cons h2 h4⟩
    · cases h
theorem aResults_ok {fn : Func} {tm : Fr} {a : Act} {v : Value} (h : aResults P H fn tm = some v) (ht : Tm β tm a) (hs : HS N0 w0 β H w) : ∃ v', (results fn a.tmps).run P w = .ok v' w ∧ RV β v v' := by
  unfold aResults at h
  have hm : ∀ vs', (fn.results.toList.mapM (resOf a.tmps)).run P w = .ok vs' w → (results fn a.tmps).run P w = .ok (if h : vs'.toArray.size = 1 then vs'.toArray[0] else .tuple vs'.toArray) w := by
    intro vs' h1
    have e : results fn a.tmps = (do let vs ← fn.results.mapM (resOf a.tmps); pure (if h : vs.size = 1 then vs[0] else .tuple vs)) := rfl
    rw [e, Array.mapM_eq_mapM_toList]
    simp [h1]
  split at h
  · rename_i u hl
    simp only [Option.some.injEq] at h; subst h
    obtain ⟨vs', h1, h2⟩ := aRess_ok ht hs hl
    cases h2 with | cons h3 h4 =>
    cases h4
    exact ⟨_, hm _ h1, by simpa using h3⟩
  · rename_i l hne hl
    split at h
    · rename_i hall
      simp only [Option.some.injEq] at h; subst h
      obtain ⟨vs', h1, h2⟩ := aRess_ok ht hs hl
      refine ⟨_, hm _ h1, ?_⟩
      have hlen := h2.length
      have hsz : ¬ vs'.toArray.size = 1 := by
        intro e
        rw [List.size_toArray, ← hlen] at e
        match l, e with
        | [u], _ => exact hne u rfl
      rw [dif_neg hsz]
      refine .tup ?_
      have : ∀ {l l' : List Value}, l.all notTup = true → All2 (RV β) l l' → All2 (R1 β) l l' := by
        intro l l' hall h
        induction h with
        | nil => exact .nil
        | cons h _ ih =>
          simp only [List.all_cons, Bool.and_eq_true] at hall
          refine .cons ?_ (ih hall.2)
          cases h with
          | one h => exact h
          | tup _ => simp [notTup] at hall
      exact this hall h2
    · cases h
  · cases h

/-- a new frame, row by row -/
def rowK {α : Type} (n : Nat) (l : List Value) (k : List Value → List Value → α) : α := match n, l with
  | n + 1, v :: l => rowK n l fun r l => k (v :: r) l
  | _, l => k [] l
theorem rowK_eq {α : Type} (n : Nat) (l : List Value) (k : List Value → List Value → α) : rowK n l k = k (l.take n) (l.drop n) := by
  induction n generalizing l k with
  | zero => cases l <;> simp [rowK]
  | succ n ih => cases l <;> simp [rowK, ih]
def frK {α : Type} (n : Nat) (l : List Value) (k : Fr → α) : α := match n with
  | 0 => k []
  | n + 1 => match l with
    | [] => k []
    | v :: l => rowK 8 (v :: l) fun r l => frK n l fun f => k (r :: f)
theorem frK_eq {α : Type} (n : Nat) (l : List Value) (k : Fr → α) : frK n l k = k (chunk n l) := by
  induction n generalizing l k with
  | zero => rfl
  | succ n ih => cases l with
    | nil => rfl
    | cons v l => simp only [frK, rowK_eq, ih]; rfl
def FUEL : Nat := 100000000
def aFun (P : Program) (N0 : Nat) : Nat → CallF
  | 0, _, _, _ => none
  | n + 1, f, args, H => match P.funcs[f]? with
    | some fn => match fn.body with
      | some c => frK (args ++ List.replicate (fn.ntmps - args.length) undef).length (args ++ List.replicate (fn.ntmps - args.length) undef) fun tm => match aCode P N0 (aFun P N0 n) FUEL c (tm, H) with
        | some (.normal, s) | some (.ret, s) => match aResults P s.2 fn s.1 with
          | some v => vk v fun v => some (v, s.2)
          | none => none
        | _ => none
      | none => none
    | none => none
theorem aFun_ok (hn : namesOk P = true) (hm : P.follows .mixedOrders = true) : ∀ n, CallOk P N0 w0 (aFun P N0 n)
  | 0 => by intro f args args' β H w v H' h; simp [aFun] at h
  | n + 1 => by
    intro f args args' β H w v H' h hfn ha hs
    simp only [aFun] at h
    split at h
    · rename_i fn hf
      split at h
      · rename_i c hb
        simp only [frK_eq, vk_eq] at h
        have ht : Tm β (chunk (args ++ List.replicate (fn.ntmps - args.length) undef).length (args ++ List.replicate (fn.ntmps - args.length) undef)) { tmps := args'.toArray ++ Array.replicate (fn.ntmps - args'.toArray.size) undef, defers := [] } := by
          have hall : All2 (RV β) (args ++ List.replicate (fn.ntmps - args.length) undef) (args'.toArray ++ Array.replicate (fn.ntmps - args'.toArray.size) undef).toList := by
            simp only [Array.toList_append, Array.toList_replicate, List.size_toArray]
            rw [← ha.length]
            exact ha.append (All2.self fun x hx => by rw [List.mem_replicate] at hx; rw [hx.2]; exact .undef)
          generalize args ++ List.replicate (fn.ntmps - args.length) undef = L at hall
          generalize args'.toArray ++ Array.replicate (fn.ntmps - args'.toArray.size) undef = A at hall
          refine ⟨fun t => ?_, rfl, fun t => ?_⟩
          · rw [(chunk_ok L.length L t (Nat.le_refl _)).1]
            have := hall.getD RV.undef t
            simpa using this
          · rw [(chunk_ok L.length L t (Nat.le_refl _)).2, hall.length]; simp
        have fin : ∀ (x : AE) (s : St), (x = .normal ∨ x = .ret) → aCode P N0 (aFun P N0 n) FUEL c (chunk (args ++ List.replicate (fn.ntmps - args.length) undef).length (args ++ List.replicate (fn.ntmps - args.length) undef), H) = some (x, s) → aResults P s.2 fn s.1 = some v → s.2 = H' →
            Calls P f args'.toArray w fun e w' => ∃ v' β', e = .returned v' ∧ Ext β β' ∧ RV β' v v' ∧ HS N0 w0 β' H' w' := by
          rintro x s hx hcode hres rfl
          refine calls_of_wp hf hb (wp_mono (aCode_ok hn hm (aFun_ok hn hm n) FUEL hcode ht hs).1 ?_)
          rintro ex a1 w1 ⟨rfl, β1, e1, ht1, hs1⟩
          obtain ⟨v', h1, h2⟩ := aResults_ok hres ht1 hs1
          rcases hx with rfl | rfl
          · exact ⟨ht1.2.1, v', h1, v', β1, rfl, e1, h2, hs1⟩
          · exact ⟨ht1.2.1, v', h1, v', β1, rfl, e1, h2, hs1⟩
        split at h
        · rename_i s hcode
          split at h
          · rename_i u hres
            simp only [Option.some.injEq, Prod.mk.injEq] at h
            obtain ⟨rfl, rfl⟩ := h
            exact fin .normal s (.inl rfl) hcode hres rfl
          · cases h
        · rename_i s hcode
          split at h
          · rename_i u hres
            simp only [Option.some.injEq, Prod.mk.injEq] at h
            obtain ⟨rfl, rfl⟩ := h
            exact fin .ret s (.inr rfl) hcode hres rfl
          · cases h
        · cases h
      · cases h
    · cases h

/-- a call without package-level variables, of flat arguments, with a flat result -/
theorem HS.start (w : World) : HS 0 w (fun _ => none) ⟨0, []⟩ w := by
  have hx := Hp.get_empty
  refine { rd := ?_, blk := ?_, glob := fun i hi => absurd hi (by omega), gsz := Nat.zero_le _, wf := rfl, below := Below.refl _ _, resv := fun _ _ => rfl, own := ?_, inj := ?_ }
  · intro i k h; rw [hx] at h; cases h
  · intro i k _ h; rw [hx] at h; cases h
  · intro i b x _ h; cases h
  · intro i j ki kj bi bj _ _ h; rw [hx] at h; cases h
def runs (P : Program) (n : Nat) (f : FuncId) (args : List Value) : Option Value := match aFun P 0 n f args ⟨0, []⟩ with | some (v, _) => some v | none => none
theorem calls_closed (hn : namesOk P = true) (hm : P.follows .mixedOrders = true) {n : Nat} {f : FuncId} {args : List Value} {v : Value} (hr : runs P n f args = some v) (hf : isFn P f = true) (ha : args.all flat = true) (hv : flat v = true) (w : World) :
    Calls P f args.toArray w fun e w' => e = .returned v ∧ Below w.heap.size w w' := by
  unfold runs at hr
  split at hr
  · rename_i u H' h
    cases hr
    refine (aFun_ok hn hm n f args args _ _ w v H' h hf (All2.self fun x hx => .of_flat (List.all_eq_true.1 ha x hx)) (HS.start w)).mono ?_
    rintro e w' ⟨v', β', rfl, _, h2, h3⟩
    exact ⟨by rw [h2.eq_flat hv], h3.below⟩
  · cases hr
end
end Go.Proofs.Ytmmhoemddfncmaa
