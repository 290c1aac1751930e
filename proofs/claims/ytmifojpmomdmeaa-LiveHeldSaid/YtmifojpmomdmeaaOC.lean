/- A drawn region whose stores come behind its loads: the condition on the world is asked for behind those operations alone that do not wait for the loads. -/
import Derived.Deep.RegionHeld
import Derived.RegionTactic
import Derived.Below
import Derived.Test.YtmifojpmomdmeaaOA
import Derived.Handy
import Derived.Test.YtmifojpmomdmeaaNY
import Derived.Test.YtmifojpmomdmeaaND
import Derived.Test.YtmifojpmomdmeaaFkP
import Derived.Deep.DeepCutAuto
import Derived.BigRegion
import Derived.Deep.RegionHeld3
namespace Go.Proofs.Ytmifojpmomdmeaa
open Go
set_option linter.unusedVariables false
section
variable {P : Program} {ops : Array Oper} {Q : Exit → Act → World → Prop} {md : Region.Mode} {S : World → Prop} {D : List Nat}

/-- whatever order is picked from here on, and S holds behind every operation that is carried out, but those of D -/
def wpAnyD (P : Program) (md : Region.Mode) (ops : Array Oper) (Q : Exit → Act → World → Prop) (S : World → Prop) (D : List Nat) : Nat → Array Bool → Act → World → Prop
  | 0, listed, a, w => Region.ready md ops listed = [] ∧ Q .normal a w
  | fuel + 1, listed, a, w =>
    (Region.ready md ops listed = [] → Q .normal a w) ∧
    ∀ i ∈ Region.ready md ops listed, wpOp P ops Q i (fun a' w' => (D.contains i = false → S w → S w') ∧ wpAnyD P md ops Q S D fuel (listed.setIfInBounds i true) a' w') a w
theorem wpAny_of_heldD : ∀ (fuel : Nat) (listed : Array Bool) (a : Act) (w : World), wpAnyD P md ops Q S D fuel listed a w → wpAny P md ops Q fuel listed a w
  | 0, _, _, _, h => h
  | fuel + 1, _, _, _, h => ⟨h.1, fun i hi => wpOp_mono (fun a' w' h' => wpAny_of_heldD fuel _ a' w' h'.2) (h.2 i hi)⟩
/-- each of D waits for i, or for another one of D -/
def waitsB (md : Region.Mode) (ops : Array Oper) (D : List Nat) (i : Nat) : Bool := D.all fun d => match ops[d]? with
  | some o => o.after.toList.any fun e => Region.binds md e && (e.on == i || D.contains e.on)
  | none => true
def noneB (D : List Nat) (listed : Array Bool) : Bool := D.all fun d => !(listed.getD d true)
theorem not_ready {i j : Nat} {listed : Array Bool} (hw : waitsB md ops D i = true) (hn : noneB D listed = true) (hi : listed.getD i true = false) (hj : j ∈ Region.ready md ops listed) : D.contains j = false := by
  cases hc : D.contains j with
  | false => rfl
  | true =>
    exfalso
    have hm : j ∈ D := by simpa using hc
    obtain ⟨_, oj, hoj, hall⟩ := mem_ready.1 hj
    have h1 := List.all_eq_true.1 hw j hm
    rw [hoj] at h1
    simp only [List.any_eq_true] at h1
    obtain ⟨e, he, hb⟩ := h1
    simp only [Bool.and_eq_true, Bool.or_eq_true, beq_iff_eq] at hb
    have h2 := hall e (by simpa using he) hb.1
    have h3 : listed.getD e.on true = false := by
      rcases hb.2 with h | h
      · rw [h]; exact hi
      · have := List.all_eq_true.1 hn e.on (by simpa using h)
        simpa using this
    rcases Nat.lt_or_ge e.on listed.size with h' | h'
    · simp [h'] at h2 h3; rw [h3] at h2; cases h2
    · simp [Array.getElem?_eq_none h'] at h2
theorem wpAnyD_first {X : List Nat} {i : Nat} {oi : Oper} {v : Value} (hi : ops[i]? = some oi) (hsel : ∀ (j : Nat) (o : Oper) cs b, ops[j]? = some o → o.op ≠ .select cs b)
    (hQ : ∀ c a w, Q (.panic c) (a.put oi.dst v) w → Q (.panic c) a w) (hw : waitsB md ops (D ++ X) i = true) :
    ∀ (fuel : Nat) (listed : Array Bool) (a : Act) (w : World),
      (∀ j oj, ops[j]? = some oj → j ≠ i → listed.getD j true = false → (∀ e ∈ oj.after, Region.binds md e = true → e.on ≠ i) → oi.apart ops oj = true) →
      noneB (D ++ X) listed = true →
      i ∈ Region.ready md ops listed → YieldsIf P ops S oi v a → S w →
      wpAnyD P md ops Q S D fuel (listed.setIfInBounds i true) (a.put oi.dst v) w → wpAnyD P md ops Q S D (fuel + 1) listed a w := by
  intro fuel
  induction fuel with
  | zero =>
    intro listed a w _ hn hr hy hS H
    refine ⟨fun h => (by rw [h] at hr; cases hr), fun j hj => ?_⟩
    by_cases hji : j = i
    · subst hji; exact hy.wpOp hi hS ⟨fun _ h => h, H⟩
    · have := ready_mono hj hji
      rw [H.1] at this
      cases this
  | succ fuel ih =>
    intro listed a w hfree hn hr hy hS H
    refine ⟨fun h => (by rw [h] at hr; cases hr), fun j hj => ?_⟩
    by_cases hji : j = i
    · subst hji; exact hy.wpOp hi hS ⟨fun _ h => h, H⟩
    · have h1 := H.2 j (ready_mono hj hji)
      have hiu : listed.getD i true = false := by
        have h0 := (mem_ready.1 hr).1
        simpa using h0
      have hjX := not_ready hw hn hiu hj
      have hjD : D.contains j = false := by simp at hjX ⊢; exact hjX.1
      obtain ⟨hjun, oj, hoj, hall⟩ := mem_ready.1 hj
      have hnot : ∀ e ∈ oj.after, Region.binds md e = true → e.on ≠ i := fun e he hb heq => by
        have h1 := hall e he hb
        have h0 := (mem_ready.1 hr).1
        rw [heq] at h1
        rcases Nat.lt_or_ge i listed.size with h' | h'
        · simp [h'] at h0 h1; rw [h0] at h1; cases h1
        · simp [Array.getElem?_eq_none h'] at h1
      have h2 := wpOp_putIf hoj (hfree j oj hoj hji hjun hnot) (fun cs b => hsel i oi cs b hi) (fun cs b => hsel j oj cs b hoj) hQ hy h1
      have hfree' : ∀ k ok, ops[k]? = some ok → k ≠ i → (listed.setIfInBounds j true).getD k true = false →
          (∀ e ∈ ok.after, Region.binds md e = true → e.on ≠ i) → oi.apart ops ok = true := fun k ok hk hki hun hno => by
        refine hfree k ok hk hki ?_ hno
        by_cases hjk : j = k
        · subst hjk; exact hjun
        · rw [getD_set_ne true hjk] at hun; exact hun
      have hn' : noneB (D ++ X) (listed.setIfInBounds j true) = true := by
        refine List.all_eq_true.2 fun d hd => ?_
        have h0 := List.all_eq_true.1 hn d hd
        have hne : j ≠ d := fun e => by subst e; rw [List.contains_iff_mem.2 hd] at hjX; cases hjX
        rw [getD_set_ne true hne]; exact h0
      refine wpOp_mono (fun a' w' h3 => ⟨h3.2.1, ih (listed.setIfInBounds j true) a' w' hfree' hn' (ready_mono hr (Ne.symm hji)) h3.1 (h3.2.1 hjD hS) ?_⟩) h2
      rw [Array.setIfInBounds_comm _ _ hji]
      exact h3.2.2
theorem wpAnyD_firstP {i : Nat} {oi : Oper} {v : Value} (hi : ops[i]? = some oi) (hsel : ∀ (j : Nat) (o : Oper) cs b, ops[j]? = some o → o.op ≠ .select cs b)
    (hQ : ∀ c a w, Q (.panic c) (a.put oi.dst v) w → Q (.panic c) a w) :
    ∀ (fuel : Nat) (listed : Array Bool) (a : Act) (w : World),
      (∀ j oj, ops[j]? = some oj → j ≠ i → listed.getD j true = false → (∀ e ∈ oj.after, Region.binds md e = true → e.on ≠ i) → oi.apart ops oj = true) →
      i ∈ Region.ready md ops listed → YieldsIf P ops (fun _ => True) oi v a →
      wpAnyD P md ops Q S D fuel (listed.setIfInBounds i true) (a.put oi.dst v) w → wpAnyD P md ops Q S D (fuel + 1) listed a w := by
  intro fuel
  induction fuel with
  | zero =>
    intro listed a w _ hr hy H
    refine ⟨fun h => (by rw [h] at hr; cases hr), fun j hj => ?_⟩
    by_cases hji : j = i
    · subst hji; exact hy.wpOp hi trivial ⟨fun _ h => h, H⟩
    · have := ready_mono hj hji
      rw [H.1] at this
      cases this
  | succ fuel ih =>
    intro listed a w hfree hr hy H
    refine ⟨fun h => (by rw [h] at hr; cases hr), fun j hj => ?_⟩
    by_cases hji : j = i
    · subst hji; exact hy.wpOp hi trivial ⟨fun _ h => h, H⟩
    · have h1 := H.2 j (ready_mono hj hji)
      obtain ⟨hjun, oj, hoj, hall⟩ := mem_ready.1 hj
      have hnot : ∀ e ∈ oj.after, Region.binds md e = true → e.on ≠ i := fun e he hb heq => by
        have h1 := hall e he hb
        have h0 := (mem_ready.1 hr).1
        rw [heq] at h1
        rcases Nat.lt_or_ge i listed.size with h' | h'
        · simp [h'] at h0 h1; rw [h0] at h1; cases h1
        · simp [Array.getElem?_eq_none h'] at h1
      have h2 := wpOp_putIf hoj (hfree j oj hoj hji hjun hnot) (fun cs b => hsel i oi cs b hi) (fun cs b => hsel j oj cs b hoj) hQ hy h1
      have hfree' : ∀ k ok, ops[k]? = some ok → k ≠ i → (listed.setIfInBounds j true).getD k true = false →
          (∀ e ∈ ok.after, Region.binds md e = true → e.on ≠ i) → oi.apart ops ok = true := fun k ok hk hki hun hno => by
        refine hfree k ok hk hki ?_ hno
        by_cases hjk : j = k
        · subst hjk; exact hjun
        · rw [getD_set_ne true hjk] at hun; exact hun
      refine wpOp_mono (fun a' w' h3 => ⟨h3.2.1, ih (listed.setIfInBounds j true) a' w' hfree' (ready_mono hr (Ne.symm hji)) h3.1 ?_⟩) h2
      rw [Array.setIfInBounds_comm _ _ hji]
      exact h3.2.2
/-- take number i first: it yields in whatever world -/
theorem wpAnyD_takeP {i : Nat} {oi : Oper} {v : Value} {fuel : Nat} {listed : Array Bool} {a : Act} {w : World} (hi : ops[i]? = some oi)
    (hs : Region.noSelect ops = true) (hf : Region.free md ops listed i = true) (hr : (Region.ready md ops listed).contains i = true)
    (hQ : ∀ c a w, Q (.panic c) (a.put oi.dst v) w → Q (.panic c) a w) (hy : YieldsIf P ops (fun _ => True) oi v a)
    (h : wpAnyD P md ops Q S D fuel (listed.setIfInBounds i true) (a.put oi.dst v) w) : wpAnyD P md ops Q S D (fuel + 1) listed a w :=
  wpAnyD_firstP hi (Region.noSelect_spec hs) hQ fuel listed a w (Region.free_spec hi hf) (by simpa using hr) hy h
/-- take number i first -/
theorem wpAnyD_take (X : List Nat) {i : Nat} {oi : Oper} {v : Value} {fuel : Nat} {listed : Array Bool} {a : Act} {w : World} (hi : ops[i]? = some oi)
    (hs : Region.noSelect ops = true) (hf : Region.free md ops listed i = true) (hr : (Region.ready md ops listed).contains i = true) (hw : waitsB md ops (D ++ X) i = true) (hn : noneB (D ++ X) listed = true)
    (hQ : ∀ c a w, Q (.panic c) (a.put oi.dst v) w → Q (.panic c) a w) (hy : YieldsIf P ops S oi v a) (hS : S w)
    (h : wpAnyD P md ops Q S D fuel (listed.setIfInBounds i true) (a.put oi.dst v) w) : wpAnyD P md ops Q S D (fuel + 1) listed a w :=
  wpAnyD_first hi (Region.noSelect_spec hs) hQ hw fuel listed a w (Region.free_spec hi hf) hn (by simpa using hr) hy hS h
/-- one alone may come up -/
theorem wpAnyD_one {i : Nat} {fuel : Nat} {listed : Array Bool} {a : Act} {w : World} (hr : Region.ready md ops listed = [i])
    (h : wpOp P ops Q i (fun a' w' => (D.contains i = false → S w → S w') ∧ wpAnyD P md ops Q S D fuel (listed.setIfInBounds i true) a' w') a w) : wpAnyD P md ops Q S D (fuel + 1) listed a w :=
  ⟨fun h0 => (by rw [hr] at h0; cases h0), fun j hj => (by rw [hr] at hj; simp at hj; subst hj; exact h)⟩
/-- the step itself -/
theorem wpAnyD_step {i : Nat} {o : Oper} {fuel : Nat} {listed : Array Bool} {a : Act} {w : World} (hr : Region.ready md ops listed = [i]) (ho : ops[i]? = some o)
    (h : ∀ K' : Act → World → Prop, Shut (∀ a1 w1, ((D.contains i = false → S w → S w1) ∧ wpAnyD P md ops Q S D fuel (listed.setIfInBounds i true) a1 w1) → K' a1 w1) → if Region.wanted o (yielded ops a.tmps) = true then Oper.wp P o a w K' Q else K' (a.put o.dst undef) w) :
    wpAnyD P md ops Q S D (fuel + 1) listed a w := wpAnyD_one hr (wpOp_step ho fun K' hK => h K' fun a w hS => hK a w hS)
theorem wpAnyD_done {listed : Array Bool} {a : Act} {w : World} (hr : Region.ready md ops listed = []) (h : Q .normal a w) : ∀ fuel, wpAnyD P md ops Q S D fuel listed a w
  | 0 => ⟨hr, h⟩
  | _ + 1 => ⟨fun _ => h, by rw [hr]; simp⟩
theorem wp_region_heldD {id : Nat} {a : Act} {w : World} (hm : P.follows .mixedOrders = true)
    (h : wpAnyD P .any ops Q S D ops.size (Array.replicate ops.size false) a w.drew) : (Code.region id ops true).wp P Q a w :=
  wp_region_any hm (wpAny_of_heldD _ _ _ _ h)
end
end Go.Proofs.Ytmifojpmomdmeaa

namespace Go.Proofs.Ytmifojpmomdmeaa
open Go Go.RowKit
set_option linter.unusedVariables false
section
variable {P : Program} {ops : Array Oper} {Q : Exit → Act → World → Prop} {md : Region.Mode} {S : World → Prop}

theorem wpOp_make {i : Nat} {o : Oper} (hi : ops[i]? = some o) (hg : o.guard = none) {t : TypeId} {l c : Operand} (ho : o.op = .makeSlice t l c) {a : Act} {w w' : World} {v : Value}
    (hr : (Instr.makeSlice t (a.eval l) (a.eval c)).run P w = .ok v w') (K : Act → World → Prop) (h : K (a.put o.dst v) w') : wpOp P ops Q i K a w := by
  refine wpOp_step hi (fun K' hK => ?_)
  rw [if_pos (by unfold Region.wanted; rw [hg])]
  unfold Oper.wp execOp
  simp only [ho, Sem.run_bind, Sem.run_pure, Result.andThen_ok, hr, Oper.upon]
  exact hK _ _ h

structure Mk where
  i : Nat
  d : Nat
  cs : Array Value
  e : TypeId
def mkV (n b : Nat) : Value := .slice (some ⟨b, 0, none⟩) n n
def actB (n : Nat) (β : Nat → Option Nat) : List Mk → Act → Act
  | [], a => a
  | x :: r, a => match β x.i with
    | some b => actB n β r (a.put x.d (mkV n b))
    | none => actB n β r a
def listB (β : Nat → Option Nat) : List Mk → Array Bool → Array Bool
  | [], L => L
  | x :: r, L => match β x.i with
    | some _ => listB β r (L.setIfInBounds x.i true)
    | none => listB β r L
/-- what is ready, whichever of them are done -/
def rdyB (md : Region.Mode) (ops : Array Oper) : List Mk → Array Bool → List Nat → Bool
  | [], L, pend => pend.isEmpty || (!(Region.ready md ops L).isEmpty && (Region.ready md ops L).all fun i => pend.contains i)
  | x :: r, L, pend => rdyB md ops r L (pend ++ [x.i]) && rdyB md ops r (L.setIfInBounds x.i true) pend
def leftB (β : Nat → Option Nat) (M : List Mk) : List Nat := (M.filter fun x => (β x.i).isNone).map (·.i)
theorem rdyB_spec (β : Nat → Option Nat) : ∀ (M : List Mk) (L : Array Bool) (pend : List Nat), rdyB md ops M L pend = true → pend ++ leftB β M = [] ∨ (Region.ready md ops (listB β M L) ≠ [] ∧ ∀ i ∈ Region.ready md ops (listB β M L), i ∈ pend ++ leftB β M)
  | [], L, pend, h => by
    unfold rdyB at h
    rw [Bool.or_eq_true, Bool.and_eq_true] at h
    rcases h with h | ⟨h1, h2⟩
    · exact .inl (by simpa [leftB] using h)
    · refine .inr ⟨fun e => by unfold listB at e; rw [e] at h1; simp at h1, fun i hi => ?_⟩
      have := List.all_eq_true.1 h2 i hi
      simpa [leftB] using this
  | x :: r, L, pend, h => by
    unfold rdyB at h
    rw [Bool.and_eq_true] at h
    unfold listB leftB
    cases hb : β x.i with
    | none =>
      have := rdyB_spec β r L (pend ++ [x.i]) h.1
      rw [List.append_assoc] at this
      simpa [List.filter_cons, hb, leftB] using this
    | some b =>
      have := rdyB_spec β r (L.setIfInBounds x.i true) pend h.2
      simpa [List.filter_cons, hb, leftB] using this
theorem listB_set (β : Nat → Option Nat) (j : Nat) : ∀ (M : List Mk) (L : Array Bool), j ∉ M.map (·.i) → listB β M (L.setIfInBounds j true) = (listB β M L).setIfInBounds j true
  | [], L, _ => rfl
  | x :: r, L, h => by
    simp only [List.map_cons, List.mem_cons, not_or] at h
    unfold listB
    cases β x.i with
    | none => exact listB_set β j r L h.2
    | some b =>
      show listB β r ((L.setIfInBounds j true).setIfInBounds x.i true) = _
      rw [Array.setIfInBounds_comm _ _ h.1]
      exact listB_set β j r _ h.2
theorem put_comm (a : Act) (d d2 : Nat) (v v2 : Value) (h : d ≠ d2) : (a.put d v).put d2 v2 = (a.put d2 v2).put d v := by
  unfold Act.put
  simp only
  rw [Array.setIfInBounds_comm _ _ h]
theorem actB_put (n : Nat) (β : Nat → Option Nat) (d : Nat) (v : Value) : ∀ (M : List Mk) (a : Act), d ∉ M.map (·.d) → actB n β M (a.put d v) = (actB n β M a).put d v
  | [], a, _ => rfl
  | x :: r, a, h => by
    simp only [List.map_cons, List.mem_cons, not_or] at h
    unfold actB
    cases β x.i with
    | none => exact actB_put n β d v r a h.2
    | some b =>
      show actB n β r ((a.put d v).put x.d (mkV n b)) = _
      rw [put_comm _ _ _ _ _ h.1]
      exact actB_put n β d v r _ h.2
def addB (β : Nat → Option Nat) (i b : Nat) : Nat → Option Nat := fun j => if j = i then some b else β j
theorem other_B (n : Nat) (β : Nat → Option Nat) (i b : Nat) : ∀ (M : List Mk), i ∉ M.map (·.i) → (∀ a, actB n (addB β i b) M a = actB n β M a) ∧ (∀ L, listB (addB β i b) M L = listB β M L) ∧ leftB (addB β i b) M = leftB β M
  | [], _ => ⟨fun _ => rfl, fun _ => rfl, rfl⟩
  | x :: r, h => by
    simp only [List.map_cons, List.mem_cons, not_or] at h
    obtain ⟨h1, h2, h3⟩ := other_B n β i b r h.2
    have e : addB β i b x.i = β x.i := by unfold addB; rw [if_neg (Ne.symm h.1)]
    refine ⟨fun a => ?_, fun L => ?_, ?_⟩
    · unfold actB; rw [e]; cases β x.i with
      | none => exact h1 a
      | some c => exact h1 _
    · unfold listB; rw [e]; cases β x.i with
      | none => exact h2 L
      | some c => exact h2 _
    · unfold leftB at h3 ⊢
      rw [List.filter_cons, List.filter_cons, e]
      cases β x.i with
      | none => simpa using h3
      | some c => simpa using h3
theorem add_B (n : Nat) (β : Nat → Option Nat) (b : Nat) : ∀ (M : List Mk) (x : Mk), x ∈ M → (M.map (·.i)).Nodup → (M.map (·.d)).Nodup → β x.i = none →
    (∀ a, actB n (addB β x.i b) M a = (actB n β M a).put x.d (mkV n b)) ∧ (∀ L, listB (addB β x.i b) M L = (listB β M L).setIfInBounds x.i true) ∧ (leftB (addB β x.i b) M).length + 1 = (leftB β M).length
  | [], x, h, _, _, _ => by simp at h
  | y :: r, x, h, hi, hd, hn => by
    have hi2 := List.nodup_cons.1 hi
    have hd2 := List.nodup_cons.1 hd
    by_cases e : y = x
    · subst e
      obtain ⟨h1, h2, h3⟩ := other_B n β y.i b r hi2.1
      have ey : addB β y.i b y.i = some b := by unfold addB; rw [if_pos rfl]
      refine ⟨fun a => ?_, fun L => ?_, ?_⟩
      · unfold actB; rw [ey, hn]
        show actB n (addB β y.i b) r _ = _
        rw [h1, actB_put n β _ _ r a hd2.1]
      · unfold listB; rw [ey, hn]
        show listB (addB β y.i b) r _ = _
        rw [h2, listB_set β _ r L hi2.1]
      · unfold leftB at h3 ⊢
        rw [List.filter_cons, List.filter_cons, ey, hn]
        simp only [Option.isNone_some, Bool.false_eq_true, if_false, Option.isNone_none, if_true, List.map_cons, List.length_cons]
        rw [h3]
    · have hx : x ∈ r := by rcases List.mem_cons.1 h with h | h; exact absurd h.symm e; exact h
      obtain ⟨h1, h2, h3⟩ := add_B n β b r x hx hi2.2 hd2.2 hn
      have hne : y.i ≠ x.i := fun hh => hi2.1 (List.mem_map.2 ⟨x, hx, hh.symm⟩)
      have hde : x.d ≠ y.d := fun hh => hd2.1 (List.mem_map.2 ⟨x, hx, hh⟩)
      have ey : addB β x.i b y.i = β y.i := by unfold addB; rw [if_neg hne]
      refine ⟨fun a => ?_, fun L => ?_, ?_⟩
      · unfold actB; rw [ey]; cases β y.i with
        | none => exact h1 a
        | some c => exact h1 _
      · unfold listB; rw [ey]; cases β y.i with
        | none => exact h2 L
        | some c => exact h2 _
      · unfold leftB at h3 ⊢
        rw [List.filter_cons, List.filter_cons, ey]
        cases β y.i with
        | none => simp only [Option.isNone_none, if_true, List.map_cons, List.length_cons]; rw [h3]
        | some c => simpa using h3
/-- where their blocks are -/
structure InvB (W0 : World) (M : List Mk) (β : Nat → Option Nat) (w : World) : Prop where
  below : Below W0.heap.size W0 w
  at_ : ∀ x ∈ M, ∀ b, β x.i = some b → W0.heap.size ≤ b ∧ w.heap[b]? = some (.cells x.cs x.e)
  ne : ∀ x ∈ M, ∀ y ∈ M, ∀ b, β x.i = some b → β y.i = some b → x.i = y.i
theorem makes_any {M : List Mk} {n : Nat} {a0 : Act} {L0 : Array Bool} {fuel0 : Nat} {D : List Nat} {W0 : World} (hr : rdyB md ops M L0 [] = true) (hi : (M.map (·.i)).Nodup) (hd : (M.map (·.d)).Nodup)
    (G : Act → Prop) (hG0 : G a0) (hGp : ∀ x ∈ M, ∀ a v, G a → G (a.put x.d v))
    (hop : ∀ x ∈ M, ∀ (a : Act) (w : World) (K : Act → World → Prop), G a → K (a.put x.d (mkV n w.heap.size)) (w.alloc (.cells x.cs x.e)) → wpOp P ops Q x.i K a w)
    (hS : ∀ x ∈ M, ∀ w, S w → S (w.alloc (.cells x.cs x.e)))
    (hfin : ∀ β w, leftB β M = [] → InvB W0 M β w → S w → wpAnyD P md ops Q S D fuel0 (listB β M L0) (actB n β M a0) w) :
    ∀ (c : Nat) (β : Nat → Option Nat) (w : World), (leftB β M).length = c → InvB W0 M β w → S w → wpAnyD P md ops Q S D (fuel0 + c) (listB β M L0) (actB n β M a0) w
  | 0, β, w, hc, hI, hSw => hfin β w (List.eq_nil_of_length_eq_zero hc) hI hSw
  | c + 1, β, w, hc, hI, hSw => by
    rcases rdyB_spec β M L0 [] hr with h | ⟨h1, h2⟩
    · rw [List.nil_append] at h; rw [h] at hc; simp at hc
    · have hGa : ∀ (M' : List Mk), (∀ x ∈ M', x ∈ M) → ∀ a, G a → G (actB n β M' a) := by
        intro M'
        induction M' with
        | nil => intro _ a ha; exact ha
        | cons x r ih =>
          intro hm a ha
          unfold actB
          cases β x.i with
          | none => exact ih (fun y hy => hm y (List.mem_cons_of_mem _ hy)) a ha
          | some b => exact ih (fun y hy => hm y (List.mem_cons_of_mem _ hy)) _ (hGp x (hm x (List.mem_cons_self ..)) a _ ha)
      refine ⟨fun e => absurd e h1, fun j hj => ?_⟩
      have hj2 := h2 j hj
      rw [List.nil_append] at hj2
      obtain ⟨x, hx, rfl⟩ := List.mem_map.1 hj2
      obtain ⟨hxM, hxn⟩ := List.mem_filter.1 hx
      have hn : β x.i = none := by simpa using hxn
      obtain ⟨e1, e2, e3⟩ := add_B n β w.heap.size M x hxM hi hd hn
      refine hop x hxM _ w _ (hGa M (fun _ h => h) a0 hG0) ⟨fun _ hh => hS x hxM w hh, ?_⟩
      rw [← e1, ← e2]
      refine makes_any hr hi hd G hG0 hGp hop hS hfin c (addB β x.i w.heap.size) _ (by omega) ⟨?_, ?_, ?_⟩ (hS x hxM w hSw)
      · exact hI.below.alloc hI.below.size _
      · intro y hy b hb
        unfold addB at hb
        split at hb
        · next e =>
          obtain rfl := Option.some.inj hb
          have hyx : y = x := by
            have : ∀ (M' : List Mk), (M'.map (·.i)).Nodup → y ∈ M' → x ∈ M' → y = x := by
              intro M'
              induction M' with
              | nil => intro _ h _; simp at h
              | cons z r ih =>
                intro hn hy hx
                have hn2 := List.nodup_cons.1 hn
                rcases List.mem_cons.1 hy with rfl | hy2 <;> rcases List.mem_cons.1 hx with rfl | hx2
                · rfl
                · exact absurd (List.mem_map.2 ⟨x, hx2, e.symm⟩) hn2.1
                · exact absurd (List.mem_map.2 ⟨y, hy2, e⟩) hn2.1
                · exact ih hn2.2 hy2 hx2
            exact this M hi hy hxM
          subst hyx
          exact ⟨hI.below.size, heap_alloc_new _ _⟩
        · next e =>
          obtain ⟨h3, h4⟩ := hI.at_ y hy b hb
          refine ⟨h3, ?_⟩
          have hlt := (Array.getElem?_eq_some_iff.1 h4).1
          exact Eq.trans (by first | exact heap_alloc_old _ _ _ hlt | exact heap_alloc_old _ _ hlt) h4
      · intro y hy z hz b hb hb2
        unfold addB at hb hb2
        split at hb <;> split at hb2
        · next e e2 => rw [e, e2]
        · next e e2 =>
          obtain rfl := Option.some.inj hb
          have := (Array.getElem?_eq_some_iff.1 (hI.at_ z hz _ hb2).2).1
          omega
        · next e e2 =>
          obtain rfl := Option.some.inj hb2
          have := (Array.getElem?_eq_some_iff.1 (hI.at_ y hy _ hb).2).1
          omega
        · exact hI.ne y hy z hz b hb hb2
theorem leftB_nil {β : Nat → Option Nat} {M : List Mk} (h : leftB β M = []) : ∀ x ∈ M, ∃ b, β x.i = some b := fun x hx => by
  cases hb : β x.i with
  | some b => exact ⟨b, rfl⟩
  | none =>
    have : x.i ∈ leftB β M := List.mem_map.2 ⟨x, List.mem_filter.2 ⟨hx, by rw [hb]; rfl⟩, rfl⟩
    rw [h] at this; simp at this
theorem listB_none : ∀ (M : List Mk) (L : Array Bool), listB (fun _ => none) M L = L
  | [], _ => rfl
  | _ :: r, L => listB_none r L
theorem actB_none (n : Nat) : ∀ (M : List Mk) (a : Act), actB n (fun _ => none) M a = a
  | [], _ => rfl
  | _ :: r, a => actB_none n r a
theorem leftB_none (M : List Mk) : (leftB (fun _ => none) M).length = M.length := by unfold leftB; simp
theorem makes_all {M : List Mk} {n c : Nat} {a0 : Act} {L0 : Array Bool} (fuel0 : Nat) {D : List Nat} {w : World} (hc : M.length = c) (hr : rdyB md ops M L0 [] = true) (hi : (M.map (·.i)).Nodup) (hd : (M.map (·.d)).Nodup)
    (G : Act → Prop) (hG0 : G a0) (hGp : ∀ x ∈ M, ∀ a v, G a → G (a.put x.d v))
    (hop : ∀ x ∈ M, ∀ (a : Act) (w : World) (K : Act → World → Prop), G a → K (a.put x.d (mkV n w.heap.size)) (w.alloc (.cells x.cs x.e)) → wpOp P ops Q x.i K a w)
    (hS : ∀ x ∈ M, ∀ w, S w → S (w.alloc (.cells x.cs x.e))) (hSw : S w)
    (hfin : ∀ (β : Nat → Option Nat) w', leftB β M = [] → InvB w M β w' → S w' → wpAnyD P md ops Q S D fuel0 (listB β M L0) (actB n β M a0) w') :
    wpAnyD P md ops Q S D (fuel0 + c) L0 a0 w := by
  have h := makes_any hr hi hd G hG0 hGp hop hS hfin c (fun _ => none) w (by rw [leftB_none, hc]) ⟨Below.refl _ _, fun x _ b hb => by simp at hb, fun x _ y _ b hb => by simp at hb⟩ hSw
  rw [listB_none, actB_none] at h
  exact h
theorem eval_put {a : Act} {d k : Nat} {v : Value} (h : d ≠ k) : (a.put d v).eval (.tmp k) = a.eval (.tmp k) := by
  simp only [Act.eval, Act.put, Array.getD_eq_getD_getElem?, Array.getElem?_setIfInBounds_ne h]
end
end Go.Proofs.Ytmifojpmomdmeaa

namespace Go.Proofs.Ytmifojpmomdmeaa
open Go Go.RowKit
set_option linter.unusedVariables false
set_option linter.unusedSimpArgs false
set_option maxRecDepth 100000

theorem below_own {w0 w w' : World} {v : Value} {l : List Nat} (hB : Below w0.heap.size w0 w) (ho : OwnL w w0.heap.size v l) (k : Out (fun j => v.ownBlock = some j) w w') : Below w0.heap.size w0 w' :=
  k.below hB (Nat.le_refl _) (fun j hj => (World.ownsRow.lt ho j hj).1)
set_option maxHeartbeats 4000000 in
theorem once_any {P : Nat → Prop} (at0 : Option Addr) (c : Nat) (l : List Nat) (w : World) (h : NumsAt P w at0 l) (hl : l.length ≤ 1000) :
    Calls Try.prog 49 #[.slice at0 l.length c] w fun e w' => ∃ a c', e = .returned (.slice a (oncL l).length c') ∧ c' ≤ 9223372036854775807 ∧ NumsAt (fun g => w.heap.size ≤ g) w' a (oncL l) ∧ Below w.heap.size w w' := by
  have H := Lib.hid h
  have hli : (l.length : Int) ≤ 1000 := by omega
  clear h
  go_enter Try.func49, Try.ntmps49
  go_wp2_with fail
  go_loopw [3, 8] (fun s3 s8 wr => ∃ k : Nat, k ≤ l.length ∧ s8 = .int .i64 k ∧ OwnL wr w.heap.size s3 ((l.take k).foldl oncS []) ∧ Below w.heap.size w wr) (fun _ s8 _ => l.length - (intOf s8).toNat)
  case atStart => exact ⟨0, Nat.zero_le _, rfl, World.ownsRow_nil _ _ _ _, Below.refl _ _⟩
  case round =>
    rename_i s3 _
    obtain ⟨k, hk, rfl, ho, hB⟩ := hrel
    have HB := Lib.hid hB
    have HO := Lib.hid ho
    have hkn : ((l.take k).foldl oncS []).length ≤ 1000 := by have := oncL_len (l.take k) []; simp at this; omega
    obtain ⟨K, hK⟩ : ∃ K, K = (l.take k).foldl oncS [] := ⟨_, rfl⟩
    rw [← hK] at hkn HO
    rw [← hK] at ho
    have HKE := Lib.hid hK
    have HKN := Lib.hid hkn
    obtain ⟨a, cc, hs3, hcc, hnum⟩ := own_numsN (P := fun g => w.heap.size ≤ g) ho (fun g hg => (World.ownsRow.lt ho g hg).1)
    have hci : (cc : Int) ≤ 9223372036854775807 := by omega
    subst hs3
    clear hK ho hB
    by_cases hkl : k < l.length
    · obtain ⟨x, hx⟩ : ∃ x, l[k]? = some x := ⟨_, List.getElem?_eq_getElem hkl⟩
      obtain ⟨g, rfl, _, hg, hc⟩ := (H.out.over HB.out) k x hx
      have CN := Lib.hid (fun W (hW : Below wr.heap.size wr W) => contains_any a cc K x W (hnum.over hW) (by have := HKN.out; omega))
      have kl0 : (0 : Int) ≤ (k : Int) := by omega
      have kl1 : (k : Int) < (l.length : Int) := by omega
      have HK := Lib.hid hkl
      have HNX := Lib.hid (show (l.take (k + 1)).foldl oncS [] = oncS K x by rw [List.take_add_one, hx, List.foldl_append, ← HKE.out]; rfl)
      have hKl : (K.length : Int) ≤ 1000 := by omega
      clear hkl hx hk hkn
      by_cases hm : x ∈ K
      · have HM := Lib.hid hm
        rw [show decide (x ∈ K) = true from decide_eq_true hm] at CN
        clear hm
        go_wp2_with (go_at_call 64; (with_reducible refine (CN.out _ (Below.refl _ _)).mono ?_); rintro e w9 ⟨rfl, hb9⟩; have HB9 := Lib.hid hb9; clear hb9)
        refine ⟨⟨k + 1, by have := HK.out; omega, rfl, ?_, below_call HB.out HB9.out⟩, by have := HK.out; simp [intOf]; omega⟩
        rw [HNX.out]
        unfold oncS
        rw [if_pos HM.out]
        exact own_overN HO.out (Out.of_below (fun _ => False) HB9.out) (fun _ _ => id)
      · have HM := Lib.hid hm
        rw [show decide (x ∈ K) = false from decide_eq_false hm] at CN
        clear hm
        go_wp2_with (first
          | (go_at_call 64; (with_reducible refine (CN.out _ (Below.refl _ _)).mono ?_); rintro e w9 ⟨rfl, hb9⟩; have HB9 := Lib.hid hb9; have HO9 := Lib.hid (own_overN HO.out (Out.of_below (fun _ => False) hb9) (fun _ _ => id)); have HS9 := Lib.hid (Nat.le_trans HB.out.size hb9.size); clear hb9)
          | (at_builtin; refine app_nat rfl (.tmp 16) (.tmp 18) rfl w.heap.size _ K rfl HO9.out x rfl (by have := HKN.out; omega) HS9.out ?_; intro v' w' hown hg hn; have HW := Lib.hid hown; have HG := Lib.hid hg; clear hown hg hn))
        refine ⟨⟨k + 1, by have := HK.out; omega, rfl, ?_, below_own (below_call HB.out HB9.out) HO9.out HG.out⟩, by have := HK.out; simp [intOf]; omega⟩
        rw [HNX.out]
        unfold oncS
        rw [if_neg HM.out]
        exact HW.out
    · obtain rfl : k = l.length := by omega
      have HL := Lib.hid (show K = oncL l by rw [HKE.out, List.take_length]; rfl)
      have HNM := Lib.hid hnum
      clear hkl
      go_wp2_with fail
      go_ret
      refine ⟨a, cc, ?_, hcc, ?_, HB.out⟩
      · first | rfl | (rw [← HL.out]; rfl)
      · rw [← HL.out]; exact HNM.out
set_option maxHeartbeats 2000000 in
theorem miss_any {m : Od} (d : List Nat) (p : PlB) (T B v : Nat) (w : World) (h : PlanAt m d p T w) (hN : m.N ≤ 1000) (hb : RowAt w B [.pointer (some ⟨p.pb, 0, none⟩)]) (hv : v ≤ m.N) :
    Calls Try.prog 50 #[.int .i64 (v : Int), .pointer (some ⟨B, 0, none⟩)] w fun e w' => e = .returned (.bool (!m.there d v)) ∧ w' = w := by
  obtain ⟨pl, p0, p1, p2, p3, p4, p5, p6, p7⟩ := h.fields
  have b0 := hb.cell 0 _ rfl
  have bl := hb.lt
  have u0 := h.ht.cell v _ (thereL_at hv)
  have ul := h.ht.lt
  have v0 : (0 : Int) ≤ (v : Int) := by omega
  have v1 : (v : Int) < (m.N : Int) + 1 := by omega
  generalize m.there d v = kv at *
  clear hv h hb
  go_enter Try.func50, Try.ntmps50
  go_wp2_with fail
  go_ret
  exact ⟨rfl, rfl⟩
set_option maxHeartbeats 4000000 in
theorem index_ms {m : Od} (d : List Nat) (p : PlB) (T B : Nat) (w : World) (h : PlanAt m d p T w) (hN : m.N ≤ 1000) (hb : RowAt w B [.pointer (some ⟨p.pb, 0, none⟩)]) {P : Nat → Prop} (at0 : Option Addr) (ci : Nat) (l : List Nat) (hi : NumsAt P w at0 l) (hl : l.length ≤ 2) (hr : ∀ v ∈ l, v ≤ m.N) :
    Calls Try.prog 65 #[.slice at0 l.length ci, .func (.func 50) #[] #[.pointer (some ⟨B, 0, none⟩)]] w fun e w' => ∃ r : Int, e = .returned (.int .i64 r) ∧ Below w.heap.size w w' ∧ decide (0 ≤ r) = !(l.all (m.there d)) := by
  have UN := Lib.hid (fun (v : Nat) (hv : v ≤ m.N) (W : World) (hb2 : Below w.heap.size w W) => miss_any d p T B v W (h.over hb2) hN (hb.over hb2) hv)
  match l, hl with
  | [], _ =>
    clear h hi hr hb
    go_enter Try.func65, Try.ntmps65
    go_wp2_with fail
    refine wp_loop_rounds 1 ?_
    rw [rounds_succ]
    go_wp2_with fail
    go_returns
    exact ⟨_, rfl, Below.refl _ _, rfl⟩
  | [a], _ =>
    have UA := Lib.hid (UN.out a (hr a (by simp)))
    obtain ⟨gi, rfl, _, gl, ca⟩ := hi 0 _ rfl
    simp only [List.all_cons, List.all_nil, Bool.and_true]
    generalize m.there d a = ka at *
    clear h hi hr UN hb
    cases ka
    · go_enter Try.func65, Try.ntmps65
      go_wp2_with fail
      refine wp_loop_rounds 2 ?_
      rw [rounds_succ]
      go_wp2_with (go_at_call 50; (first | (with_reducible refine (UA.out _ (by first | (with_reducible exact Below.refl _ _) | (with_reducible exact (Below.refl _ _).drew))).mono ?_)); rintro e w9 ⟨rfl, rfl⟩)
      go_returns
      exact ⟨_, rfl, Below.refl _ _, rfl⟩
    · go_enter Try.func65, Try.ntmps65
      go_wp2_with fail
      refine wp_loop_rounds 2 ?_
      rw [rounds_succ]
      go_wp2_with (go_at_call 50; (first | (with_reducible refine (UA.out _ (by first | (with_reducible exact Below.refl _ _) | (with_reducible exact (Below.refl _ _).drew))).mono ?_)); rintro e w9 ⟨rfl, rfl⟩)
      rw [rounds_succ]
      go_wp2_with fail
      go_returns
      exact ⟨_, rfl, Below.refl _ _, rfl⟩
  | [a, b], _ =>
    have UA := Lib.hid (UN.out a (hr a (by simp)))
    have UB := Lib.hid (UN.out b (hr b (by simp)))
    obtain ⟨gi, hgi, _, gl, ca⟩ := hi 0 _ rfl
    subst hgi
    obtain ⟨gj, hgj, _, _, cb⟩ := hi 1 _ rfl
    injection hgj with hgj
    injection hgj with hgj _ _
    subst hgj
    simp only [List.all_cons, List.all_nil, Bool.and_true]
    generalize m.there d a = ka at *
    generalize m.there d b = kb at *
    clear h hi hr UN hb
    cases ka
    · go_enter Try.func65, Try.ntmps65
      go_wp2_with fail
      refine wp_loop_rounds 3 ?_
      rw [rounds_succ]
      go_wp2_with (go_at_call 50; (first | (with_reducible refine (UA.out _ (by first | (with_reducible exact Below.refl _ _) | (with_reducible exact (Below.refl _ _).drew))).mono ?_) | (with_reducible refine (UB.out _ (by first | (with_reducible exact Below.refl _ _) | (with_reducible exact (Below.refl _ _).drew))).mono ?_)); rintro e w9 ⟨rfl, rfl⟩)
      go_returns
      exact ⟨_, rfl, Below.refl _ _, rfl⟩
    · cases kb
      · go_enter Try.func65, Try.ntmps65
        go_wp2_with fail
        refine wp_loop_rounds 3 ?_
        rw [rounds_succ]
        go_wp2_with (go_at_call 50; (first | (with_reducible refine (UA.out _ (by first | (with_reducible exact Below.refl _ _) | (with_reducible exact (Below.refl _ _).drew))).mono ?_) | (with_reducible refine (UB.out _ (by first | (with_reducible exact Below.refl _ _) | (with_reducible exact (Below.refl _ _).drew))).mono ?_)); rintro e w9 ⟨rfl, rfl⟩)
        rw [rounds_succ]
        go_wp2_with (go_at_call 50; (first | (with_reducible refine (UA.out _ (by first | (with_reducible exact Below.refl _ _) | (with_reducible exact (Below.refl _ _).drew))).mono ?_) | (with_reducible refine (UB.out _ (by first | (with_reducible exact Below.refl _ _) | (with_reducible exact (Below.refl _ _).drew))).mono ?_)); rintro e w9 ⟨rfl, rfl⟩)
        go_returns
        exact ⟨_, rfl, Below.refl _ _, rfl⟩
      · go_enter Try.func65, Try.ntmps65
        go_wp2_with fail
        refine wp_loop_rounds 3 ?_
        rw [rounds_succ]
        go_wp2_with (go_at_call 50; (first | (with_reducible refine (UA.out _ (by first | (with_reducible exact Below.refl _ _) | (with_reducible exact (Below.refl _ _).drew))).mono ?_) | (with_reducible refine (UB.out _ (by first | (with_reducible exact Below.refl _ _) | (with_reducible exact (Below.refl _ _).drew))).mono ?_)); rintro e w9 ⟨rfl, rfl⟩)
        rw [rounds_succ]
        go_wp2_with (go_at_call 50; (first | (with_reducible refine (UA.out _ (by first | (with_reducible exact Below.refl _ _) | (with_reducible exact (Below.refl _ _).drew))).mono ?_) | (with_reducible refine (UB.out _ (by first | (with_reducible exact Below.refl _ _) | (with_reducible exact (Below.refl _ _).drew))).mono ?_)); rintro e w9 ⟨rfl, rfl⟩)
        rw [rounds_succ]
        go_wp2_with fail
        go_returns
        exact ⟨_, rfl, Below.refl _ _, rfl⟩
set_option maxHeartbeats 4000000 in
theorem contains_ms {m : Od} (d : List Nat) (p : PlB) (T B : Nat) (w : World) (h : PlanAt m d p T w) (hN : m.N ≤ 1000) (hb : RowAt w B [.pointer (some ⟨p.pb, 0, none⟩)]) {P : Nat → Prop} (at0 : Option Addr) (ci : Nat) (l : List Nat) (hi : NumsAt P w at0 l) (hl : l.length ≤ 2) (hr : ∀ v ∈ l, v ≤ m.N) :
    Calls Try.prog 51 #[.slice at0 l.length ci, .func (.func 50) #[] #[.pointer (some ⟨B, 0, none⟩)]] w fun e w' => e = .returned (.bool (!(l.all (m.there d)))) ∧ Below w.heap.size w w' := by
  have IX := Lib.hid (index_ms d p T B w h hN hb at0 ci l hi hl hr)
  generalize (l.all (m.there d)) = q at *
  clear hi h hr hb
  go_enter Try.func51, Try.ntmps51
  go_wp2_with (go_at_call 65; (with_reducible refine IX.out.mono ?_); rintro e w9 ⟨r, rfl, hb9, hr9⟩; have HR9 := Lib.hid hr9; have HB9 := Lib.hid hb9; clear hb9 hr9)
  go_ret
  exact ⟨by rw [← HR9.out]; rfl, HB9.out⟩
theorem pick_bd {m : Od} (H : m.Ok) (F : m.Fit) (d : List Nat) : ∀ (l : List Nat) (q : Nat × Int), q.1 ≤ m.N → -200000 ≤ q.2 → q.2 ≤ 100000 → (∀ v ∈ l, v ≤ m.N) → (l.foldl (m.pick d) q).1 ≤ m.N ∧ -200000 ≤ (l.foldl (m.pick d) q).2 ∧ (l.foldl (m.pick d) q).2 ≤ 100000
  | [], q, h1, h2, h3, _ => ⟨h1, h2, h3⟩
  | v :: r, q, h1, h2, h3, hl => by
    rw [List.foldl_cons]
    have hb := more_bd H F d v
    have hv := hl v (List.mem_cons_self ..)
    have : (m.pick d q v).1 ≤ m.N ∧ -200000 ≤ (m.pick d q v).2 ∧ (m.pick d q v).2 ≤ 100000 := by
      unfold Od.pick
      split
      · split
        · exact ⟨hv, hb⟩
        · exact ⟨h1, h2, h3⟩
      · exact ⟨h1, h2, h3⟩
    exact pick_bd H F d r _ this.1 this.2.1 this.2.2 (fun x hx => hl x (List.mem_cons_of_mem _ hx))
set_option maxHeartbeats 4000000 in
theorem next_any {m : Od} (H : m.Ok) (F : m.Fit) (d : List Nat) (p : PlB) (T : Nat) (w : World) (h : PlanAt m d p T w) :
    Calls Try.prog 34 #[.pointer (some ⟨p.pb, 0, none⟩)] w fun e w' => e = .returned (.int .i64 (m.next d : Nat)) ∧ Below w.heap.size w w' := by
  have hal := Below.alloc (Below.refl w.heap.size w) (Nat.le_refl _) (.cells #[.pointer (some ⟨p.pb, 0, none⟩)] 74)
  have HBX := Lib.hid (RowAt.new w [.pointer (some ⟨p.pb, 0, none⟩)] 74)
  have HP1 := Lib.hid (h.over hal)
  have HAL := Lib.hid hal
  have HNE := Lib.hid (show m.next d = (m.todo.foldl (m.pick d) (0, 0)).1 from rfl)
  have hq := h.hqc
  have htd := todo_short H
  have hN := F.n
  have hti : (m.todo.length : Int) ≤ 1000 := by omega
  have HBD := Lib.hid (fun k => pick_bd H F d (m.todo.take k) (0, 0) (Nat.zero_le _) (by decide) (by decide) (fun v hv => (todo_mem.1 (List.mem_of_mem_take hv)).1))
  have MR := Lib.hid (fun v (hv : v ∈ m.todo) W (hW : Below w.heap.size w W) => more_any H F d p T v W (h.over hW) hv)
  have MB := Lib.hid (fun v => more_bd H F d v)
  have OL := Lib.hid (fun v => onc_len2 H v)
  have LT := Lib.hid (fun v (hv : v ∈ m.todo) x (hx : x ∈ oncL (m.rd v)) => Nat.lt_of_lt_of_le (H.lt v x (todo_mem.1 hv).2 ((oncL_mem _ x).1 hx)) (todo_mem.1 hv).1)
  have HNN := Lib.hid hN
  clear h hal H F htd
  go_enter Try.func34, Try.ntmps34
  go_upto_region 1 with fail
  obtain ⟨W1, hW1⟩ : ∃ W, W = w.alloc (.cells #[.pointer (some ⟨p.pb, 0, none⟩)] 74) := ⟨_, rfl⟩
  have hE : w.alloc (.cells [Value.pointer (some ⟨p.pb, 0, none⟩)].toArray 74) = W1 := by rw [hW1]
  rw [← hW1] at HP1 HAL ⊢
  rw [hE] at HBX
  clear hW1 hE
  obtain ⟨B, hB⟩ : ∃ B, B = w.heap.size := ⟨_, rfl⟩
  rw [← hB] at HBX ⊢
  clear hB
  have b0 := HBX.out.cell 0 _ rfl
  have bl := HBX.out.lt
  obtain ⟨pl, p0, p1, p2, p3, p4, p5, p6, p7⟩ := HP1.out.fields
  go_wp2_with fail
  clear b0 bl pl p0 p1 p2 p3 p4 p5 p6 p7
  go_loopw [4, 5, 15] (fun s4 s5 s15 wr => ∃ k : Nat, k ≤ m.todo.length ∧ s15 = .int .i64 k ∧ s4 = .int .i64 (((m.todo.take k).foldl (m.pick d) (0, 0)).1 : Nat) ∧ s5 = .int .i64 ((m.todo.take k).foldl (m.pick d) (0, 0)).2 ∧ Below W1.heap.size W1 wr) (fun _ _ s15 _ => m.todo.length - (intOf s15).toNat)
  case atStart => exact ⟨0, Nat.zero_le _, rfl, rfl, rfl, Below.refl _ _⟩
  case round =>
    obtain ⟨k, hk, rfl, rfl, rfl, hBx⟩ := hrel
    have HB := Lib.hid hBx
    obtain ⟨c1, c2, c3⟩ := HBD.out k
    obtain ⟨Q, hQ⟩ : ∃ q, q = (m.todo.take k).foldl (m.pick d) (0, 0) := ⟨_, rfl⟩
    rw [← hQ] at c1 c2 c3 ⊢
    have HQ := Lib.hid hQ
    obtain ⟨bs, ls⟩ := Q
    dsimp only at c1 c2 c3 ⊢
    clear hBx hQ
    by_cases hkl : k < m.todo.length
    · obtain ⟨v, hv⟩ : ∃ x, m.todo[k]? = some x := ⟨_, List.getElem?_eq_getElem hkl⟩
      have hvt := List.mem_of_getElem? hv
      have hvN := (todo_mem.1 hvt).1
      have PR := HP1.out.over HB.out
      obtain ⟨pl, p0, p1, p2, p3, p4, p5, p6, p7⟩ := PR.fields
      obtain ⟨a, cc, r1, hc, hn⟩ := PR.rc v hvt
      have r2 := PR.hr.cell v _ r1
      have rl := PR.hr.lt
      have t1 := PR.ht.cell v _ (thereL_at hvN)
      have tl := PR.ht.lt
      have hBr := HBX.out.over HB.out
      have b0 := hBr.cell 0 _ rfl
      have bl := hBr.lt
      have CM := Lib.hid (contains_ms d p T B wr PR HNN.out hBr a cc (oncL (m.rd v)) hn (OL.out v) (fun x hx => Nat.le_of_lt (LT.out v hvt x hx)))
      obtain ⟨g, hqa, hfar, hgl, hgc⟩ := PR.hq k v hv
      have MV := Lib.hid (fun W hW => MR.out v hvt W hW)
      obtain ⟨mb0, mb1⟩ := MB.out v
      have hol := OL.out v
      have hoi : ((oncL (m.rd v)).length : Int) ≤ 2 := by omega
      have hci : (cc : Int) ≤ 9223372036854775807 := by omega
      have HPK := Lib.hid (show (m.todo.take (k + 1)).foldl (m.pick d) (0, 0) = m.pick d (bs, ls) v by rw [List.take_add_one, hv, List.foldl_append, ← HQ.out]; rfl)
      have hcan : m.can d v = (!m.there d v && (oncL (m.rd v)).all (m.there d)) := rfl
      have HPD := Lib.hid (show m.pick d (bs, ls) v = if (!m.there d v && (oncL (m.rd v)).all (m.there d)) = true then (if bs = 0 ∨ m.more d v < ls then (v, m.more d v) else (bs, ls)) else (bs, ls) from rfl)
      have kl0 : (0 : Int) ≤ (k : Int) := by omega
      have kl1 : (k : Int) < (m.todo.length : Int) := by omega
      have v0 : (0 : Int) ≤ (v : Int) := by omega
      have v1 : (v : Int) < (m.N : Int) + 1 := by omega
      have HK := Lib.hid hkl
      have HAB := Lib.hid (below_call HAL.out HB.out)
      have QA := Lib.hid hqa
      rw [hqa] at p6
      generalize m.there d v = tv at *
      generalize (oncL (m.rd v)).all (m.there d) = av at *
      generalize m.more d v = mo at *
      rw [hqa]
      clear hv hvt hvN PR r1 hn hBr hfar hkl hk hcan hqa hol
      cases tv
      · cases av
        · go_wp2_with (go_at_call 51; (with_reducible refine CM.out.mono ?_); rintro e w9 ⟨rfl, hb9⟩; have HB9 := Lib.hid hb9; clear hb9)
          exact ⟨⟨k + 1, by have := HK.out; omega, rfl, by rw [HPK.out, HPD.out]; rfl, by rw [HPK.out, HPD.out]; rfl, below_call HB.out HB9.out⟩, by have := HK.out; simp [intOf]; omega⟩
        · by_cases hb0 : bs = 0
          · subst hb0
            go_wp2_with (first
              | (go_at_call 51; (with_reducible refine CM.out.mono ?_); rintro e w9 ⟨rfl, hb9⟩; have HB9 := Lib.hid hb9; have b02 := ((HBX.out.over HB.out).over hb9).cell 0 _ rfl; have bl2 := ((HBX.out.over HB.out).over hb9).lt; clear hb9)
              | (go_at_call 52; (with_reducible refine (MV.out _ (below_call HAB.out HB9.out)).mono ?_); rintro e w10 ⟨rfl, hb10⟩; have HB10 := Lib.hid hb10; clear hb10))
            exact ⟨⟨k + 1, by have := HK.out; omega, rfl, by rw [HPK.out, HPD.out]; rfl, by rw [HPK.out, HPD.out]; rfl, below_call (below_call HB.out HB9.out) HB10.out⟩, by have := HK.out; simp [intOf]; omega⟩
          · have tb : ((bs : Int) == 0) = false := by simp; omega
            have HB0 := Lib.hid hb0
            clear hb0
            by_cases hlt : mo < ls
            · have HLT := Lib.hid hlt
              go_wp2_with (first
                | (go_at_call 51; (with_reducible refine CM.out.mono ?_); rintro e w9 ⟨rfl, hb9⟩; have HB9 := Lib.hid hb9; have b02 := ((HBX.out.over HB.out).over hb9).cell 0 _ rfl; have bl2 := ((HBX.out.over HB.out).over hb9).lt; clear hb9)
                | (go_at_call 52; (with_reducible refine (MV.out _ (below_call HAB.out HB9.out)).mono ?_); rintro e w10 ⟨rfl, hb10⟩; have HB10 := Lib.hid hb10; clear hb10))
              exact ⟨⟨k + 1, by have := HK.out; omega, rfl, by rw [HPK.out, HPD.out]; simp [HLT.out], by rw [HPK.out, HPD.out]; simp [HLT.out], below_call (below_call HB.out HB9.out) HB10.out⟩, by have := HK.out; simp [intOf]; omega⟩
            · have HLT := Lib.hid hlt
              go_wp2_with (first
                | (go_at_call 51; (with_reducible refine CM.out.mono ?_); rintro e w9 ⟨rfl, hb9⟩; have HB9 := Lib.hid hb9; have b02 := ((HBX.out.over HB.out).over hb9).cell 0 _ rfl; have bl2 := ((HBX.out.over HB.out).over hb9).lt; clear hb9)
                | (go_at_call 52; (with_reducible refine (MV.out _ (below_call HAB.out HB9.out)).mono ?_); rintro e w10 ⟨rfl, hb10⟩; have HB10 := Lib.hid hb10; clear hb10))
              exact ⟨⟨k + 1, by have := HK.out; omega, rfl, by rw [HPK.out, HPD.out, if_pos (show (!false && true) = true from rfl), if_neg (fun h => h.elim HB0.out (fun h2 => by have := HLT.out; omega))], by rw [HPK.out, HPD.out, if_pos (show (!false && true) = true from rfl), if_neg (fun h => h.elim HB0.out (fun h2 => by have := HLT.out; omega))], below_call (below_call HB.out HB9.out) HB10.out⟩, by have := HK.out; simp [intOf]; omega⟩
      · go_wp2_with fail
        exact ⟨⟨k + 1, by have := HK.out; omega, rfl, by rw [HPK.out, HPD.out]; rfl, by rw [HPK.out, HPD.out]; rfl, HB.out⟩, by have := HK.out; simp [intOf]; omega⟩
    · obtain rfl : k = m.todo.length := by omega
      have hm : m.next d = bs := by rw [HNE.out]; have := HQ.out; rw [List.take_length] at this; rw [← this]
      have HM := Lib.hid hm
      have HBF := Lib.hid (below_call HAL.out HB.out)
      clear hkl hm
      go_wp2_with fail
      go_ret
      exact ⟨by rw [HM.out]; rfl, HBF.out⟩
end Go.Proofs.Ytmifojpmomdmeaa

namespace Go.Proofs.Ytmifojpmomdmeaa
open Go Go.RowKit
set_option linter.unusedVariables false
set_option linter.unusedSimpArgs false
set_option maxRecDepth 100000

def opF (ns : List Nd) (k : Nat) : Int := ((ns[k]?).map fun (n : Nd) => n.op).getD 0
theorem opF_at {ns : List Nd} {k : Nat} {n : Nd} (h : ns[k]? = some n) : opF ns k = n.op := by unfold opF; rw [h]; rfl
def odM (g : GrQ) (need : List Bool) : Od where
  N := g.ns.length
  rd := fun v => if v = 0 then [] else insF g.ns (v - 1)
  sz := fun v => sizeG ((graphE g.gr).2.getD v default)
  need := fun v => need.getD v false
  free := fun v => decide (v = 0) || decide (opF g.ns (v - 1) = 1)
  out := g.o.toNat
theorem info_intO : (Try.prog.info? 3).map (fun i => (i.zero, i.size, i.bytes)) = some (some (.int .i64 0), 1, 8) := by kernel_rfl
theorem info_sliO : (Try.prog.info? 42).map (fun i => (i.zero, i.size, i.bytes)) = some (some (.slice none 0 0), 1, 24) := by kernel_rfl
theorem madeO (v : Value) (n : Nat) : madeCells #[v] n = (List.replicate n v).toArray := by
  apply Array.ext'
  apply List.ext_getElem
  · simp [madeCells]
  · intro i h1 h2
    simp [madeCells, Nat.mod_one]
/-- the plan while it is made: k nodes are told -/
def NpAt (m : Od) (b : B6) (T1 : Nat) (o : Value) (k : Nat) (w : World) : Prop :=
  ∃ (q : Value) (rv : List Value), Six (m.N + 1) b o q (.int .i64 0) rv (intsV (m.sizesK k)) (intsV (m.readersK k)) (boolsN (m.thereK k)) (boolsN (m.freesK k)) w ∧ OwnL w T1 q (m.todoK k) ∧ rv.length = m.N + 1 ∧
    ∀ v ∈ m.todoK k, ∃ a c, rv[v]? = some (.slice a (oncL (m.rd v)).length c) ∧ c ≤ 9223372036854775807 ∧ NumsAt (fun g => T1 ≤ g ∧ q.ownBlock ≠ some g) w a (oncL (m.rd v))
theorem rep_ints (n : Nat) : List.replicate n (Value.int .i64 0) = intsV (List.replicate n 0) := by simp [intsV]
theorem rep_bools (n : Nat) : List.replicate n (Value.bool false) = boolsN (List.replicate n false) := by simp [boolsN]
theorem intsV_set (L : List Int) (j : Nat) (x : Int) : (intsV L).set j (.int .i64 x) = intsV (L.set j x) := by simp [intsV, List.map_set]
theorem boolsN_setL (L : List Bool) (j : Nat) (x : Bool) : (boolsN L).set j (.bool x) = boolsN (L.set j x) := by simp [boolsN, List.map_set]
set_option maxHeartbeats 8000000 in
theorem newPlan_any (g : GrQ) (need : List Bool) (U uc : Nat) (w : World) (hC : CnsIn w g.ca g.C g.cc) (hN : NdsIn w g.na g.ns g.nc) (hn : g.ns.length ≤ 1000) (he : (graphE g.gr).1 = 0) (hU : RowAt w U (boolsN need)) (hnl : need.length = g.ns.length + 1) (hok : (odM g need).Ok) :
    Calls Try.prog 33 #[g.val, .slice (some ⟨U, 0, none⟩) (g.ns.length + 1) uc] w fun e w' => ∃ p, e = .returned (.pointer (some ⟨p.pb, 0, none⟩)) ∧ PlanAt (odM g need) [] p w'.heap.size w' ∧ (w.heap.size ≤ p.db ∧ w.heap.size ≤ p.tb) ∧ Below w.heap.size w w' := by
  obtain ⟨T, Z, Z0, NL⟩ := node_type
  have hL := NL.load
  have hAl := NL.alloc
  have hSt := NL.store
  have tA := NL.agg
  have tS := NL.size
  have tZ := NL.zero
  obtain ⟨gx, gy, gz, ca, cc, C, na, nc, ns, go⟩ := g
  have B0 : Below w.heap.size w (w.alloc (.cells #[.int .i64 gx, .int .i64 gy, .int .i64 gz, .slice ca C.length cc, .slice na ns.length nc, .int .i64 go] 26)) := Below.alloc (Below.refl _ _) (Nat.le_refl _) _
  have SY := shapes_all ⟨gx, gy, gz, ca, cc, C, na, nc, ns, go⟩ (w.alloc (.cells #[.int .i64 gx, .int .i64 gy, .int .i64 gz, .slice ca C.length cc, .slice na ns.length nc, .int .i64 go] 26)) (hC.later B0) (FlatIn.later hN B0) hn
  unfold ShPost at SY
  have GK := graph_ok he
  obtain ⟨E, hE⟩ : ∃ E, E = graphE (GrQ.gr ⟨gx, gy, gz, ca, cc, C, na, nc, ns, go⟩) := ⟨_, rfl⟩
  have GO := graph_ins he
  have GA := Lib.hid (graph_ahead he)
  have GA := Lib.hid (show ∀ (k : Nat) (n : Nd), ns[k]? = some n → ∀ v ∈ insN n, 0 ≤ v ∧ v ≤ (k : Int) from GA.out)
  have HSZ := Lib.hid (show ∀ v, (odM ⟨gx, gy, gz, ca, cc, C, na, nc, ns, go⟩ need).sz v = sizeG (E.2.getD v default) from fun v => by rw [hE]; rfl)
  rw [← hE] at SY GK he
  have HN := Lib.hid hN
  have hnl' := hN.1
  rw [List.length_map] at hnl'
  have hcb : nc ≤ 9223372036854775807 := hN.2.1
  have HU := Lib.hid (hU.over B0)
  obtain ⟨ec, el⟩ := E
  dsimp only at he
  subst he
  obtain ⟨m, hm⟩ : ∃ m, m = odM ⟨gx, gy, gz, ca, cc, C, na, nc, ns, go⟩ need := ⟨_, rfl⟩
  rw [← hm] at HSZ hok ⊢
  have MN := Lib.hid (show m.N = ns.length by rw [hm]; rfl)
  have MO := Lib.hid (show m.out = go.toNat by rw [hm]; rfl)
  have HM := Lib.hid hm
  have HOK := Lib.hid hok
  unfold GrQ.val at SY ⊢
  dsimp only at *
  have RG := Lib.hid (RowAt.new w [.int .i64 gx, .int .i64 gy, .int .i64 gz, .slice ca C.length cc, .slice na ns.length nc, .int .i64 go] 26)
  have BW := Lib.hid B0
  have SYH := Lib.hid SY
  have GKH := Lib.hid GK
  obtain ⟨go0, go1⟩ : 0 ≤ go ∧ go < ((ns.length + 1 : Nat) : Int) := ⟨GO.2.1, GO.2.2⟩
  clear B0 SY hC hN hU hE GK hm hok GO
  have hm1 := fun W => run_make_row' (P := Try.prog) 42 3 (.int .i64 0) 8 Try.underlying42 info_intO rfl .i64 .i64 (ns.length + 1) (by omega) (by omega) W
  have hm2 := fun W => run_make_row' (P := Try.prog) 71 4 (.bool false) 1 Try.underlying71 info_boolN rfl .i64 .i64 (ns.length + 1) (by omega) (by omega) W
  have hm3 := fun W => run_make_row' (P := Try.prog) 76 42 (.slice none 0 0) 24 Try.underlying76 info_sliO rfl .i64 .i64 (ns.length + 1) (by omega) (by omega) W
  push_cast at hm1 hm2 hm3
  go_enter Try.func33, Try.ntmps33
  simp only [hL, hAl, hSt]
  clear hL hAl hSt
  go_upto_region 3 with (go_at_call 18; (with_reducible refine SYH.out.mono ?_); rintro e w2 ⟨v, rfl, hb2, _, hyes⟩; have hown := hyes (by trivial); have HB2 := Lib.hid (below_call BW.out hb2); have RG2 := Lib.hid (RG.out.over hb2); have RU2 := Lib.hid (HU.out.over hb2); obtain ⟨sb, scap, rfl, hsb, hsl, hsh⟩ := own_sh hown (by rw [GKH.out.2]; show 0 < ns.length + 1; omega); have HSH := Lib.hid hsh; have ell := GKH.out.2; rw [show (GrQ.gr ⟨gx, gy, gz, ca, cc, C, na, nc, ns, go⟩).ns.length = ns.length from rfl] at ell; rw [ell]; clear hb2 hyes hown hsh)
  have b3 := RG2.out.cell 5 _ rfl
  have bl := RG2.out.lt
  have BM := Lib.hid (fun (W : World) => Below.alloc (Below.refl W.heap.size W) (Nat.le_refl _))
  go_cut [8] (fun s8 wx => ∃ b : B6, s8 = .pointer (some ⟨b.pb, 0, none⟩) ∧ Six (ns.length + 1) b (.int .i64 go) (.slice none 0 0) (.int .i64 0) (List.replicate (ns.length + 1) (.slice none 0 0)) (List.replicate (ns.length + 1) (.int .i64 0)) (List.replicate (ns.length + 1) (.int .i64 0)) (List.replicate (ns.length + 1) (.bool false)) (List.replicate (ns.length + 1) (.bool false)) wx ∧ b.Apart wx.heap.size ∧ (w2.heap.size ≤ b.pb ∧ w2.heap.size ≤ b.rb ∧ w2.heap.size ≤ b.sb ∧ w2.heap.size ≤ b.db ∧ w2.heap.size ≤ b.tb ∧ w2.heap.size ≤ b.fb) ∧ Below w2.heap.size w2 wx)
  case first =>
    refine wp_region_heldD (S := fun (w' : World) => w'.cell? ⟨w.heap.size, 5, none⟩ = some (.int .i64 go) ∧ w.heap.size < w'.heap.size) (D := ([] : List Nat)) (by kernel_rfl) ?_
    have hHeld : (fun (w' : World) => w'.cell? ⟨w.heap.size, 5, none⟩ = some (.int .i64 go) ∧ w.heap.size < w'.heap.size) _ := ⟨b3, bl⟩
    refine wpAnyD_takeP (i := 0) (oi := _) (v := ?v0) rfl (by kernel_rfl) (by kernel_rfl) (by kernel_rfl) (fun _ _ _ h => h) (Or.inl ⟨by rfl, ?y0⟩) ?_
    case y0 => (intro wq hSw; go_simp; try with_reducible rfl)
    try simp only [Act.put, List.getElem_toArray, List.getElem_cons_zero, List.setIfInBounds_toArray, List.set_cons_zero, List.set_cons_succ]
    refine wpAnyD_take [] (i := 1) (oi := _) (v := ?v1) rfl (by kernel_rfl) (by kernel_rfl) (by kernel_rfl) (by kernel_rfl) (by kernel_rfl) (fun _ _ _ h => h) (Or.inl ⟨by rfl, ?y1⟩) hHeld ?_
    case y1 => (intro wq hSw; (try dsimp only at hSw); go_simp; try with_reducible rfl)
    try simp only [Act.put, List.getElem_toArray, List.getElem_cons_zero, List.getElem_cons_succ, List.setIfInBounds_toArray, List.set_cons_zero, List.set_cons_succ]
    refine wpAnyD_takeP (i := 2) (oi := _) (v := ?v2) rfl (by kernel_rfl) (by kernel_rfl) (by kernel_rfl) (fun _ _ _ h => h) (Or.inl ⟨by rfl, ?y2⟩) ?_
    case y2 => (intro wq hSw; go_simp; try with_reducible rfl)
    try simp only [Act.put, List.getElem_toArray, List.getElem_cons_zero, List.getElem_cons_succ, List.setIfInBounds_toArray, List.set_cons_zero, List.set_cons_succ]
    refine wpAnyD_takeP (i := 4) (oi := _) (v := ?v4) rfl (by kernel_rfl) (by kernel_rfl) (by kernel_rfl) (fun _ _ _ h => h) (Or.inl ⟨by rfl, ?y4⟩) ?_
    case y4 => (intro wq hSw; go_simp; try with_reducible rfl)
    try simp only [Act.put, List.getElem_toArray, List.getElem_cons_zero, List.getElem_cons_succ, List.setIfInBounds_toArray, List.set_cons_zero, List.set_cons_succ]
    refine wpAnyD_takeP (i := 6) (oi := _) (v := ?v6) rfl (by kernel_rfl) (by kernel_rfl) (by kernel_rfl) (fun _ _ _ h => h) (Or.inl ⟨by rfl, ?y6⟩) ?_
    case y6 => (intro wq hSw; go_simp; try with_reducible rfl)
    try simp only [Act.put, List.getElem_toArray, List.getElem_cons_zero, List.getElem_cons_succ, List.setIfInBounds_toArray, List.set_cons_zero, List.set_cons_succ]
    refine wpAnyD_takeP (i := 8) (oi := _) (v := ?v8) rfl (by kernel_rfl) (by kernel_rfl) (by kernel_rfl) (fun _ _ _ h => h) (Or.inl ⟨by rfl, ?y8⟩) ?_
    case y8 => (intro wq hSw; go_simp; try with_reducible rfl)
    try simp only [Act.put, List.getElem_toArray, List.getElem_cons_zero, List.getElem_cons_succ, List.setIfInBounds_toArray, List.set_cons_zero, List.set_cons_succ]
    refine wpAnyD_takeP (i := 10) (oi := _) (v := ?v10) rfl (by kernel_rfl) (by kernel_rfl) (by kernel_rfl) (fun _ _ _ h => h) (Or.inl ⟨by rfl, ?y10⟩) ?_
    case y10 => (intro wq hSw; go_simp; try with_reducible rfl)
    try simp only [Act.put, List.getElem_toArray, List.getElem_cons_zero, List.getElem_cons_succ, List.setIfInBounds_toArray, List.set_cons_zero, List.set_cons_succ]
    refine makes_all (D := []) (M := [⟨3, 24, madeCells #[.slice none 0 0] (ns.length + 1), 42⟩, ⟨5, 26, madeCells #[.int .i64 0] (ns.length + 1), 3⟩, ⟨7, 28, madeCells #[.int .i64 0] (ns.length + 1), 3⟩, ⟨9, 30, madeCells #[.bool false] (ns.length + 1), 4⟩, ⟨11, 32, madeCells #[.bool false] (ns.length + 1), 4⟩]) (n := ns.length + 1) (c := 5) 3 rfl (by kernel_rfl) (by simp) (by simp)
      (fun a => a.eval (.tmp 23) = .int .i64 ((ns.length : Int) + 1) ∧ a.eval (.tmp 25) = .int .i64 ((ns.length : Int) + 1) ∧ a.eval (.tmp 27) = .int .i64 ((ns.length : Int) + 1) ∧ a.eval (.tmp 29) = .int .i64 ((ns.length : Int) + 1) ∧ a.eval (.tmp 31) = .int .i64 ((ns.length : Int) + 1)) ⟨rfl, rfl, rfl, rfl, rfl⟩ ?gp ?op ?ss hHeld ?fin
    case gp =>
      intro x hx a v hG
      simp only [List.mem_cons, List.not_mem_nil, or_false] at hx
      rcases hx with rfl | rfl | rfl | rfl | rfl <;> exact ⟨(eval_put (by simp)).trans hG.1, (eval_put (by simp)).trans hG.2.1, (eval_put (by simp)).trans hG.2.2.1, (eval_put (by simp)).trans hG.2.2.2.1, (eval_put (by simp)).trans hG.2.2.2.2⟩
    case op =>
      intro x hx a W K hG hK
      simp only [List.mem_cons, List.not_mem_nil, or_false] at hx
      rcases hx with rfl | rfl | rfl | rfl | rfl
      · exact wpOp_make (o := _) rfl rfl rfl (by rw [hG.1]; exact hm3 W) K hK
      · exact wpOp_make (o := _) rfl rfl rfl (by rw [hG.2.1]; exact hm1 W) K hK
      · exact wpOp_make (o := _) rfl rfl rfl (by rw [hG.2.2.1]; exact hm1 W) K hK
      · exact wpOp_make (o := _) rfl rfl rfl (by rw [hG.2.2.2.1]; exact hm2 W) K hK
      · exact wpOp_make (o := _) rfl rfl rfl (by rw [hG.2.2.2.2]; exact hm2 W) K hK
    case ss =>
      intro x hx W hW
      exact ⟨(World.cell?_of_block (heap_alloc_old W _ hW.2)).trans hW.1, by rw [size_alloc1]; omega⟩
    case fin =>
      intro β W hl hI hSW
      have hal := leftB_nil hl
      obtain ⟨rb, h3⟩ := hal _ (List.mem_cons_self ..)
      obtain ⟨zb, h5⟩ := hal _ (List.mem_cons_of_mem _ (List.mem_cons_self ..))
      obtain ⟨db, h7⟩ := hal _ (List.mem_cons_of_mem _ (List.mem_cons_of_mem _ (List.mem_cons_self ..)))
      obtain ⟨tb, h9⟩ := hal _ (List.mem_cons_of_mem _ (List.mem_cons_of_mem _ (List.mem_cons_of_mem _ (List.mem_cons_self ..))))
      obtain ⟨fb, h11⟩ := hal _ (List.mem_cons_of_mem _ (List.mem_cons_of_mem _ (List.mem_cons_of_mem _ (List.mem_cons_of_mem _ (List.mem_cons_self ..)))))
      dsimp only at h3 h5 h7 h9 h11
      simp only [listB, actB, h3, h5, h7, h9, h11, mkV]
      try simp only [Act.put, List.getElem_toArray, List.getElem_cons_zero, List.getElem_cons_succ, List.setIfInBounds_toArray, List.set_cons_zero, List.set_cons_succ]
      refine wpAnyD_takeP (i := 12) (oi := _) (v := ?v12) rfl (by kernel_rfl) (by kernel_rfl) (by kernel_rfl) (fun _ _ _ h => h) (Or.inl ⟨by rfl, ?y12⟩) ?_
      case y12 => (intro wq hSw; go_simp; try with_reducible rfl)
      try simp only [Act.put, List.getElem_toArray, List.getElem_cons_zero, List.getElem_cons_succ, List.setIfInBounds_toArray, List.set_cons_zero, List.set_cons_succ]
      have hlt := hSW.2
      refine wpAnyD_step (i := 13) (o := _) (by kernel_rfl) rfl (fun K hK => ?_)
      try simp only [Act.put, List.getElem_toArray, List.getElem_cons_zero, List.getElem_cons_succ, List.setIfInBounds_toArray, List.set_cons_zero, List.set_cons_succ]
      go_simp
      refine hK.out _ _ ⟨fun _ hh => ⟨(World.cell?_of_block (heap_alloc_old W _ hlt)).trans hh.1, by rw [size_alloc1]; omega⟩, ?_⟩
      clear hK K
      try simp only [Act.put, List.getElem_toArray, List.getElem_cons_zero, List.getElem_cons_succ, List.setIfInBounds_toArray, List.set_cons_zero, List.set_cons_succ]
      refine wpAnyD_takeP (i := 14) (oi := _) (v := ?v14) rfl (by kernel_rfl) (by kernel_rfl) (by kernel_rfl) (fun _ _ _ h => h) (Or.inl ⟨by rfl, ?y14⟩) ?_
      case y14 => (intro wq hSw; go_simp; try with_reducible rfl)
      try simp only [Act.put, List.getElem_toArray, List.getElem_cons_zero, List.getElem_cons_succ, List.setIfInBounds_toArray, List.set_cons_zero, List.set_cons_succ]
      refine wpAnyD_done (by kernel_rfl) ?_ _
      go_wp2_with fail
      go_meet
      have i3 := hI.at_ _ (List.mem_cons_self ..) rb h3
      have i5 := hI.at_ _ (List.mem_cons_of_mem _ (List.mem_cons_self ..)) zb h5
      have i7 := hI.at_ _ (List.mem_cons_of_mem _ (List.mem_cons_of_mem _ (List.mem_cons_self ..))) db h7
      have i9 := hI.at_ _ (List.mem_cons_of_mem _ (List.mem_cons_of_mem _ (List.mem_cons_of_mem _ (List.mem_cons_self ..)))) tb h9
      have i11 := hI.at_ _ (List.mem_cons_of_mem _ (List.mem_cons_of_mem _ (List.mem_cons_of_mem _ (List.mem_cons_of_mem _ (List.mem_cons_self ..))))) fb h11
      have n3_5 : rb ≠ zb := fun e => by have := hI.ne _ (List.mem_cons_self ..) _ (List.mem_cons_of_mem _ (List.mem_cons_self ..)) rb h3 (by rw [e]; exact h5); simp at this
      have n3_7 : rb ≠ db := fun e => by have := hI.ne _ (List.mem_cons_self ..) _ (List.mem_cons_of_mem _ (List.mem_cons_of_mem _ (List.mem_cons_self ..))) rb h3 (by rw [e]; exact h7); simp at this
      have n3_9 : rb ≠ tb := fun e => by have := hI.ne _ (List.mem_cons_self ..) _ (List.mem_cons_of_mem _ (List.mem_cons_of_mem _ (List.mem_cons_of_mem _ (List.mem_cons_self ..)))) rb h3 (by rw [e]; exact h9); simp at this
      have n3_11 : rb ≠ fb := fun e => by have := hI.ne _ (List.mem_cons_self ..) _ (List.mem_cons_of_mem _ (List.mem_cons_of_mem _ (List.mem_cons_of_mem _ (List.mem_cons_of_mem _ (List.mem_cons_self ..))))) rb h3 (by rw [e]; exact h11); simp at this
      have n5_7 : zb ≠ db := fun e => by have := hI.ne _ (List.mem_cons_of_mem _ (List.mem_cons_self ..)) _ (List.mem_cons_of_mem _ (List.mem_cons_of_mem _ (List.mem_cons_self ..))) zb h5 (by rw [e]; exact h7); simp at this
      have n5_9 : zb ≠ tb := fun e => by have := hI.ne _ (List.mem_cons_of_mem _ (List.mem_cons_self ..)) _ (List.mem_cons_of_mem _ (List.mem_cons_of_mem _ (List.mem_cons_of_mem _ (List.mem_cons_self ..)))) zb h5 (by rw [e]; exact h9); simp at this
      have n5_11 : zb ≠ fb := fun e => by have := hI.ne _ (List.mem_cons_of_mem _ (List.mem_cons_self ..)) _ (List.mem_cons_of_mem _ (List.mem_cons_of_mem _ (List.mem_cons_of_mem _ (List.mem_cons_of_mem _ (List.mem_cons_self ..))))) zb h5 (by rw [e]; exact h11); simp at this
      have n7_9 : db ≠ tb := fun e => by have := hI.ne _ (List.mem_cons_of_mem _ (List.mem_cons_of_mem _ (List.mem_cons_self ..))) _ (List.mem_cons_of_mem _ (List.mem_cons_of_mem _ (List.mem_cons_of_mem _ (List.mem_cons_self ..)))) db h7 (by rw [e]; exact h9); simp at this
      have n7_11 : db ≠ fb := fun e => by have := hI.ne _ (List.mem_cons_of_mem _ (List.mem_cons_of_mem _ (List.mem_cons_self ..))) _ (List.mem_cons_of_mem _ (List.mem_cons_of_mem _ (List.mem_cons_of_mem _ (List.mem_cons_of_mem _ (List.mem_cons_self ..))))) db h7 (by rw [e]; exact h11); simp at this
      have n9_11 : tb ≠ fb := fun e => by have := hI.ne _ (List.mem_cons_of_mem _ (List.mem_cons_of_mem _ (List.mem_cons_of_mem _ (List.mem_cons_self ..)))) _ (List.mem_cons_of_mem _ (List.mem_cons_of_mem _ (List.mem_cons_of_mem _ (List.mem_cons_of_mem _ (List.mem_cons_self ..))))) tb h9 (by rw [e]; exact h11); simp at this
      have l3 := (Array.getElem?_eq_some_iff.1 i3.2).1
      have l5 := (Array.getElem?_eq_some_iff.1 i5.2).1
      have l7 := (Array.getElem?_eq_some_iff.1 i7.2).1
      have l9 := (Array.getElem?_eq_some_iff.1 i9.2).1
      have l11 := (Array.getElem?_eq_some_iff.1 i11.2).1
      have hz := size_alloc1 W (.cells #[.int .i64 go, .slice (some ⟨rb, 0, none⟩) (ns.length + 1) (ns.length + 1), .slice (some ⟨zb, 0, none⟩) (ns.length + 1) (ns.length + 1), .slice (some ⟨db, 0, none⟩) (ns.length + 1) (ns.length + 1), .slice (some ⟨tb, 0, none⟩) (ns.length + 1) (ns.length + 1), .slice (some ⟨fb, 0, none⟩) (ns.length + 1) (ns.length + 1), .slice none 0 0, .int .i64 0] 78)
      have hpb := RowAt.new W [.int .i64 go, .slice (some ⟨rb, 0, none⟩) (ns.length + 1) (ns.length + 1), .slice (some ⟨zb, 0, none⟩) (ns.length + 1) (ns.length + 1), .slice (some ⟨db, 0, none⟩) (ns.length + 1) (ns.length + 1), .slice (some ⟨tb, 0, none⟩) (ns.length + 1) (ns.length + 1), .slice (some ⟨fb, 0, none⟩) (ns.length + 1) (ns.length + 1), .slice none 0 0, .int .i64 0] 78
      have hBA : Below W.heap.size W (W.alloc (.cells #[.int .i64 go, .slice (some ⟨rb, 0, none⟩) (ns.length + 1) (ns.length + 1), .slice (some ⟨zb, 0, none⟩) (ns.length + 1) (ns.length + 1), .slice (some ⟨db, 0, none⟩) (ns.length + 1) (ns.length + 1), .slice (some ⟨tb, 0, none⟩) (ns.length + 1) (ns.length + 1), .slice (some ⟨fb, 0, none⟩) (ns.length + 1) (ns.length + 1), .slice none 0 0, .int .i64 0] 78)) := Below.alloc (Below.refl _ _) (Nat.le_refl _) _
      have hd2 : w2.drew.heap.size = w2.heap.size := rfl
      have hB2 : Below w2.heap.size w2 W := below_call (Below.refl w2.heap.size w2).drew hI.below
      have hsz := hB2.size
      dsimp only at i3 i5 i7 i9 i11
      rw [madeO] at i3 i5 i7 i9 i11
      refine ⟨⟨W.heap.size, rb, zb, db, tb, fb⟩, rfl, ⟨hpb, (row_cells i3.2).over hBA, (row_cells i5.2).over hBA, (row_cells i7.2).over hBA, (row_cells i9.2).over hBA, (row_cells i11.2).over hBA⟩, ⟨?_, ?_⟩, ?_, below_call hB2 hBA⟩
      · simp only [List.nodup_cons, List.mem_cons, not_or, List.not_mem_nil, not_false_eq_true, and_true, List.nodup_nil]
        exact ⟨⟨by omega, by omega, by omega, by omega, by omega⟩, ⟨n3_5, n3_7, n3_9, n3_11⟩, ⟨n5_7, n5_9, n5_11⟩, ⟨n7_9, n7_11⟩, n9_11⟩
      · refine ⟨?_, ?_, ?_, ?_, ?_, ?_⟩ <;> (dsimp only; rw [hz]; omega)
      · exact ⟨hsz, i3.1, i5.1, i7.1, i9.1, i11.1⟩
  case rest =>
    obtain ⟨b, rfl, h6, hA, hge, hbc⟩ := hcut
    rw [rep_ints, rep_bools] at h6
    have H6 := Lib.hid h6
    have HA := Lib.hid hA
    have HGE := Lib.hid hge
    have HBC := Lib.hid hbc
    obtain ⟨f0, f1, f2, f3, f4, f5, f6⟩ := h6.fields
    have t0 := h6.t.cell 0 (.bool false) (by simp [boolsN])
    have tf := h6.t.fr 0
    have tl := h6.t.lt
    clear h6 hA hge hbc b3 bl hm1 hm2 hm3 BM
    go_upto_region 5 with fail
    have H7 := Lib.hid (H6.out.setT HA.out 0 (.bool true) (by simp [boolsN]))
    have O7 := Lib.hid ((out_setB wc b.tb 0 (.bool true) 0).below HBC.out (Nat.le_refl _) (fun j hj => by subst hj; exact HGE.out.2.2.2.2.1))
    have S7 := Lib.hid (show wc.heap.size ≤ (wc.setCell ⟨b.tb, 0, none⟩ (.bool true)).heap.size by simp)
    clear f0 f1 f2 f3 f4 f5 f6 t0 tf tl
    obtain ⟨T1, hT1⟩ : ∃ T, T = wc.heap.size := ⟨_, rfl⟩
    rw [← hT1] at HA S7
    clear hT1 H6 HBC
    generalize wc.setCell ⟨b.tb, 0, none⟩ (.bool true) = W7 at *
    obtain ⟨f0, f1, f2, f3, f4, f5, f6⟩ := H7.out.fields
    obtain ⟨s0, hs0⟩ : ∃ s, el[0]? = some s := ⟨_, List.getElem?_eq_getElem (by rw [GKH.out.2]; show 0 < ns.length + 1; omega)⟩
    obtain ⟨shb, sho, hse, shl, x0, x1, x2⟩ := (HSH.out.later O7.out) 0 s0 hs0
    injection hse with hse
    injection hse with hse1 hse2 _
    subst hse1 hse2
    have SZ := Lib.hid (fun W => size_sh s0 W)
    have SZ0 := Lib.hid (show m.sz 0 = sizeG s0 by rw [HSZ.out]; simp [List.getD, hs0])
    simp only [Nat.zero_mul, Nat.zero_add, Nat.add_zero] at x0 x1 x2
    have hfl : b.pb < W7.heap.size := f0
    have hpn := HA.out.ne.1.2.1
    have hsn : sb ≠ b.sb := by have := HGE.out; omega
    have PS5 := Lib.hid (show ∀ W', Out (fun j => j = b.sb) W7 W' → (fun (w' : World) => w'.cell? ⟨b.pb, 2, none⟩ = some (.slice (some ⟨b.sb, 0, none⟩) (ns.length + 1) (ns.length + 1)) ∧ w'.cell? ⟨sb, 0, none⟩ = some (.int .i64 s0.x) ∧ w'.cell? ⟨sb, 1, none⟩ = some (.int .i64 s0.y) ∧ w'.cell? ⟨sb, 2, none⟩ = some (.int .i64 s0.z)) W' from fun W' h => ⟨(h.cell (p := ⟨b.pb, 2, none⟩) hfl hpn).trans f2, (h.cell (p := ⟨sb, 0, none⟩) shl hsn).trans x0, (h.cell (p := ⟨sb, 1, none⟩) shl hsn).trans x1, (h.cell (p := ⟨sb, 2, none⟩) shl hsn).trans x2⟩)
    go_region_held3 (fun (w' : World) => w'.cell? ⟨b.pb, 2, none⟩ = some (.slice (some ⟨b.sb, 0, none⟩) (ns.length + 1) (ns.length + 1)) ∧ w'.cell? ⟨sb, 0, none⟩ = some (.int .i64 s0.x) ∧ w'.cell? ⟨sb, 1, none⟩ = some (.int .i64 s0.y) ∧ w'.cell? ⟨sb, 2, none⟩ = some (.int .i64 s0.z))
      (first | (with_reducible assumption) | (with_reducible exact PS5.out _ (Out.refl _ _)) | (with_reducible exact PS5.out _ (Out.of_below _ (Below.refl _ _).drew)) | (with_reducible exact PS5.out _ (Out.of_below _ HB9.out)) | (with_reducible exact PS5.out _ (Out.of_below _ HB9.out.drew)) | (with_reducible exact PS5.out _ ((Out.of_below _ HB9.out).trans (out_setB w9 b.sb 0 _ 0))))
      (first | (go_at_call 20; (with_reducible refine (SZ.out _).mono ?_); rintro e w9 ⟨rfl, hb9⟩; have hB9 : Below W7.heap.size W7 w9 := (by first | (with_reducible exact hb9) | exact below_call (Below.refl W7.heap.size W7).drew hb9); have HB9 := Lib.hid hB9; have H9 := Lib.hid (H7.out.over hB9); have u9 := H9.out.s.cell 0 (.int .i64 0) (by simp [intsV]); have f9 := H9.out.s.fr 0; have l9 := H9.out.s.lt; clear hb9 hB9))
    have H10 := Lib.hid (H9.out.setS HA.out 0 (.int .i64 (sizeG s0)) (by simp [intsV]))
    have B10 := Lib.hid ((out_setB w9 b.sb 0 (.int .i64 (sizeG s0)) 0).below (below_call O7.out HB9.out) (Nat.le_refl _) (fun j hj => by subst hj; exact HGE.out.2.2.1))
    have S10 := Lib.hid (show T1 ≤ (w9.setCell ⟨b.sb, 0, none⟩ (.int .i64 (sizeG s0))).heap.size by have := S7.out; have := HB9.out.size; simp; omega)
    clear u9 f9 l9 f0 f1 f2 f3 f4 f5 f6 x0 x1 x2 hpn hsn hfl shl H9 HB9 PS5 H7 O7 S7
    generalize w9.setCell ⟨b.sb, 0, none⟩ (.int .i64 (sizeG s0)) = W10 at *
    have NP0 : NpAt m b T1 (.int .i64 go) 0 W10 := by
      have h := H10.out
      rw [intsV_set, boolsN_setL, ← MN.out, ← SZ0.out, sizesK_zero, readersK_zero HOK.out.f0, thereK_zero HOK.out.f0, freesK_zero HOK.out.f0] at h
      refine ⟨_, _, h, ?_, by simp, fun v hv => ?_⟩
      · rw [todoK_zero HOK.out.f0]; exact World.ownsRow_nil _ _ _ _
      · rw [todoK_zero HOK.out.f0] at hv; simp at hv
    have NP := Lib.hid NP0
    clear NP0 H10 SZ SZ0
    have g4 := (RG2.out.over B10.out).cell 4 _ rfl
    have gl := (RG2.out.over B10.out).lt
    go_wp2_with fail
    clear g4 gl
    go_loopw [52] (fun s52 wr => ∃ k : Nat, k ≤ ns.length ∧ s52 = .int .i64 k ∧ NpAt m b T1 (.int .i64 go) k wr ∧ Below w2.heap.size w2 wr ∧ T1 ≤ wr.heap.size) (fun s52 _ => ns.length - (intOf s52).toNat)
    case atStart => exact ⟨0, Nat.zero_le _, rfl, NP.out, B10.out, S10.out⟩
    case round =>
      obtain ⟨k, hk, rfl, hnp, hB, hT⟩ := hrel
      have HB := Lib.hid hB
      have HT := Lib.hid hT
      have HNP := Lib.hid hnp
      clear hB hT hnp
      by_cases hkl : k < ns.length
      · obtain ⟨q, rv, h6, hq, hrl, hrc⟩ := HNP.out
        obtain ⟨nd, hnd⟩ : ∃ n, ns[k]? = some n := ⟨_, List.getElem?_eq_getElem hkl⟩
        obtain ⟨nb, noff, hna, hnb, hrg⟩ := nds_range HN.out k nd hnd
        subst hna
        have tR := NL.read nd wr nb (noff + k * 26) (fun j v hv => ((below_call HB2.out HB.out).cell (p := ⟨nb, _, none⟩) hnb).trans (hrg j v hv))
        have tL := NL.len nd
        have tB := NL.st1 nd wr
        have hal : Below wr.heap.size wr (wr.alloc (.cells nd.cells.toArray T)) := Below.alloc (Below.refl _ _) (Nat.le_refl _) _
        have h6' := Lib.hid (h6.over hal)
        have RX5 := Lib.hid (RowAt.new wr nd.cells T)
        have B5 := Lib.hid (HB.out.trans (hal.mono HB.out.size))
        have HQ := Lib.hid hq
        have HRL := Lib.hid hrl
        have HRC := Lib.hid hrc
        have HAL := Lib.hid hal
        have kl0 : (0 : Int) ≤ (k : Int) := by omega
        have kl1 : (k : Int) < (ns.length : Int) := by omega
        have HND := Lib.hid hnd
        have HK := Lib.hid hkl
        clear hrg h6 hq hrl hrc hal hnd
        obtain ⟨kp, hkp⟩ : ∃ x : Nat, x = k + 1 := ⟨_, rfl⟩
        have kw : IntKind.i64.wrap ((k : Int) + 1) = (kp : Int) := by rw [hkp]; simp [IntKind.wrap, IntKind.signed, IntKind.bits]; omega
        have ks : (k : Int) + 1 = (kp : Int) := by omega
        have kp0 : (0 : Int) ≤ (kp : Int) := by omega
        have kp1 : (kp : Int) < (ns.length : Int) + 1 := by omega
        have HKP := Lib.hid hkp
        have hkn : kp < ns.length + 1 := by omega
        have HKN := Lib.hid hkn
        obtain ⟨s1, hs1⟩ : ∃ s, el[kp]? = some s := ⟨_, List.getElem?_eq_getElem (by rw [GKH.out.2]; exact hkn)⟩
        have SZ1 := Lib.hid (show m.sz kp = sizeG s1 by rw [HSZ.out]; simp [List.getD, hs1])
        have SZ := Lib.hid (fun W => size_sh s1 W)
        obtain ⟨shb, sho, hse, shl, x0, x1, x2⟩ := (HSH.out.later B5.out) kp s1 hs1
        injection hse with hse
        injection hse with hse1 hse2 _
        subst hse1 hse2
        clear hkp hkn hs1 hkl
        go_upto_region 10 with fail
        clear tR tB tL
        obtain ⟨W5, hW5⟩ : ∃ W : World, W = wr.alloc (.cells nd.cells.toArray T) := ⟨_, rfl⟩
        rw [← hW5] at h6' RX5 B5 HAL shl x0 x1 x2 ⊢
        clear hW5
        obtain ⟨f0, f1, f2, f3, f4, f5, f6⟩ := h6'.out.fields
        rw [MN.out] at f1 f2 f3 f4 f5
        simp only [Nat.zero_add] at x0 x1 x2
        have hfl : b.pb < W5.heap.size := f0
        have hpn := HA.out.ne.1.2.1
        have hsn : sb ≠ b.sb := by have := HGE.out; omega
        have PS := Lib.hid (show ∀ W', Out (fun j => j = b.sb) W5 W' → (fun (w' : World) => w'.cell? ⟨b.pb, 2, none⟩ = some (.slice (some ⟨b.sb, 0, none⟩) (ns.length + 1) (ns.length + 1)) ∧ w'.cell? ⟨sb, kp * 3, none⟩ = some (.int .i64 s1.x) ∧ w'.cell? ⟨sb, kp * 3 + 1, none⟩ = some (.int .i64 s1.y) ∧ w'.cell? ⟨sb, kp * 3 + 2, none⟩ = some (.int .i64 s1.z)) W' from fun W' h => ⟨(h.cell (p := ⟨b.pb, 2, none⟩) hfl hpn).trans f2, (h.cell (p := ⟨sb, kp * 3, none⟩) shl hsn).trans x0, (h.cell (p := ⟨sb, kp * 3 + 1, none⟩) shl hsn).trans x1, (h.cell (p := ⟨sb, kp * 3 + 2, none⟩) shl hsn).trans x2⟩)
        have HSL := Lib.hid (show kp < (intsV (m.sizesK k)).length by rw [intsV_len, show (m.sizesK k).length = m.N + 1 from mapR_len _ _, MN.out]; exact HKN.out)
        obtain ⟨z0, hz0⟩ : ∃ v, (intsV (m.sizesK k))[kp]? = some v := ⟨_, List.getElem?_eq_getElem HSL.out⟩
        have HZ0 := Lib.hid hz0
        clear hz0 f1 f2 f3 f4 f5 f6
        go_region_held3 (fun (w' : World) => w'.cell? ⟨b.pb, 2, none⟩ = some (.slice (some ⟨b.sb, 0, none⟩) (ns.length + 1) (ns.length + 1)) ∧ w'.cell? ⟨sb, kp * 3, none⟩ = some (.int .i64 s1.x) ∧ w'.cell? ⟨sb, kp * 3 + 1, none⟩ = some (.int .i64 s1.y) ∧ w'.cell? ⟨sb, kp * 3 + 2, none⟩ = some (.int .i64 s1.z))
          (first | (with_reducible assumption) | (with_reducible exact PS.out _ (Out.refl _ _)) | (with_reducible exact PS.out _ (Out.of_below _ (Below.refl _ _).drew)) | (with_reducible exact PS.out _ (Out.of_below _ HB9.out)) | (with_reducible exact PS.out _ (Out.of_below _ HB9.out.drew)) | (with_reducible exact PS.out _ ((Out.of_below _ HB9.out).trans (out_setB w9 b.sb kp _ 0))))
          (first | (go_at_call 20; (with_reducible refine (SZ.out _).mono ?_); rintro e w9 ⟨rfl, hb9⟩; have hB9 : Below W5.heap.size W5 w9 := (by first | (with_reducible exact hb9) | exact below_call (Below.refl W5.heap.size W5).drew hb9); have HB9 := Lib.hid hB9; have H9 := Lib.hid (h6'.out.over hB9); have u9 := H9.out.s.cell kp _ HZ0.out; have f9 := H9.out.s.fr kp; have l9 := H9.out.s.lt; clear hb9 hB9))
        have H10 := Lib.hid (H9.out.setS HA.out kp (.int .i64 (sizeG s1)) HSL.out)
        have B10 := Lib.hid ((out_setB w9 b.sb kp (.int .i64 (sizeG s1)) 0).below (B5.out.trans (HB9.out.mono B5.out.size)) (Nat.le_refl _) (fun j hj => by subst hj; exact HGE.out.2.2.1))
        have hne10 : wr.heap.size ≠ b.sb := by have := HA.out.lt; have := HT.out; omega
        have OX := Lib.hid ((Out.of_below (fun j => j = b.sb) HB9.out).trans (out_setB w9 b.sb kp (.int .i64 (sizeG s1)) 0))
        have RX10 := Lib.hid (RX5.out.outN OX.out hne10)
        have OW10 := Lib.hid (((Out.of_below (fun j => j = b.sb) HAL.out)).trans OX.out)
        clear u9 f9 l9 f0 x0 x1 x2 hpn hsn hfl shl H9 HB9 PS h6' hne10 RX5 B5 HAL SZ OX HZ0 HSL
        generalize w9.setCell ⟨b.sb, kp, none⟩ (.int .i64 (sizeG s1)) = W10 at *
        rw [intsV_set, ← SZ1.out, HKP.out, sizesK_succ, ← HKP.out] at H10
        have hbl := HA.out.lt
        have HQ10 := Lib.hid (own_overN HQ.out OW10.out (fun g hg hs => by have := (World.ownsRow.lt HQ.out g hg).1; omega))
        have HRC10 := Lib.hid (show ∀ v ∈ m.todoK k, ∃ a c, rv[v]? = some (.slice a (oncL (m.rd v)).length c) ∧ c ≤ 9223372036854775807 ∧ NumsAt (fun g => T1 ≤ g ∧ q.ownBlock ≠ some g) W10 a (oncL (m.rd v)) from fun v hv => by
          obtain ⟨a, c, h1, h2, h3⟩ := HRC.out v hv
          exact ⟨a, c, h1, h2, h3.outN OW10.out (fun j hj hs => by have := hj.1; omega)⟩)
        have S10 := Lib.hid (Nat.le_trans HT.out OW10.out.size)
        have HT2 := Lib.hid (show b.pb < wr.heap.size ∧ b.rb < wr.heap.size ∧ b.sb < wr.heap.size ∧ b.db < wr.heap.size ∧ b.tb < wr.heap.size ∧ b.fb < wr.heap.size by have := HT.out; omega)
        clear HQ HRC OW10 HB HT HNP hbl
        have HF := Lib.hid (show m.free (k + 1) = decide (nd.op = 1) by rw [HM.out]; show (decide (k + 1 = 0) || decide (opF ns (k + 1 - 1) = 1)) = _; rw [Nat.add_sub_cancel, opF_at HND.out]; simp)
        have o0 := RX10.out.cell 0 (.int .i64 nd.op) rfl
        have ol := RX10.out.lt
        obtain ⟨f0, f1, f2, f3, f4, f5, f6⟩ := H10.out.fields
        rw [MN.out] at f1 f2 f3 f4 f5
        by_cases hop : nd.op = 1
        · have t1 : (nd.op == 1) = true := by simpa using hop
          have HF1 := Lib.hid (show m.free (k + 1) = true by rw [HF.out]; exact decide_eq_true hop)
          have HTL := Lib.hid (show kp < (boolsN (m.thereK k)).length by rw [show (boolsN (m.thereK k)).length = (m.thereK k).length by simp [boolsN], show (m.thereK k).length = m.N + 1 from mapR_len _ _, MN.out]; exact HKN.out)
          obtain ⟨tv, htv⟩ : ∃ v, (boolsN (m.thereK k))[kp]? = some v := ⟨_, List.getElem?_eq_getElem HTL.out⟩
          have t2 := H10.out.t.cell kp _ htv
          have t3 := H10.out.t.fr kp
          have t4 := H10.out.t.lt
          have HTV := Lib.hid htv
          clear hop htv
          go_wp2_with fail
          have h11 := H10.out.setT HA.out kp (.bool true) HTL.out
          rw [boolsN_setL, HKP.out, thereK_free HF1.out, freesK_free HF1.out, readersK_not (by unfold Od.want; rw [HF1.out]; simp), ← HKP.out] at h11
          have hw : m.want (k + 1) = false := by unfold Od.want; rw [HF1.out]; simp
          have hT2 : m.todoK kp = m.todoK k := by rw [HKP.out, todoK_succ, hw]; rfl
          have hO := out_setB W10 b.tb kp (.bool true) 0
          have hbl := HA.out.lt
          refine ⟨⟨kp, by have := HKN.out; omega, by first | rfl | simp, ⟨q, rv, h11, ?_, HRL.out, ?_⟩, hO.below B10.out (Nat.le_refl _) (fun j hj => by subst hj; exact HGE.out.2.2.2.2.1), Nat.le_trans S10.out hO.size⟩, by have := HKN.out; have := HKP.out; simp [intOf]; omega⟩
          · rw [hT2]
            exact own_overN HQ10.out hO (fun g hg hs => by have := (World.ownsRow.lt HQ10.out g hg).1; omega)
          · rw [hT2]
            intro v hv
            obtain ⟨a, c, h1, h2, h3⟩ := HRC10.out v hv
            exact ⟨a, c, h1, h2, h3.outN hO (fun j hj hs => by have := hj.1; omega)⟩
        · have t1 : (nd.op == 1) = false := by simpa using hop
          have HF1 := Lib.hid (show m.free (k + 1) = false by rw [HF.out]; exact decide_eq_false hop)
          have HFL := Lib.hid (show kp < (boolsN (m.freesK k)).length by rw [show (boolsN (m.freesK k)).length = (m.freesK k).length by simp [boolsN], show (m.freesK k).length = m.N + 1 from mapR_len _ _, MN.out]; exact HKN.out)
          obtain ⟨tv, htv⟩ : ∃ v, (boolsN (m.freesK k))[kp]? = some v := ⟨_, List.getElem?_eq_getElem HFL.out⟩
          have t2 := H10.out.f.cell kp _ htv
          have t3 := H10.out.f.fr kp
          have t4 := H10.out.f.lt
          have g5 := (RG2.out.over B10.out).cell 5 _ rfl
          have gl := (RG2.out.over B10.out).lt
          obtain ⟨q0, hq0⟩ : ∃ q0, q0 = ((kp : Int) != go) := ⟨_, rfl⟩
          have tq := hq0.symm
          have HQ0 := Lib.hid (show q0 = !decide (k + 1 = m.out) by
            rw [hq0, MO.out]
            by_cases e : (kp : Int) = go
            · have : k + 1 = go.toNat := by have := HKP.out; omega
              simp [e, this]
            · have : ¬ k + 1 = go.toNat := by have := HKP.out; omega
              rw [decide_eq_false this]; simp [e])
          clear hop htv hq0 f1 f2 f3 f4 f6
          go_upto_region 13 with fail
          go_region
          have h13 := (H10.out.setF HA.out kp (.bool q0) HFL.out).over (Below.refl _ _).drew
          rw [boolsN_setL, show (m.freesK k).set kp q0 = m.freesK kp by rw [HQ0.out, HKP.out, freesK_not HF1.out], show m.thereK k = m.thereK kp by rw [HKP.out, thereK_not HF1.out]] at h13
          have hO := (out_setB W10 b.fb kp (.bool q0) 0).trans (Out.of_below _ (Below.refl _ _).drew)
          have H13 := Lib.hid h13
          have hbl := HA.out.lt
          have HQ13 := Lib.hid (own_overN HQ10.out hO (fun g hg hs => by have := (World.ownsRow.lt HQ10.out g hg).1; omega))
          have HRC13 := Lib.hid (show ∀ v ∈ m.todoK k, ∃ a c, rv[v]? = some (.slice a (oncL (m.rd v)).length c) ∧ c ≤ 9223372036854775807 ∧ NumsAt (fun g => T1 ≤ g ∧ q.ownBlock ≠ some g) _ a (oncL (m.rd v)) from fun v hv => by
            obtain ⟨a, c, h1, h2, h3⟩ := HRC10.out v hv
            exact ⟨a, c, h1, h2, h3.outN hO (fun j hj hs => by have := hj.1; omega)⟩)
          have B13 := Lib.hid (hO.below B10.out (Nat.le_refl _) (fun j hj => by subst hj; exact HGE.out.2.2.2.2.2))
          have S13 := Lib.hid (Nat.le_trans S10.out hO.size)
          have RX13 := Lib.hid (RX10.out.outN hO (by have := HT2.out; omega))
          clear h13 hO t2 t3 t4 g5 gl tq f0 f5 o0 ol H10 B10 S10 RX10 HQ10 HRC10 HFL HQ0 t1
          generalize (W10.setCell ⟨b.fb, kp, none⟩ (.bool q0)).drew = W13 at *
          have RU13 := RU2.out.over B13.out
          have u0 := RU13.cell kp _ (boolsN_at (by rw [hnl]; exact HKN.out))
          have ul := RU13.lt
          have HW := Lib.hid (show m.want (k + 1) = need.getD kp false by unfold Od.want; rw [HF1.out, HM.out, HKP.out]; simp [odM])
          generalize need.getD kp false = nv at *
          clear RU13
          cases nv
          · go_wp2_with fail
            have hT2 : m.todoK kp = m.todoK k := by rw [HKP.out, todoK_succ, HW.out]; rfl
            have h14 := H13.out
            rw [show m.readersK k = m.readersK kp by rw [HKP.out, readersK_not HW.out]] at h14
            refine ⟨⟨kp, by have := HKN.out; omega, by first | rfl | simp, ⟨q, rv, h14, ?_, HRL.out, ?_⟩, B13.out, S13.out⟩, by have := HKN.out; have := HKP.out; simp [intOf]; omega⟩
            · rw [hT2]; exact HQ13.out
            · rw [hT2]; exact HRC13.out
          · have hah := GA.out k nd HND.out
            have hrd : m.rd kp = (insN nd).map Int.toNat := by rw [HM.out, HKP.out]; show (if k + 1 = 0 then [] else insF ns (k + 1 - 1)) = _; rw [if_neg (by omega), Nat.add_sub_cancel, insF_at HND.out]
            have hrl : (m.rd kp).length = (insN nd).length := by rw [hrd]; simp
            have OC := Lib.hid (show ∀ (W w6 : World) (at0 : Option Addr), InsAt W w6 at0 (insN nd) → Calls Try.prog 49 #[.slice at0 (insN nd).length (insN nd).length] w6 fun e w' => ∃ a c', e = .returned (.slice a (oncL (m.rd kp)).length c') ∧ c' ≤ 9223372036854775807 ∧ NumsAt (fun g => w6.heap.size ≤ g) w' a (oncL (m.rd kp)) ∧ Below w6.heap.size w6 w' from fun W w6 at0 h => by
              have hN : NumsAt (fun _ => True) w6 at0 (m.rd kp) := fun i x hx => by
                rw [hrd] at hx
                obtain ⟨z, hz, rfl⟩ := List.getElem?_map .. ▸ hx |> fun h => Option.map_eq_some_iff.1 (by simpa using hx)
                obtain ⟨g, h1, _, h3, h4⟩ := h i z hz
                have := (hah z (List.mem_of_getElem? hz)).1
                exact ⟨g, h1, trivial, h3, by rw [h4, Int.toNat_of_nonneg this]⟩
              have := once_any at0 (insN nd).length (m.rd kp) w6 hN (by rw [hrl]; have := ins_len nd; omega)
              rw [hrl] at this
              exact this)
            have IA := Lib.hid (fun W => ins_any nd W)
            obtain ⟨f0, f1, f2, f3, f4, f5, f6⟩ := H13.out.fields
            rw [MN.out] at f1
            have hfl : b.pb < W13.heap.size := f0
            have hpn := HA.out.ne.1.1
            have hxl := RX13.out.lt
            have hxn : wr.heap.size ≠ b.rb := by have := HT2.out; omega
            have PS := Lib.hid (show ∀ W', Out (fun j => j = b.rb) W13 W' → (fun (w' : World) => w'.cell? ⟨b.pb, 1, none⟩ = some (.slice (some ⟨b.rb, 0, none⟩) (ns.length + 1) (ns.length + 1)) ∧ (loadCellsFrom ⟨wr.heap.size, 0, none⟩ 0 Z #[]).run Try.prog w' = .ok nd.cells.toArray w') W' from fun W' h => ⟨(h.cell (p := ⟨b.pb, 1, none⟩) hfl hpn).trans f1, NL.read nd W' wr.heap.size 0 (RX13.out.outN h hxn).range⟩)
            have HRN := Lib.hid (show kp < rv.length by rw [HRL.out, MN.out]; exact HKN.out)
            obtain ⟨z0, hz0⟩ : ∃ v, rv[kp]? = some v := ⟨_, List.getElem?_eq_getElem HRN.out⟩
            have HZ0 := Lib.hid hz0
            have tL := NL.len nd
            clear hz0 f2 f3 f4 f5 f6 hah hrd hrl hbl f0 f1 hxl
            go_upto_region 15 with fail
            clear u0 ul
            go_region_held3 (fun (w' : World) => w'.cell? ⟨b.pb, 1, none⟩ = some (.slice (some ⟨b.rb, 0, none⟩) (ns.length + 1) (ns.length + 1)) ∧ (loadCellsFrom ⟨wr.heap.size, 0, none⟩ 0 Z #[]).run Try.prog w' = .ok nd.cells.toArray w')
              (first | (with_reducible assumption) | (with_reducible exact PS.out _ (Out.refl _ _)) | (with_reducible exact PS.out _ (Out.of_below _ (Below.refl _ _).drew)) | (with_reducible exact PS.out _ (Out.of_below _ HB6.out)) | (with_reducible exact PS.out _ (Out.of_below _ HB6.out.drew)) | (with_reducible exact PS.out _ (Out.of_below _ HB7.out)) | (with_reducible exact PS.out _ (Out.of_below _ HB7.out.drew)) | (with_reducible exact PS.out _ ((Out.of_below _ HB7.out).trans (out_setB w7 b.rb kp _ 0))))
              (first
                | (go_at_call 38; (with_reducible refine (IA.out _).mono ?_); rintro e w6 ⟨at0, rfl, hb6, hin6⟩; have hB6 : Below W13.heap.size W13 w6 := (by first | (with_reducible exact hb6) | exact below_call (Below.refl W13.heap.size W13).drew hb6); have HB6 := Lib.hid hB6; have OC6 := Lib.hid (OC.out _ _ at0 hin6); clear hb6 hB6 hin6)
                | (go_at_call 49; (with_reducible refine OC6.out.mono ?_); rintro e w7 ⟨ra, rc, rfl, hrc7, hnu7, hb7⟩; have hB7 := below_call HB6.out hb7; have HB7 := Lib.hid hB7; have HRC7 := Lib.hid hrc7; have HNU := Lib.hid hnu7; have H7b := Lib.hid (H13.out.over hB7); have u9 := H7b.out.r.cell kp _ HZ0.out; have f9 := H7b.out.r.fr kp; have l9 := H7b.out.r.lt; clear hb7 hB7 hrc7 hnu7))
            have H15 := Lib.hid (H7b.out.setR HA.out kp (.slice ra (oncL (m.rd kp)).length rc) HRN.out)
            have OW := Lib.hid ((Out.of_below (fun j => j = b.rb) HB7.out).trans (out_setB w7 b.rb kp (.slice ra (oncL (m.rd kp)).length rc) 0))
            have hbl := HA.out.lt
            have HQ15 := Lib.hid (own_overN HQ13.out OW.out (fun g hg hs => by have := (World.ownsRow.lt HQ13.out g hg).1; omega))
            have HRC15 := Lib.hid (show ∀ v ∈ m.todoK k, ∃ a c, rv[v]? = some (.slice a (oncL (m.rd v)).length c) ∧ c ≤ 9223372036854775807 ∧ NumsAt (fun g => T1 ≤ g ∧ q.ownBlock ≠ some g) _ a (oncL (m.rd v)) from fun v hv => by
              obtain ⟨a, c, h1, h2, h3⟩ := HRC13.out v hv
              exact ⟨a, c, h1, h2, h3.outN OW.out (fun j hj hs => by have := hj.1; omega)⟩)
            have HNU15 := Lib.hid ((HNU.out.mono (fun j hj => Nat.le_trans HB6.out.size hj)).outN (out_setB w7 b.rb kp (.slice ra (oncL (m.rd kp)).length rc) 0) (fun j hj hs => by have := S13.out; omega))
            have B15 := Lib.hid (OW.out.below B13.out (Nat.le_refl _) (fun j hj => by subst hj; exact HGE.out.2.1))
            have S15 := Lib.hid (Nat.le_trans S13.out OW.out.size)
            have HQB := Lib.hid (show ∀ g, q.ownBlock = some g → T1 ≤ g ∧ g < W13.heap.size from fun g hg => World.ownsRow.lt HQ13.out g hg)
            have R15 := H15.out.r.cell kp (.slice ra (oncL (m.rd kp)).length rc) (by rw [List.getElem?_set_self HRN.out])
            have R15l := H15.out.r.lt
            obtain ⟨f0, f1, f2, f3, f4, f5, f6⟩ := H15.out.fields
            rw [MN.out] at f1
            have hlen : (oncL (m.rd kp)).length ≤ 2 := onc_len2 HOK.out kp
            have hwk : m.want kp = true := by rw [HKP.out]; exact HW.out
            have HLT := Lib.hid (show ∀ x ∈ oncL (m.rd kp), x < kp from fun x hx => HOK.out.lt kp x hwk ((oncL_mem _ x).1 hx))
            have HLT2 := Lib.hid (show ∀ x ∈ m.rd (k + 1), x < m.N + 1 from fun x hx => by have := HOK.out.lt (k + 1) x HW.out hx; have := HKN.out; have := HKP.out; have := MN.out; omega)
            have hrci : (rc : Int) ≤ 9223372036854775807 := by have := HRC7.out; omega
            clear u9 f9 l9 H7b HB7 HB6 HNU OW HQ13 HRC13 B13 H13 RX13 PS hfl hpn hxn f2 f3 f4 f5 f6 tL OC IA hwk HZ0 OC6
            generalize w7.setCell ⟨b.rb, kp, none⟩ (.slice ra (oncL (m.rd kp)).length rc) = W15 at *
            obtain ⟨l, hl⟩ : ∃ l, l = oncL (m.rd kp) := ⟨_, rfl⟩
            rw [← hl] at hlen HLT HNU15 H15 R15
            have HL := Lib.hid hl
            have hli : (l.length : Int) ≤ 2 := by omega
            clear hl
            go_wp2_with fail
            clear R15 R15l f0 f1
            go_loopw [111] (fun s111 wx => ∃ j : Nat, j ≤ l.length ∧ s111 = .int .i64 j ∧ Six (m.N + 1) b (.int .i64 go) q (.int .i64 0) (rv.set kp (.slice ra l.length rc)) (intsV (m.sizesK kp)) (intsV (addAll 1 (m.readersK k) (zs (l.take j)))) (boolsN (m.thereK kp)) (boolsN (m.freesK kp)) wx ∧ Out (fun i => i = b.db) W15 wx) (fun s111 _ => l.length - (intOf s111).toNat)
            case atStart => exact ⟨0, Nat.zero_le _, rfl, H15.out, Out.refl _ _⟩
            case round =>
              obtain ⟨j, hj, rfl, h6x, hOx⟩ := hrel
              have HX := Lib.hid h6x
              have HOX := Lib.hid hOx
              clear h6x hOx
              by_cases hjl : j < l.length
              · obtain ⟨x, hx⟩ : ∃ x, l[j]? = some x := ⟨_, List.getElem?_eq_getElem hjl⟩
                obtain ⟨g, rfl, _, hg, hc2⟩ := (HNU15.out.outN HOX.out (fun i hi hs => by have := S13.out; have := HA.out.lt; omega)) j x hx
                have hxv := HLT.out x (List.mem_of_getElem? hx)
                have hdl : (addAll 1 (m.readersK k) (zs (l.take j))).length = ns.length + 1 := by rw [addAll_len, ← MN.out]; exact mapR_len _ _
                have hxl : x < (addAll 1 (m.readersK k) (zs (l.take j))).length := by rw [hdl]; have := HKN.out; omega
                obtain ⟨y, hy⟩ : ∃ y, (addAll 1 (m.readersK k) (zs (l.take j)))[x]? = some y := ⟨_, List.getElem?_eq_getElem hxl⟩
                have hyb := addAll_bd (b := 1) (by decide) (zs (l.take j)) (m.readersK k) 2000 (fun z hz => by
                  obtain ⟨i, _, rfl⟩ := List.mem_map.1 hz
                  have := readK_le (m := m) k i
                  omega) (by omega) y (List.mem_of_getElem? hy)
                have hzl : (zs (l.take j)).length ≤ 2 := by simp [zs]; omega
                have y0 : -5000 ≤ y := by omega
                have y1 : y ≤ 5000 := by omega
                obtain ⟨f0, f1, f2, f3, f4, f5, f6⟩ := HX.out.fields
                rw [MN.out] at f3
                have d1 := HX.out.d.cell x _ (intsV_at hy)
                have df := HX.out.d.fr x
                have dl := HX.out.d.lt
                have jl0 : (0 : Int) ≤ (j : Int) := by omega
                have jl1 : (j : Int) < (l.length : Int) := by omega
                have x0 : (0 : Int) ≤ (x : Int) := by omega
                have x1 : (x : Int) < (ns.length : Int) + 1 := by have := HKN.out; omega
                have HJ := Lib.hid hjl
                have HS := HX.out.setD HA.out x (.int .i64 (y + 1)) (by rw [intsV_len]; exact hxl)
                rw [intsV_set, show (addAll 1 (m.readersK k) (zs (l.take j))).set x (y + 1) = addAll 1 (m.readersK k) (zs (l.take (j + 1))) by
                  rw [List.take_add_one, hx]
                  have e : zs (l.take j ++ (some x).toList) = zs (l.take j) ++ [(x : Int)] := by simp [zs]
                  rw [e, addAll_snoc]
                  unfold addAt
                  have e2 : (addAll 1 (m.readersK k) (zs (l.take j))).getD x 0 = y := by simp [List.getD, hy]
                  simp only [Int.toNat_natCast, e2]] at HS
                have HS2 := Lib.hid HS
                clear hx hjl hxv hxl hj hy hyb hzl HS hdl f1 f2 f4 f5 f6
                go_wp2_with fail
                exact ⟨⟨j + 1, by have := HJ.out; omega, rfl, HS2.out, HOX.out.trans (out_setB wr b.db x (.int .i64 (y + 1)) 0)⟩, by have := HJ.out; simp [intOf]; omega⟩
              · obtain rfl : j = l.length := by omega
                have h6x := HX.out
                have hwk : m.want (k + 1) = true := HW.out
                rw [List.take_length, HL.out, HKP.out, readersK_want (by rw [MN.out]; exact HK.out) hwk HLT2.out, ← HKP.out, ← HL.out] at h6x
                have hbl := HA.out.lt
                have HQx := Lib.hid (own_overN HQ15.out HOX.out (fun g hg hs => by have := (World.ownsRow.lt HQ15.out g hg).1; omega))
                obtain ⟨qa, qc, hqe, hqc, _, _⟩ := own_slN HQx.out
                have hqi : (qc : Int) ≤ 9223372036854775807 := by omega
                have htl : (m.todoK k).length ≤ 1001 := by unfold Od.todoK; have := List.length_filter_le m.want (List.range (k + 1)); simp at this; omega
                have hti : ((m.todoK k).length : Int) ≤ 1001 := by omega
                have HTL := Lib.hid htl
                have HRCx := Lib.hid (show ∀ v ∈ m.todoK k, ∃ a c, rv[v]? = some (.slice a (oncL (m.rd v)).length c) ∧ c ≤ 9223372036854775807 ∧ NumsAt (fun g => T1 ≤ g ∧ q.ownBlock ≠ some g) _ a (oncL (m.rd v)) from fun v hv => by
                  obtain ⟨a, c, h1, h2, h3⟩ := HRC15.out v hv
                  exact ⟨a, c, h1, h2, h3.outN HOX.out (fun j hj hs => by have := hj.1; omega)⟩)
                have HNUx := Lib.hid (HNU15.out.outN HOX.out (fun i hi hs => by have := S13.out; omega))
                have Bx := Lib.hid (HOX.out.below B15.out (Nat.le_refl _) (fun j hj => by subst hj; exact HGE.out.2.2.2.1))
                have Sx := Lib.hid (Nat.le_trans S15.out HOX.out.size)
                have Hx6 := Lib.hid h6x
                subst hqe
                obtain ⟨f0, f1, f2, f3, f4, f5, f6⟩ := h6x.fields
                clear h6x hj hjl HX HOX HQ15 HRC15 HNU15 B15 S15 H15 hwk hqc f1 f2 f3 f4 f5 htl
                go_wp2_with (at_builtin; refine app_nat rfl (.tmp 129) (.tmp 131) rfl T1 (.slice qa (m.todoK k).length qc) (m.todoK k) rfl HQx.out kp rfl (by have := HTL.out; omega) Sx.out ?_; intro v' w' h1 h2 h3; obtain ⟨va, vc, hv, hvc, _, _⟩ := own_slN h1; subst hv; have HV := Lib.hid h1; have HO2 := Lib.hid h2; have HN3 := Lib.hid h3; have H21 := Lib.hid (Hx6.out.outN HA.out h2 (fun j hj => (World.ownsRow.lt HQx.out j hj).1)); have p6 := H21.out.p.cell 6 _ rfl; have p6f := H21.out.p.fr 6; have p6l := H21.out.p.lt; clear h1 h2 h3)
                have hT3 : m.todoK kp = m.todoK k ++ [kp] := by rw [HKP.out, todoK_succ, if_pos HW.out]
                have hn1 : (m.todoK k ++ [kp]).length = (m.todoK k).length + 1 := by simp
                rw [← hn1]
                have h22 := H21.out.setQ HA.out (.slice va (m.todoK k ++ [kp]).length vc)
                have O3 := out_setB w' b.pb 6 (.slice va (m.todoK k ++ [kp]).length vc) 0
                have hbl := HA.out.lt
                have hge := HGE.out
                have hQT : ∀ j, (Value.slice qa (m.todoK k).length qc).ownBlock = some j → T1 ≤ j := fun j hj => (HQB.out j hj).1
                refine ⟨⟨kp, by have := HKN.out; omega, rfl, ⟨_, _, h22, ?_, by rw [List.length_set]; exact HRL.out, ?_⟩, O3.below (HO2.out.below Bx.out (Nat.le_refl _) (fun j hj => by have := hQT j hj; omega)) (Nat.le_refl _) (fun j hj => by subst hj; exact hge.1), Nat.le_trans Sx.out (Nat.le_trans HO2.out.size O3.size)⟩, by have := HKN.out; have := HKP.out; simp [intOf]; omega⟩
                · rw [hT3]
                  exact own_overN HV.out O3 (fun g hg hs => by have := (World.ownsRow.lt HV.out g hg).1; omega)
                · intro v hv
                  rw [hT3] at hv
                  rcases List.mem_append.1 hv with hv | hv
                  · obtain ⟨a, c, h1, h2, h3⟩ := HRCx.out v hv
                    have hvk : kp ≠ v := by
                      have := (List.mem_filter.1 hv).1
                      have := List.mem_range.1 this
                      have := HKP.out
                      omega
                    refine ⟨a, c, by rw [List.getElem?_set_ne hvk]; exact h1, h2, ?_⟩
                    have h4 := h3.mono2 (Q := fun g => (T1 ≤ g ∧ (Value.slice qa (m.todoK k).length qc).ownBlock ≠ some g) ∧ (Value.slice va (m.todoK k ++ [kp]).length vc).ownBlock ≠ some g) (fun g hg hlt => ⟨hg, fun e => (HN3.out g e).elim hg.2 (fun h => by omega)⟩)
                    have h5 := (h4.outN HO2.out (fun j hj hs => hj.1.2 hs)).mono (Q := fun g => T1 ≤ g ∧ (Value.slice va (m.todoK k ++ [kp]).length vc).ownBlock ≠ some g) (fun j hj => ⟨hj.1.1, hj.2⟩)
                    exact h5.outN O3 (fun j hj hs => by have := hj.1; omega)
                  · obtain rfl : v = kp := by simpa using hv
                    refine ⟨ra, rc, by rw [List.getElem?_set_self HRN.out, HL.out], HRC7.out, ?_⟩
                    rw [← HL.out]
                    have h4 := HNUx.out.mono2 (Q := fun g => (T1 ≤ g ∧ (Value.slice qa (m.todoK k).length qc).ownBlock ≠ some g) ∧ (Value.slice va (m.todoK k ++ [v]).length vc).ownBlock ≠ some g) (fun g hg hlt => by
                      have hq : (Value.slice qa (m.todoK k).length qc).ownBlock ≠ some g := fun e => by have := (HQB.out g e).2; omega
                      exact ⟨⟨Nat.le_trans S13.out hg, hq⟩, fun e => (HN3.out g e).elim hq (fun h => by omega)⟩)
                    have h5 := (h4.outN HO2.out (fun j hj hs => hj.1.2 hs)).mono (Q := fun g => T1 ≤ g ∧ (Value.slice va (m.todoK k ++ [v]).length vc).ownBlock ≠ some g) (fun j hj => ⟨hj.1.1, hj.2⟩)
                    exact h5.outN O3 (fun j hj hs => by have := hj.1; omega)
      · obtain rfl : k = ns.length := by omega
        obtain ⟨q, rv, h6, hq, hrl, hrc⟩ := HNP.out
        rw [← MN.out] at h6 hq hrc
        obtain ⟨qa, qc, hqe, hqc, _, _⟩ := own_slN hq
        have HQ := Lib.hid hq
        have HR := Lib.hid hrc
        have H6 := Lib.hid h6
        have hqi : (qc : Int) ≤ 9223372036854775807 := by omega
        subst hqe
        have htl : (m.todoK m.N).length ≤ 1001 := by have hmn := MN.out; unfold Od.todoK; have := List.length_filter_le m.want (List.range (m.N + 1)); simp at this; omega
        have hti : ((m.todoK m.N).length : Int) ≤ 1001 := by omega
        obtain ⟨f0, f1, f2, f3, f4, f5, f6⟩ := h6.fields
        have p7 := h6.p.cell 7 _ rfl
        have p7f := h6.p.fr 7
        clear h6 hq hrc f1 f2 f3 f4 f5 hkl htl HNP
        go_wp2_with fail
        go_ret
        have O3 := out_setB wr b.pb 7 (.int .i64 ((m.todoK m.N).length : Int)) 0
        have h7 := H6.out.setL HA.out (.int .i64 ((m.todoK m.N).length : Int))
        have hbl := HA.out.lt
        have hne := HA.out.ne
        have hT := HT.out
        have hsz := O3.size
        have hgo : go = (m.out : Int) := by rw [MO.out]; omega
        rw [readersK_end, thereK_end, show m.sizesK m.N = m.sizesL from mapR_eq fun j hj => if_pos (by omega), show m.freesK m.N = m.freesL from mapR_eq fun j hj => by rw [decide_eq_true (show j ≤ m.N by omega)]; rfl, hgo] at h7
        refine ⟨⟨b.pb, b.rb, b.sb, b.db, b.tb, b.fb, qa, qc, rv⟩, rfl, ⟨h7.p, h7.r, hrl, fun v hv => ?_, h7.s, h7.d, h7.t, h7.f, ?_, hqc, ?_, ?_⟩, ⟨Nat.le_trans HB2.out.size HGE.out.2.2.2.1, Nat.le_trans HB2.out.size HGE.out.2.2.2.2.1⟩, HB2.out.trans ((O3.below HB.out (Nat.le_refl _) (fun j hj => by subst hj; exact HGE.out.1)).mono HB2.out.size)⟩
        · obtain ⟨a, c, h1, h2, h3⟩ := HR.out v hv
          exact ⟨a, c, h1, h2, (h3.outN O3 (fun j hj hs => by have := hj.1; omega)).mono2 (fun j hj hlt => ⟨by have := hj.1; dsimp only; omega, by have := hj.1; dsimp only; omega, hlt⟩)⟩
        · have ho := own_overN HQ.out O3 (fun g hg hs => by have := (World.ownsRow.lt HQ.out g hg).1; omega)
          obtain ⟨a, c, he, _, hn⟩ := own_numsN (P := fun g => T1 ≤ g) ho (fun g hg => (World.ownsRow.lt ho g hg).1)
          injection he with he1 _ he3
          subst he1 he3
          exact hn.mono2 (fun j hj hlt => ⟨by dsimp only; omega, by dsimp only; omega, hlt⟩)
        · have hTS := Nat.le_trans hT hsz
          exact ⟨⟨hne.1.2.2.1, hne.1.2.2.2.1, Nat.lt_of_lt_of_le hbl.1 hTS⟩, ⟨hne.2.1.2.1, hne.2.1.2.2.1, Nat.lt_of_lt_of_le hbl.2.1 hTS⟩, ⟨hne.2.2.1.1, hne.2.2.1.2.1, Nat.lt_of_lt_of_le hbl.2.2.1 hTS⟩, ⟨Ne.symm hne.2.2.2.1.2, Ne.symm hne.2.2.2.2, Nat.lt_of_lt_of_le hbl.2.2.2.2.2 hTS⟩⟩
        · have hTS := Nat.le_trans hT hsz
          exact ⟨hne.2.2.2.1.1, Nat.lt_of_lt_of_le hbl.2.2.2.1 hTS, Nat.lt_of_lt_of_le hbl.2.2.2.2.1 hTS⟩
end Go.Proofs.Ytmifojpmomdmeaa

namespace Go.Proofs.Ytmifojpmomdmeaa
open Go Go.RowKit
set_option linter.unusedVariables false
set_option linter.unusedSimpArgs false
set_option maxRecDepth 100000

def needL (g : GrQ) : List Bool := bkN (insF g.ns) g.ns.length (nd0 g.ns.length g.o.toNat)
theorem insF_le {g : GrQ} (he : (graphE g.gr).1 = 0) : ∀ i, i < g.ns.length → ∀ v ∈ insF g.ns i, v ≤ i := by
  intro i hi v hv
  rw [insF_at (List.getElem?_eq_getElem hi)] at hv
  obtain ⟨z, hz, rfl⟩ := List.mem_map.1 hv
  have := graph_ahead (g := g.gr) he i _ (List.getElem?_eq_getElem hi) z hz
  omega
theorem out_le {g : GrQ} (he : (graphE g.gr).1 = 0) : g.o.toNat ≤ g.ns.length := by
  have h := (graph_ins (g := g.gr) he).2
  have h1 : 0 ≤ g.o := h.1
  have h2 : g.o < ((g.ns.length + 1 : Nat) : Int) := h.2
  omega
theorem needL_len {g : GrQ} (he : (graphE g.gr).1 = 0) : (needL g).length = g.ns.length + 1 := by
  unfold needL; rw [bkN_len (insF_le he)]; simp [nd0]
theorem needL_iff {g : GrQ} (he : (graphE g.gr).1 = 0) (v : Nat) : (needL g).getD v false = true ↔ RchN (insF g.ns) g.ns.length g.o.toNat v := by
  have ho := out_le he
  refine bk_spec (insF_le he) g.ns.length _ (Nat.le_refl _) (by simp [nd0]) ?_ ?_ (fun i h1 h2 => by omega) v
  · unfold nd0; rw [List.getD, List.getElem?_set_self (by simp; omega)]; rfl
  · intro u hu
    by_cases e : g.o.toNat = u
    · subst e; exact .out
    · simp [nd0, List.getD, List.getElem?_set_ne e, List.getElem?_replicate] at hu
      split at hu <;> simp at hu
theorem insF_none {ns : List Nd} {i : Nat} (h : ¬ i < ns.length) : insF ns i = [] := by unfold insF; rw [List.getElem?_eq_none (by omega)]; rfl
theorem insF_len (ns : List Nd) (i : Nat) : (insF ns i).length ≤ 2 := by
  unfold insF
  cases ns[i]? with
  | none => simp
  | some n => simpa using ins_len n
theorem odM_ok {g : GrQ} (he : (graphE g.gr).1 = 0) : (odM g (needL g)).Ok := by
  refine ⟨rfl, fun v => ?_, fun v x hw hx => ?_, fun v x hw hx => ?_⟩
  · show (if v = 0 then [] else insF g.ns (v - 1)).length ≤ 2
    split
    · simp
    · exact insF_len _ _
  · have hx' : x ∈ (if v = 0 then [] else insF g.ns (v - 1)) := hx
    split at hx'
    · simp at hx'
    · by_cases h : v - 1 < g.ns.length
      · have := insF_le he _ h x hx'; omega
      · rw [insF_none h] at hx'; simp at hx'
  · have hx' : x ∈ (if v = 0 then [] else insF g.ns (v - 1)) := hx
    have hn : (needL g).getD v false = true := by
      unfold Od.want at hw
      simp only [Bool.and_eq_true] at hw
      exact hw.1
    split at hx'
    · simp at hx'
    · next h0 =>
      by_cases h : v - 1 < g.ns.length
      · refine (needL_iff he x).2 (.step (i := v - 1) ?_ h hx')
        have := (needL_iff he v).1 hn
        rw [show v - 1 + 1 = v by omega]; exact this
      · rw [insF_none h] at hx'; simp at hx'
theorem sizeG_bd (s : Sh) : 0 ≤ sizeG s ∧ sizeG s ≤ 100000 := by
  unfold sizeG sizeS
  split
  · next h =>
    have h2 := goodB_out h
    have := (mul3 ⟨h2.1, h2.2.1⟩ ⟨h2.2.2.1, h2.2.2.2.1⟩ ⟨h2.2.2.2.2.1, h2.2.2.2.2.2.1⟩).2.2.1
    omega
  · omega
theorem odM_fit {g : GrQ} (need : List Bool) (hn : g.ns.length ≤ 1000) : (odM g need).Fit := ⟨hn, fun v => sizeG_bd _⟩
/-- the order in which the nodes are done -/
def ordG (g : GrQ) : List Nat := (odM g (needL g)).order (odM g (needL g)).todo.length
def OrPost (g : GrQ) (w : World) (e : Ending) (w' : World) : Prop :=
  ((graphE g.gr).1 ≠ 0 → e = .returned (.tuple #[.slice none 0 0, .int .i64 (graphE g.gr).1])) ∧ Below w.heap.size w w' ∧
  ((graphE g.gr).1 = 0 → ∃ v, e = .returned (.tuple #[v, .int .i64 0]) ∧ OwnL w' w.heap.size v (ordG g))
set_option maxHeartbeats 8000000 in
theorem order_any (g : GrQ) (w : World) (hC : CnsIn w g.ca g.C g.cc) (hN : NdsIn w g.na g.ns g.nc) (hn : g.ns.length ≤ 1000) :
    Calls Try.prog 17 #[g.val] w (OrPost g w) := by
  obtain ⟨E, hE⟩ : ∃ E, E = graphE g.gr := ⟨_, rfl⟩
  have B0 : Below w.heap.size w (w.alloc (.cells #[.int .i64 g.x, .int .i64 g.y, .int .i64 g.z, .slice g.ca g.C.length g.cc, .slice g.na g.ns.length g.nc, .int .i64 g.o] 26)) := Below.alloc (Below.refl _ _) (Nat.le_refl _) _
  have ND := needed_any g (w.alloc (.cells #[.int .i64 g.x, .int .i64 g.y, .int .i64 g.z, .slice g.ca g.C.length g.cc, .slice g.na g.ns.length g.nc, .int .i64 g.o] 26)) (hC.later B0) (FlatIn.later hN B0) hn
  have NPL := Lib.hid (fun (he : (graphE g.gr).1 = 0) (U uc : Nat) (W : World) (hW : Below w.heap.size w W) (hU : RowAt W U (boolsN (needL g))) => newPlan_any g (needL g) U uc W (hC.later hW) (FlatIn.later hN hW) hn he hU (needL_len he) (odM_ok he))
  have HM := Lib.hid (fun (he : (graphE g.gr).1 = 0) => odM_ok he)
  have HFT := Lib.hid (odM_fit (needL g) hn)
  have HOG := Lib.hid (show ordG g = (odM g (needL g)).order (odM g (needL g)).todo.length from rfl)
  unfold OrPost
  unfold NdPost at ND
  rw [← hE] at ND ⊢
  have RG := Lib.hid (RowAt.new w [.int .i64 g.x, .int .i64 g.y, .int .i64 g.z, .slice g.ca g.C.length g.cc, .slice g.na g.ns.length g.nc, .int .i64 g.o] 26)
  have HE := Lib.hid hE
  have NDN := Lib.hid (show bkN (insF g.ns) g.ns.length (nd0 g.ns.length g.o.toNat) = needL g from rfl)
  rw [NDN.out] at ND
  generalize hm : odM g (needL g) = m at *
  generalize ordG g = og at *
  generalize needL g = nl at *
  obtain ⟨gx, gy, gz, ca, cc, C, na, nc, ns, go⟩ := g
  obtain ⟨ec, el⟩ := E
  unfold GrQ.val at ND NPL ⊢
  dsimp only at *
  have BW := Lib.hid B0
  have NDH := Lib.hid ND
  clear B0 ND hC hN hE hm
  by_cases h0 : ec = 0
  case neg =>
    have h0b : (ec != 0) = true := by simpa using h0
    have HO := Lib.hid h0
    clear h0
    go_enter Try.func17, Try.ntmps17
    go_wp2_with (go_at_call 32; (with_reducible refine NDH.out.mono ?_); rintro e w2 ⟨hno, hb2, _⟩; obtain rfl := hno HO.out; have HB2 := Lib.hid (below_call BW.out hb2); clear hb2 hno)
    go_returns
    exact ⟨fun _ => rfl, HB2.out, fun h => absurd h HO.out⟩
  subst h0
  have he0 : (graphE (GrQ.gr ⟨gx, gy, gz, ca, cc, C, na, nc, ns, go⟩)).1 = 0 := by rw [← HE.out]
  have NP2 := Lib.hid (NPL.out he0)
  have HMK := Lib.hid (HM.out he0)
  have htd := todo_short HMK.out
  have hN := HFT.out.n
  have hti : (m.todo.length : Int) ≤ 1000 := by omega
  clear HE he0 NPL HM
  go_enter Try.func17, Try.ntmps17
  go_upto_region 4 with (go_at_call 32; (with_reducible refine NDH.out.mono ?_); rintro e w2 ⟨_, hb2, hyes⟩; obtain ⟨U, uc, rfl, hU, hrow⟩ := hyes (by trivial); have HB2 := Lib.hid (below_call BW.out hb2); have HRW := Lib.hid hrow; have RG2 := RG.out.over hb2; have c0 := RG2.cell 0 _ rfl; have c1 := RG2.cell 1 _ rfl; have c2 := RG2.cell 2 _ rfl; have c3 := RG2.cell 3 _ rfl; have c4 := RG2.cell 4 _ rfl; have c5 := RG2.cell 5 _ rfl; have cl := RG2.lt; clear hb2 hyes hrow RG2)
  go_upto_region 6 with (go_at_call 33; (with_reducible refine (NP2.out U uc _ HB2.out HRW.out).mono ?_); rintro e w3 ⟨p, rfl, hpl, hdt, hb3⟩; have HP3 := Lib.hid hpl; have HDT := Lib.hid hdt; have HB3 := Lib.hid (HB2.out.trans (hb3.mono HB2.out.size)); have HS2 := Lib.hid HB2.out.size; clear hpl hdt hb3)
  obtain ⟨pl, p0, p1, p2, p3, p4, p5, p6, p7⟩ := HP3.out.fields
  clear c0 c1 c2 c3 c4 c5 cl p0 p1 p2 p3 p4 p5 p6 NDH NP2 RG HRW BW
  obtain ⟨T, hT⟩ : ∃ T, T = w3.heap.size := ⟨_, rfl⟩
  rw [← hT] at HP3
  have HT3 := Lib.hid hT
  clear hT
  go_wp2_with fail
  clear pl p7
  go_loopw [7, 24] (fun s7 s24 wr => ∃ k : Nat, k ≤ m.todo.length ∧ s24 = .int .i64 k ∧ OwnL wr T s7 (m.order k) ∧ PlanAt m (m.order k) p T wr ∧ Below w.heap.size w wr ∧ T ≤ wr.heap.size) (fun _ s24 _ => m.todo.length - (intOf s24).toNat)
  case atStart => exact ⟨0, Nat.zero_le _, rfl, World.ownsRow_nil _ _ _ _, HP3.out, HB3.out, by have := HT3.out; omega⟩
  case round =>
    rename_i s7 _
    obtain ⟨k, hk, rfl, ho, hp, hB, hTw⟩ := hrel
    obtain ⟨qa, qc, hqe, hqc, _, _⟩ := own_slN ho
    have HO := Lib.hid ho
    have HP := Lib.hid hp
    have HB := Lib.hid hB
    have HTW := Lib.hid hTw
    obtain ⟨on, olen, osub⟩ := order_spec HMK.out k hk
    have hol : (m.order k).length ≤ 1000 := by omega
    have HOL := Lib.hid hol
    have hqi : (qc : Int) ≤ 9223372036854775807 := by omega
    subst hqe
    clear ho hp hB hTw hqc
    by_cases hkl : k < m.todo.length
    · obtain ⟨hv1, hv2⟩ := next_spec HMK.out on (by omega)
      have NX := Lib.hid (next_any HMK.out HFT.out (m.order k) p T wr HP.out)
      have HSU := Lib.hid (show m.order (k + 1) = m.order k ++ [m.next (m.order k)] from rfl)
      have HV1 := Lib.hid hv1
      have HV2 := Lib.hid (can_not hv2)
      generalize m.next (m.order k) = v at *
      have kl0 : (0 : Int) ≤ (k : Int) := by omega
      have kl1 : (k : Int) < (m.todo.length : Int) := by omega
      have HK := Lib.hid hkl
      have DN := Lib.hid (fun (W : World) (hp : PlanAt m (m.order k) p T W) => done_any HMK.out HFT.out (m.order k) p T v W hp HV1.out HV2.out)
      clear hv1 hv2 hkl on olen osub hol hk
      go_wp2_with (first
        | (go_at_call 34; (with_reducible refine NX.out.mono ?_); rintro e w4 ⟨rfl, hb4⟩; have HB4 := Lib.hid hb4; have HO4 := Lib.hid (own_overN HO.out (Out.of_below (fun _ => False) hb4) (fun _ _ => id)); have HP4 := Lib.hid (HP.out.over hb4); have HT4 := Lib.hid (Nat.le_trans HTW.out hb4.size); clear hb4)
        | (at_builtin; refine app_nat rfl (.tmp 28) (.tmp 30) rfl T (.slice qa (m.order k).length qc) (m.order k) rfl HO4.out v rfl (by have := HOL.out; omega) HT4.out ?_; intro v' w5 h1 h2 h3; have HV := Lib.hid h1; have HO2 := Lib.hid h2; have HP5 := Lib.hid (HP4.out.outN h2 (fun j hj => (World.ownsRow.lt HO4.out j hj).1)); clear h1 h2 h3)
        | (go_at_call 35; (with_reducible refine (DN.out _ HP5.out).mono ?_); rintro e w6 ⟨rfl, hp6, ho6⟩; have HP6 := Lib.hid hp6; have HO6 := Lib.hid ho6; clear hp6 ho6))
      have hn2 := HP.out.n2
      have hB5 := HO2.out.below (HB.out.trans (HB4.out.mono HB.out.size)) (Nat.le_refl _) (fun j hj => by have := (World.ownsRow.lt HO4.out j hj).1; have := HT3.out; have := HB3.out.size; omega)
      have hdt := HDT.out
      have hs2 := HS2.out
      refine ⟨⟨k + 1, by have := HK.out; omega, rfl, ?_, ?_, HO6.out.below hB5 (Nat.le_refl _) (fun j hj => by rcases hj with rfl | rfl <;> omega), Nat.le_trans HT4.out (Nat.le_trans HO2.out.size HO6.out.size)⟩, by have := HK.out; simp [intOf]; omega⟩
      · rw [HSU.out]
        exact own_overN HV.out HO6.out (fun g hg hs => by have := (World.ownsRow.lt HV.out g hg).1; rcases hs with rfl | rfl <;> omega)
      · rw [HSU.out]; exact HP6.out
    · obtain rfl : k = m.todo.length := by omega
      clear hkl hk
      go_wp2_with fail
      go_returns
      refine ⟨fun h => absurd rfl h, HB.out, fun _ => ⟨_, rfl, ?_⟩⟩
      rw [HOG.out]
      exact own_base HO.out (by have := HT3.out; have := HB3.out.size; omega)
end Go.Proofs.Ytmifojpmomdmeaa
