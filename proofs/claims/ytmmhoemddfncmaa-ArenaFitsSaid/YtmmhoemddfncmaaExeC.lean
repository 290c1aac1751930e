/- A runner, part C: more single operations. -/
import Derived.Test.YtmmhoemddfncmaaExeB
namespace Go.Proofs.Ytmmhoemddfncmaa
open Go Go.RowKit
set_option linter.unusedVariables false
set_option linter.unusedSimpArgs false

section
variable {P : Program} {N0 : Nat} {w0 w : World} {β : Bs} {H : Hp}

/-- what asks for nothing but the program -/
def semPure (P : Program) {α : Type} : Sem α → Option α
  | .pure a => some a
  | .program k => semPure P (k P)
  | .mark _ k => semPure P k
  | _ => none
theorem semPure_ok {α : Type} {s : Sem α} {a : α} (h : semPure P s = some a) : s.run P w = .ok a w := by
  induction s with
  | pure b => simp [semPure] at h; subst h; rfl
  | program k ih => exact ih _ h
  | mark m k ih => exact ih h
  | _ => simp [semPure] at h

def aFieldAddr (P : Program) (s : TypeId) (v : Value) (f : Nat) : Option Value :=
  match P.underlying s, v with
  | some (.struct fs), .pointer (some ⟨i, o, none⟩) =>
    match fs[f]? with
    | some fd => match sizeB P fd.type with
      | some (_ + 1) => some (.pointer (some ⟨i, o + fd.offset, none⟩))
      | _ => none
    | none => none
  | _, _ => none
theorem aFieldAddr_ok {s : TypeId} {v v' u : Value} {f : Nat} (h : aFieldAddr P s v f = some u) (hv : RV β v v') : ∃ u', (Instr.fieldAt s v' f).run P w = .ok u' w ∧ RV β u u' := by
  unfold aFieldAddr at h
  split at h
  · rename_i fs i o hu
    obtain ⟨b, x, hb, rfl⟩ := hv.ptr_inv
    split at h
    · rename_i fd hf
      split at h
      · rename_i n hn
        simp only [Option.some.injEq] at h; subst h
        exact ⟨.pointer (some ⟨b, o + fd.offset, none⟩), by simp [Instr.fieldAt, run_underlying hu, hf, Instr.sureAddr, fieldPlace, run_sizeOf hn, addr_add], .one (.base (.ptr hb))⟩
      · cases h
    · cases h
  · cases h

def aIndexAddr (P : Program) (t : TypeId) (v ix : Value) : Option Value :=
  match natOf ix, P.underlying t, v with
  | some j, some (.array n e), .pointer (some ⟨i, o, none⟩) => match sizeB P e with
    | some z => if j < n then some (.pointer (some ⟨i, o + j * z, none⟩)) else none
    | none => none
  | some j, some (.slice e), .slice (some ⟨i, o, _⟩) n _ => match sizeB P e with
    | some z => if j < n then some (.pointer (some ⟨i, o + j * z, none⟩)) else none
    | none => none
  | _, _, _ => none
theorem aIndexAddr_ok {t : TypeId} {v v' ix ix' u : Value} (h : aIndexAddr P t v ix = some u) (hv : RV β v v') (hi : RV β ix ix') : ∃ u', (Instr.indexAt t v' ix').run P w = .ok u' w ∧ RV β u u' := by
  unfold aIndexAddr at h
  split at h
  · rename_i j n e i o hj hu
    obtain ⟨b, x, hb, rfl⟩ := hv.ptr_inv
    obtain ⟨k, rfl⟩ := natOf_inv hj hi
    split at h
    · rename_i z hz
      split at h
      · rename_i hlt
        simp only [Option.some.injEq] at h; subst h
        have h0 : (0 : Int) ≤ j ∧ (j : Int) < n := by omega
        exact ⟨.pointer (some ⟨b, o + j * z, none⟩), by simp [Instr.indexAt, asIntOf, run_underlying hu, Instr.sureAddr, hlt, run_sizeOf hz, addr_add], .one (.base (.ptr hb))⟩
      · cases h
    · cases h
  · rename_i j e i o sp n c hj hu
    obtain ⟨b, x, hb, rfl⟩ := hv.slp_inv
    obtain ⟨k, rfl⟩ := natOf_inv hj hi
    split at h
    · rename_i z hz
      split at h
      · rename_i hlt
        simp only [Option.some.injEq] at h; subst h
        exact ⟨.pointer (some ⟨b, o + j * z, none⟩), by simp [Instr.indexAt, asIntOf, run_underlying hu, Instr.sureAddr, hlt, run_sizeOf hz, addr_add], .one (.base (.ptr hb))⟩
      · cases h
    · cases h
  · cases h

/-- a part of a struct or an array by value -/
def aPart (P : Program) (t : TypeId) (cs : List Value) (off : Nat) : Option Value :=
  match aggB P t, sizeB P t with
  | some true, some n => some (.agg ((cs.drop off).take n).toArray)
  | some false, some _ => cs[off]?
  | _, _ => none
theorem aPart_ok {t : TypeId} {cs cs' : List Value} {off : Nat} {u : Value} (h : aPart P t cs off = some u) (hc : All2 (R0 β) cs cs') : ∃ u', (part t cs'.toArray off).run P w = .ok u' w ∧ RV β u u' := by
  unfold aPart at h
  split at h
  · rename_i n ha hn
    simp only [Option.some.injEq] at h; subst h
    refine ⟨.agg ((cs'.drop off).take n).toArray, ?_, .one (.agg ((hc.drop off).take n))⟩
    simp [part, run_isAgg ha, run_sizeOf hn, List.extract_eq_take_drop]
  · rename_i n ha hn
    obtain ⟨u', hu, hr⟩ := hc.get h
    exact ⟨u', by simp [part, run_isAgg ha, hu], .one (.base hr)⟩
  · cases h
def aField (P : Program) (t : TypeId) (v : Value) (f : Nat) : Option Value :=
  match P.underlying t, v with
  | some (.struct fs), .agg cs => match fs[f]? with
    | some fd => aPart P fd.type cs.toList fd.offset
    | none => none
  | _, _ => none
theorem aField_ok {t : TypeId} {v v' u : Value} {f : Nat} (h : aField P t v f = some u) (hv : RV β v v') : ∃ u', (Instr.field t v' f).run P w = .ok u' w ∧ RV β u u' := by
  unfold aField at h
  split at h
  · rename_i fs cs hu
    obtain ⟨l', hl, rfl⟩ := hv.agg_inv
    split at h
    · rename_i fd hf
      obtain ⟨u', hr, hu'⟩ := aPart_ok (w := w) h hl
      exact ⟨u', by simp [Instr.field, run_underlying hu, hf, asAgg, hr], hu'⟩
    · cases h
  · cases h
def aIndex (P : Program) (t : TypeId) (v ix : Value) : Option Value :=
  match natOf ix, P.underlying t, v with
  | some j, some (.array n e), .agg cs => match sizeB P e with
    | some z => if j < n then aPart P e cs.toList (j * z) else none
    | none => none
  | some j, some .string, .string s => (s[j]?).map fun b => .int .u8 b.toNat
  | _, _, _ => none
theorem aIndex_ok {t : TypeId} {v v' ix ix' u : Value} (h : aIndex P t v ix = some u) (hv : RV β v v') (hi : RV β ix ix') : ∃ u', (Instr.index t v' ix').run P w = .ok u' w ∧ RV β u u' := by
  unfold aIndex at h
  split at h
  · rename_i j n e cs hj hu
    obtain ⟨l', hl, rfl⟩ := hv.agg_inv
    obtain ⟨k, rfl⟩ := natOf_inv hj hi
    split at h
    · rename_i z hz
      split at h
      · rename_i hlt
        obtain ⟨u', hr, hu'⟩ := aPart_ok (w := w) h hl
        exact ⟨u', by simp [Instr.index, asIntOf, run_underlying hu, hlt, run_sizeOf hz, hr], hu'⟩
      · cases h
    · cases h
  · rename_i j s hj hu
    obtain ⟨k, rfl⟩ := natOf_inv hj hi
    have := hv.eq_flat rfl; subst this
    simp only [Option.map_eq_some_iff] at h
    obtain ⟨b, hb, rfl⟩ := h
    exact ⟨_, by simp [Instr.index, asIntOf, run_underlying hu, hb], .of_flat rfl⟩
  · cases h
def aExtract (v : Value) (ix : Nat) : Option Value :=
  match v with
  | .tuple vs => vs.toList[ix]?
  | _ => none
theorem aExtract_ok {v v' u : Value} {ix : Nat} (h : aExtract v ix = some u) (hv : RV β v v') : ∃ u', (Instr.extract v' ix).run P w = .ok u' w ∧ RV β u u' := by
  unfold aExtract at h
  split at h
  · rename_i vs
    obtain ⟨l', hl, rfl⟩ := hv.tup_inv
    obtain ⟨u', hu, hr⟩ := hl.get h
    exact ⟨u', by simp [Instr.extract, hu], .one hr⟩
  · cases h

/-- literals -/
def aFill (place : Nat → Option (Nat × Nat)) (cells : List Value) : List (Nat × Value) → Option (List Value)
  | [] => some cells
  | (i, v) :: rest =>
    match place i, cellsL v with
    | some (off, size), some cs => if cs.length = size ∧ off + size ≤ cells.length then aFill place (cells.take off ++ cs ++ cells.drop (off + size)) rest else none
    | _, _ => none
theorem set_fold : ∀ (l : List Value) (off j : Nat) (cells : List Value), off + j + l.length ≤ cells.length →
    ((l.zipIdx j).foldl (fun cs (x : Value × Nat) => cs.setIfInBounds (off + x.2) x.1) cells.toArray).toList = cells.take (off + j) ++ l ++ cells.drop (off + j + l.length)
  | [], off, j, cells, h => by simp
  | v :: l, off, j, cells, h => by
    simp only [List.zipIdx_cons, List.foldl_cons, List.setIfInBounds_toArray]
    rw [set_fold l off (j + 1) (cells.set (off + j) v) (by simp at h ⊢; omega)]
    have := list_seg_step cells (off + j) v l (by simp at h; omega)
    simpa [Nat.add_assoc] using this
theorem aFill_ok {place : Nat → Option (Nat × Nat)} : ∀ (parts parts' : List (Nat × Value)) (cells cells' cs : List Value), aFill place cells parts = some cs → All2 (R0 β) cells cells' →
    All2 (fun a b => a.1 = b.1 ∧ RV β a.2 b.2) parts parts' → ∃ cs', Instr.fill place cells'.toArray parts' = some cs' ∧ All2 (R0 β) cs cs'.toList
  | [], _, cells, cells', cs, h, hc, hp => by
    cases hp
    simp [aFill] at h; subst h
    exact ⟨_, rfl, by simpa using hc⟩
  | (i, v) :: rest, _, cells, cells', cs, h, hc, hp => by
    cases hp with | cons h1 h2 =>
    rename_i b m
    obtain ⟨i', v'⟩ := b
    obtain ⟨rfl, hv⟩ := h1
    simp only [aFill] at h
    split at h
    · rename_i off size l hpl hl
      split at h
      · rename_i hfit
        obtain ⟨rfl, hf⟩ := hfit
        have hcs := hv.cells hl
        have hlen : v'.cells.size = l.length := by have := hcs.length; simpa using this.symm
        have hcl := hc.length
        have hset := set_fold v'.cells.toList off 0 cells' (by rw [← hcs.length, ← hcl]; simpa using hf)
        have hnew : All2 (R0 β) (cells.take off ++ l ++ cells.drop (off + l.length)) (cells'.take off ++ v'.cells.toList ++ cells'.drop (off + l.length)) := ((hc.take off).append hcs).append (hc.drop _)
        obtain ⟨cs', g1, g2⟩ := aFill_ok rest m _ _ cs h hnew h2
        refine ⟨cs', ?_, g2⟩
        simp only [Instr.fill, hpl, hlen]
        have hno : ¬ (cells'.toArray.size < off + l.length) := by simp; omega
        have hno' : ¬ (off + l.length > cells'.toArray.size) := by simp; omega
        have e : (Array.foldl (fun cs (x : Value × Nat) => cs.setIfInBounds (off + x.2) x.1) cells'.toArray v'.cells.zipIdx) = (cells'.take off ++ v'.cells.toList ++ cells'.drop (off + l.length)).toArray := by
          apply Array.ext'
          rw [← Array.foldl_toList]
          have hz : v'.cells.zipIdx.toList = v'.cells.toList.zipIdx 0 := by simp
          rw [hz, hset]
          simp [← hcs.length]
        simp [hno, hno']
        have e' := e
        simp at e'
        rw [e']
        exact ⟨by omega, by simpa using g1⟩
      · cases h
    · cases h
end
end Go.Proofs.Ytmmhoemddfncmaa
