/- What steps of loop programs have: the document's rules as functions, with no program in sight. -/
import Derived.Test.YtlieapapmkbbgaaFive
namespace Go.Proofs.Ytlieapapmkbbgaa
open Go Go.RowKit
set_option linter.unusedVariables false

def isOp (o : Int) : Bool := decide (1 ≤ o ∧ o ≤ 24)
def hasD (o : Int) : Bool := decide (1 ≤ o ∧ o ≤ 20 ∨ o = 23)
def hasA (o : Int) : Bool := decide (2 ≤ o ∧ o ≤ 22)
def hasB (o : Int) : Bool := decide (3 ≤ o ∧ o ≤ 12 ∨ o = 21 ∨ o = 22)
def leastS (o : Int) : Int := if o = 1 ∨ o = 13 ∨ (17 ≤ o ∧ o ≤ 22) then -2147483648 else if o = 23 then 1 else 0
def mostS (o : Int) : Int := if o = 1 ∨ o = 13 ∨ (17 ≤ o ∧ o ≤ 22) then 2147483647 else if o = 23 then 100000 else if 14 ≤ o ∧ o ≤ 16 then 31 else 0
def fitsS (v : Int) (has : Bool) : Bool := if has then decide (0 ≤ v ∧ v < 64) else decide (v = 0)
/-- whether a step may be -/
def canS (x : Q5) : Bool := isOp x.o && fitsS x.d (hasD x.o) && fitsS x.a (hasA x.o) && fitsS x.b (hasB x.o) && decide (leastS x.o ≤ x.i) && decide (x.i ≤ mostS x.o)
def readsS (x : Q5) : List Int := if canS x then (if hasA x.o then [x.a] else []) ++ (if hasB x.o then [x.b] else []) else []
def writesS (x : Q5) : Int := if canS x && hasD x.o then x.d else -1
theorem fits_bd {v : Int} {h : Bool} (e : fitsS v h = true) : 0 ≤ v ∧ v < 64 := by
  unfold fitsS at e
  cases h <;> simp at e <;> omega
theorem can_d {x : Q5} (h : canS x = true) : 0 ≤ x.d ∧ x.d < 64 := by
  unfold canS at h
  simp only [Bool.and_eq_true] at h
  exact fits_bd h.1.1.1.1.2
theorem can_op {x : Q5} (h : canS x = true) : 1 ≤ x.o ∧ x.o ≤ 24 := by
  unfold canS isOp at h
  simp only [Bool.and_eq_true, decide_eq_true_eq] at h
  exact h.1.1.1.1.1
theorem writes_bd {x : Q5} : writesS x = -1 ∨ (0 ≤ writesS x ∧ writesS x < 64) := by
  unfold writesS
  cases hc : canS x
  · left; simp
  · cases hd : hasD x.o
    · left; simp
    · right; simpa using can_d hc

/-- one step of the search for the ends of loops: places so far, and the loops that are open -/
def stepE (i : Nat) (x : Q5) (s : List Int × List Nat) : Option (List Int × List Nat) :=
  if x.o = 23 then some (s.1.set i (-1), s.2 ++ [i])
  else if x.o = 24 then
    match s.2.getLast? with
    | none => none
    | some b => some (((s.1.set i (-1)).set i b).set b i, s.2.dropLast)
  else some (s.1.set i (-1), s.2)
def runE : List Q5 → Nat → List Int × List Nat → Option (List Int × List Nat)
  | [], _, s => some s
  | x :: l, i, s => match stepE i x s with
    | none => none
    | some s' => runE l (i + 1) s'
def endsS (l : List Q5) : Option (List Int) :=
  match runE l 0 (List.replicate l.length 0, []) with
  | some (p, []) => some p
  | _ => none

/-- how many loops are open whose counter is this one, and all open counters -/
def stepC (x : Q5) (cs : List Int) : Option (List Int) :=
  if x.o = 24 then some cs.dropLast
  else if writesS x ≠ -1 ∧ writesS x ∈ cs then none
  else if x.o = 23 then (if cs.length = 10 then none else some (cs ++ [x.d]))
  else some cs
def runC : List Q5 → List Int → Option (List Int)
  | [], cs => some cs
  | x :: l, cs => match stepC x cs with
    | none => none
    | some cs' => runC l cs'
def countedS (l : List Q5) : Bool := (runC l []).isSome
def checkS (l : List Q5) : Int :=
  if 20000 < l.length then 2 else if l.any (fun x => !canS x) then 1 else if (endsS l).isNone || !countedS l then 4 else 0

/-- what a run of the search has come to -/
theorem runE_step {l : List Q5} {k : Nat} {x : Q5} (hx : l[k]? = some x) (i : Nat) (s : List Int × List Nat) :
    runE (l.drop k) i s = match stepE i x s with
      | none => none
      | some s' => runE (l.drop (k + 1)) (i + 1) s' := by
  have hk : k < l.length := by
    rcases Nat.lt_or_ge k l.length with g | g
    · exact g
    · rw [List.getElem?_eq_none g] at hx; cases hx
  have : l.drop k = x :: l.drop (k + 1) := by
    rw [List.drop_eq_getElem_cons hk]
    congr 1
    rw [List.getElem?_eq_getElem hk] at hx
    exact Option.some.inj hx
  rw [this]
  rfl
theorem runC_step {l : List Q5} {k : Nat} {x : Q5} (hx : l[k]? = some x) (s : List Int) :
    runC (l.drop k) s = match stepC x s with
      | none => none
      | some s' => runC (l.drop (k + 1)) s' := by
  have hk : k < l.length := by
    rcases Nat.lt_or_ge k l.length with g | g
    · exact g
    · rw [List.getElem?_eq_none g] at hx; cases hx
  have : l.drop k = x :: l.drop (k + 1) := by
    rw [List.drop_eq_getElem_cons hk]
    congr 1
    rw [List.getElem?_eq_getElem hk] at hx
    exact Option.some.inj hx
  rw [this]
  rfl
theorem lookup {α : Type} {l : List α} {k : Nat} (h : k < l.length) : ∃ x, l[k]? = some x := ⟨_, List.getElem?_eq_getElem h⟩
end Go.Proofs.Ytlieapapmkbbgaa
