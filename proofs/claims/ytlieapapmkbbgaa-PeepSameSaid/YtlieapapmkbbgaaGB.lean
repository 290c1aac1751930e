/- What steps of loop programs have: the document's rules as functions, with no program in sight. -/
import Derived.Test.YtlieapapmkbbgaaGA
import Init
import Derived.Test.YtlieapapmkbbgaaProg
import Derived.WalkSpells
import Derived.WalkSmall
import Derived.Handy
import Derived.Lib.Hide
import Derived.BigQuiet
import Derived.OwnWalk
import Derived.Laws.StructEq
import Derived.Deep.QuietTactic
import Derived.Deep.OwnRows
import Derived.Deep.RegionHeld3
namespace Go.Proofs.Ytlieapapmkbbgaa
open Go Go.RowKit
set_option linter.unusedVariables false

def isOp (o : Int) : Bool := decide (1 ≤ o ∧ o ≤ 24)
def hasD (o : Int) : Bool := decide (1 ≤ o ∧ o ≤ 20 ∨ o = 23)
def hasA (o : Int) : Bool := decide (2 ≤ o ∧ o ≤ 22)
def hasB (o : Int) : Bool := decide (3 ≤ o ∧ o ≤ 12 ∨ o = 21 ∨ o = 22)
def leastS (o : Int) : Int := if o = 1 ∨ o = 13 ∨ (17 ≤ o ∧ o ≤ 22) then -2147483648 else if o = 23 then 1 else 0
def mostS (o : Int) : Int := if o = 1 ∨ o = 13 ∨ (17 ≤ o ∧ o ≤ 22) then 2147483647 else if o = 23 then 100000 else if 14 ≤ o ∧ o ≤ 16 then 31 else 0
def fitsS (v : Int) (has : Bool) : Bool := if has then decide (0 ≤ v ∧ v < 64) else decide (v = 0)
/-- whether a step may be -/
def canS (x : Q5) : Bool := isOp x.o && fitsS x.d (hasD x.o) && fitsS x.a (hasA x.o) && fitsS x.b (hasB x.o) && decide (leastS x.o ≤ x.i) && decide (x.i ≤ mostS x.o)
def readsS (x : Q5) : List Int := if canS x then (if hasA x.o then [x.a] else []) ++ (if hasB x.o then [x.b] else []) else []
def writesS (x : Q5) : Int := if canS x && hasD x.o then x.d else -1
theorem fits_bd {v : Int} {h : Bool} (e : fitsS v h = true) : 0 ≤ v ∧ v < 64 := by
  unfold fitsS at e
  cases h <;> simp at e <;> omega
theorem can_d {x : Q5} (h : canS x = true) : 0 ≤ x.d ∧ x.d < 64 := by
  unfold canS at h
  simp only [Bool.and_eq_true] at h
  exact fits_bd h.1.1.1.1.2
theorem can_op {x : Q5} (h : canS x = true) : 1 ≤ x.o ∧ x.o ≤ 24 := by
  unfold canS isOp at h
  simp only [Bool.and_eq_true, decide_eq_true_eq] at h
  exact h.1.1.1.1.1
theorem writes_bd {x : Q5} : writesS x = -1 ∨ (0 ≤ writesS x ∧ writesS x < 64) := by
  unfold writesS
  cases hc : canS x
  · left; simp
  · cases hd : hasD x.o
    · left; simp
    · right; simpa using can_d hc

/-- one step of the search for the ends of loops: places so far, and the loops that are open -/
def stepE (i : Nat) (x : Q5) (s : List Int × List Nat) : Option (List Int × List Nat) :=
  if x.o = 23 then some (s.1.set i (-1), s.2 ++ [i])
  else if x.o = 24 then
    match s.2.getLast? with
    | none => none
    | some b => some (((s.1.set i (-1)).set i b).set b i, s.2.dropLast)
  else some (s.1.set i (-1), s.2)
def runE : List Q5 → Nat → List Int × List Nat → Option (List Int × List Nat)
  | [], _, s => some s
  | x :: l, i, s => match stepE i x s with
    | none => none
    | some s' => runE l (i + 1) s'
def endsS (l : List Q5) : Option (List Int) :=
  match runE l 0 (List.replicate l.length 0, []) with
  | some (p, []) => some p
  | _ => none

/-- how many loops are open whose counter is this one, and all open counters -/
def stepC (x : Q5) (cs : List Int) : Option (List Int) :=
  if x.o = 24 then some cs.dropLast
  else if writesS x ≠ -1 ∧ writesS x ∈ cs then none
  else if x.o = 23 then (if cs.length = 10 then none else some (cs ++ [x.d]))
  else some cs
def runC : List Q5 → List Int → Option (List Int)
  | [], cs => some cs
  | x :: l, cs => match stepC x cs with
    | none => none
    | some cs' => runC l cs'
def countedS (l : List Q5) : Bool := (runC l []).isSome
def checkS (l : List Q5) : Int :=
  if 20000 < l.length then 2 else if l.any (fun x => !canS x) then 1 else if (endsS l).isNone || !countedS l then 4 else 0

/-- what a run of the search has come to -/
theorem runE_step {l : List Q5} {k : Nat} {x : Q5} (hx : l[k]? = some x) (i : Nat) (s : List Int × List Nat) :
    runE (l.drop k) i s = match stepE i x s with
      | none => none
      | some s' => runE (l.drop (k + 1)) (i + 1) s' := by
  have hk : k < l.length := by
    rcases Nat.lt_or_ge k l.length with g | g
    · exact g
    · rw [List.getElem?_eq_none g] at hx; cases hx
  have : l.drop k = x :: l.drop (k + 1) := by
    rw [List.drop_eq_getElem_cons hk]
    congr 1
    rw [List.getElem?_eq_getElem hk] at hx
    exact Option.some.inj hx
  rw [this]
  rfl
theorem runC_step {l : List Q5} {k : Nat} {x : Q5} (hx : l[k]? = some x) (s : List Int) :
    runC (l.drop k) s = match stepC x s with
      | none => none
      | some s' => runC (l.drop (k + 1)) s' := by
  have hk : k < l.length := by
    rcases Nat.lt_or_ge k l.length with g | g
    · exact g
    · rw [List.getElem?_eq_none g] at hx; cases hx
  have : l.drop k = x :: l.drop (k + 1) := by
    rw [List.drop_eq_getElem_cons hk]
    congr 1
    rw [List.getElem?_eq_getElem hk] at hx
    exact Option.some.inj hx
  rw [this]
  rfl
theorem lookup {α : Type} {l : List α} {k : Nat} (h : k < l.length) : ∃ x, l[k]? = some x := ⟨_, List.getElem?_eq_getElem h⟩
end Go.Proofs.Ytlieapapmkbbgaa

namespace Go.Proofs.Ytlieapapmkbbgaa
set_option linter.unusedVariables false

/-- the first end behind, of so many inner loops -/
def endG : List Q5 → Nat → Nat → Option Nat
  | [], _, _ => none
  | x :: xs, j, n => if x.o = 24 then (if n = 0 then some j else endG xs (j + 1) (n - 1)) else if x.o = 23 then endG xs (j + 1) (n + 1) else endG xs (j + 1) n
theorem endG_ge : ∀ (xs : List Q5) (j n k : Nat), endG xs j n = some k → j ≤ k ∧ k < j + xs.length ∧ ∃ x, xs[k - j]? = some x ∧ x.o = 24 := by
  intro xs
  induction xs with
  | nil => intro j n k h; simp [endG] at h
  | cons x xs ih =>
    intro j n k h
    have step : ∀ m, endG xs (j + 1) m = some k → j ≤ k ∧ k < j + (x :: xs).length ∧ ∃ y, (x :: xs)[k - j]? = some y ∧ y.o = 24 := by
      intro m hm
      obtain ⟨h1, h2, y, h3, h4⟩ := ih (j + 1) m k hm
      refine ⟨by omega, by simp; omega, y, ?_, h4⟩
      rw [show k - j = (k - (j + 1)) + 1 by omega]
      simpa using h3
    unfold endG at h
    by_cases h24 : x.o = 24
    · rw [if_pos h24] at h
      by_cases hn : n = 0
      · rw [if_pos hn] at h
        obtain rfl : j = k := by simpa using h
        exact ⟨by omega, by simp, x, by simp, h24⟩
      · rw [if_neg hn] at h
        exact step _ h
    · rw [if_neg h24] at h
      by_cases h23 : x.o = 23
      · rw [if_pos h23] at h; exact step _ h
      · rw [if_neg h23] at h; exact step _ h
/-- the place of a loop's end -/
def mate (l : List Q5) (i : Nat) : Option Nat := endG (l.drop (i + 1)) (i + 1) 0
theorem drop_cons {l : List Q5} {j : Nat} {x : Q5} {xs : List Q5} (h : l.drop j = x :: xs) : l[j]? = some x ∧ l.drop (j + 1) = xs ∧ j < l.length := by
  have hl : j < l.length := by
    rcases Nat.lt_or_ge j l.length with g | g
    · exact g
    · rw [List.drop_eq_nil_of_le g] at h; cases h
  refine ⟨?_, ?_, hl⟩
  · have := congrArg (fun m => m[0]?) h
    simpa using this
  · have := congrArg List.tail h
    simpa using this
theorem mate_ge {l : List Q5} {i k : Nat} (h : mate l i = some k) : i < k ∧ k < l.length ∧ ∃ x, l[k]? = some x ∧ x.o = 24 := by
  obtain ⟨h1, h2, x, h3, h4⟩ := endG_ge _ _ _ _ h
  simp only [List.length_drop] at h2
  rw [List.getElem?_drop] at h3
  refine ⟨by omega, by omega, x, ?_, h4⟩
  rw [show k = i + 1 + (k - (i + 1)) by omega]
  exact h3

/-- a search that fails: an end that is no loop's -/
theorem run_fails (l : List Q5) : ∀ (xs : List Q5) (j : Nat) (P : List Int) (st : List Nat), l.drop j = xs → runE xs j (P, st) = none →
    ∃ p x, j ≤ p ∧ l[p]? = some x ∧ x.o = 24 ∧ (∀ t, t < st.length → endG xs j t ≠ some p) ∧ ∀ i y, j ≤ i → l[i]? = some y → y.o = 23 → mate l i ≠ some p := by
  intro xs
  induction xs with
  | nil => intro j P st _ h; simp [runE] at h
  | cons x xs ih =>
    intro j P st hd h
    obtain ⟨hx, hd', hj⟩ := drop_cons hd
    unfold runE at h
    by_cases h23 : x.o = 23
    · have h24 : x.o ≠ 24 := by omega
      simp only [stepE, if_pos h23] at h
      obtain ⟨p, y, hp, hy, ho, h1, h2⟩ := ih (j + 1) _ _ hd' h
      refine ⟨p, y, by omega, hy, ho, ?_, ?_⟩
      · intro t ht
        unfold endG
        rw [if_neg h24, if_pos h23]
        exact h1 (t + 1) (by simp; omega)
      · intro i z hi hz hzo
        by_cases e : i = j
        · subst e
          unfold mate
          rw [hd']
          exact h1 0 (by simp)
        · exact h2 i z (by omega) hz hzo
    · by_cases h24 : x.o = 24
      · simp only [stepE, if_neg h23, if_pos h24] at h
        rcases List.eq_nil_or_concat st with hst | ⟨st', b, hst⟩
        · subst hst
          refine ⟨j, x, by omega, hx, h24, by simp, ?_⟩
          intro i z hi hz hzo hm
          have := mate_ge hm
          omega
        · rw [List.concat_eq_append] at hst
          subst hst
          simp only [List.getLast?_append, List.getLast?_singleton, Option.some_or, List.dropLast_concat] at h
          obtain ⟨p, y, hp, hy, ho, h1, h2⟩ := ih (j + 1) _ _ hd' h
          refine ⟨p, y, by omega, hy, ho, ?_, ?_⟩
          · intro t ht
            unfold endG
            rw [if_pos h24]
            by_cases t0 : t = 0
            · rw [if_pos t0]; simp; omega
            · rw [if_neg t0]; exact h1 (t - 1) (by simp at ht; omega)
          · intro i z hi hz hzo
            by_cases e : i = j
            · subst e; rw [hx] at hz; cases hz; exact absurd hzo h23
            · exact h2 i z (by omega) hz hzo
      · simp only [stepE, if_neg h23, if_neg h24] at h
        obtain ⟨p, y, hp, hy, ho, h1, h2⟩ := ih (j + 1) _ _ hd' h
        refine ⟨p, y, by omega, hy, ho, ?_, ?_⟩
        · intro t ht
          unfold endG
          rw [if_neg h24, if_neg h23]
          exact h1 t ht
        · intro i z hi hz hzo
          by_cases e : i = j
          · subst e; rw [hx] at hz; cases hz; exact absurd hzo h23
          · exact h2 i z (by omega) hz hzo

/-- a search that leaves loops open: a loop without an end -/
theorem run_opens (l : List Q5) : ∀ (xs : List Q5) (j : Nat) (P Pf : List Int) (st : List Nat) (Of : List Nat), l.drop j = xs → runE xs j (P, st) = some (Pf, Of) → Of ≠ [] →
    (0 < st.length ∧ endG xs j (st.length - 1) = none) ∨ ∃ i x, j ≤ i ∧ l[i]? = some x ∧ x.o = 23 ∧ mate l i = none := by
  intro xs
  induction xs with
  | nil =>
    intro j P Pf st Of _ h hO
    simp [runE] at h
    left
    refine ⟨?_, rfl⟩
    rw [h.2]
    exact List.length_pos_iff.2 hO
  | cons x xs ih =>
    intro j P Pf st Of hd h hO
    obtain ⟨hx, hd', hj⟩ := drop_cons hd
    unfold runE at h
    by_cases h23 : x.o = 23
    · have h24 : x.o ≠ 24 := by omega
      simp only [stepE, if_pos h23] at h
      rcases ih (j + 1) _ _ _ _ hd' h hO with ⟨_, h1⟩ | ⟨i, y, hi, hy, ho, hm⟩
      · simp only [List.length_append, List.length_singleton, Nat.add_sub_cancel] at h1
        by_cases hs : st.length = 0
        · right
          exact ⟨j, x, Nat.le_refl _, hx, h23, by unfold mate; rw [hd', ← hs]; exact h1⟩
        · left
          refine ⟨by omega, ?_⟩
          unfold endG
          rw [if_neg h24, if_pos h23, show st.length - 1 + 1 = st.length by omega]
          exact h1
      · exact Or.inr ⟨i, y, by omega, hy, ho, hm⟩
    · by_cases h24 : x.o = 24
      · simp only [stepE, if_neg h23, if_pos h24] at h
        rcases List.eq_nil_or_concat st with hst | ⟨st', b, hst⟩
        · subst hst; simp at h
        · rw [List.concat_eq_append] at hst
          subst hst
          simp only [List.getLast?_append, List.getLast?_singleton, Option.some_or, List.dropLast_concat] at h
          rcases ih (j + 1) _ _ _ _ hd' h hO with ⟨h0, h1⟩ | ⟨i, y, hi, hy, ho, hm⟩
          · left
            refine ⟨by simp, ?_⟩
            unfold endG
            rw [if_pos h24, if_neg (by rw [List.length_append]; simp only [List.length_singleton]; omega), show (st' ++ [b]).length - 1 - 1 = st'.length - 1 by simp]
            exact h1
          · exact Or.inr ⟨i, y, by omega, hy, ho, hm⟩
      · simp only [stepE, if_neg h23, if_neg h24] at h
        rcases ih (j + 1) _ _ _ _ hd' h hO with ⟨h0, h1⟩ | ⟨i, y, hi, hy, ho, hm⟩
        · left
          refine ⟨h0, ?_⟩
          unfold endG
          rw [if_neg h24, if_neg h23]
          exact h1
        · exact Or.inr ⟨i, y, by omega, hy, ho, hm⟩

/-- a search that ends: each loop's place has its end, and the other way round -/
theorem run_good (l : List Q5) : ∀ (xs : List Q5) (j : Nat) (P Pf : List Int) (st : List Nat), l.drop j = xs → P.length = l.length → (∀ b ∈ st, b < j) → st.Nodup → runE xs j (P, st) = some (Pf, []) →
    Pf.length = l.length ∧
    (∀ t b : Nat, st.reverse[t]? = some b → ∃ k, endG xs j t = some k ∧ Pf[b]? = some (k : Int) ∧ Pf[k]? = some (b : Int)) ∧
    (∀ i x, j ≤ i → l[i]? = some x → x.o = 23 → ∃ k, mate l i = some k ∧ Pf[i]? = some (k : Int) ∧ Pf[k]? = some (i : Int)) ∧
    (∀ p x, j ≤ p → l[p]? = some x → x.o = 24 → ∃ i : Nat, (i ∈ st ∨ ∃ y, j ≤ i ∧ l[i]? = some y ∧ y.o = 23) ∧ Pf[p]? = some (i : Int) ∧ Pf[i]? = some (p : Int)) ∧
    (∀ p x, j ≤ p → l[p]? = some x → x.o ≠ 23 → x.o ≠ 24 → Pf[p]? = some (-1)) ∧
    (∀ p, p < j → p ∉ st → Pf[p]? = P[p]?) := by
  intro xs
  induction xs with
  | nil =>
    intro j P Pf st hd hP _ _ h
    simp [runE] at h
    obtain ⟨rfl, rfl⟩ := h
    have hj : l.length ≤ j := by
      rcases Nat.lt_or_ge j l.length with g | g
      · rw [List.drop_eq_getElem_cons g] at hd; cases hd
      · exact g
    have hnone : ∀ i x, j ≤ i → l[i]? = some x → False := by
      intro i x hi hx
      rw [List.getElem?_eq_none (by omega)] at hx
      cases hx
    exact ⟨hP, by simp, fun i x hi hx => (hnone i x hi hx).elim, fun i x hi hx => (hnone i x hi hx).elim, fun i x hi hx => (hnone i x hi hx).elim, fun p _ _ => rfl⟩
  | cons x xs ih =>
    intro j P Pf st hd hP hst hnd h
    obtain ⟨hx, hd', hj⟩ := drop_cons hd
    unfold runE at h
    by_cases h23 : x.o = 23
    · have h24 : x.o ≠ 24 := by omega
      simp only [stepE, if_pos h23] at h
      have hnj : j ∉ st := fun hm => by have := hst j hm; omega
      obtain ⟨g0, g1, g2, g3, g4, g5⟩ := ih (j + 1) (P.set j (-1)) Pf (st ++ [j]) hd' (by simpa using hP)
        (by intro b hb; rcases List.mem_append.1 hb with hb | hb; have := hst b hb; omega; simp at hb; omega)
        (by rw [List.nodup_append]; exact ⟨hnd, by simp, by intro a ha b hb e; simp at hb; subst hb; subst e; exact hnj ha⟩) h
      have top := g1 0 j (by simp)
      refine ⟨g0, ?_, ?_, ?_, ?_, ?_⟩
      · intro t b ht
        have := g1 (t + 1) b (by simpa using ht)
        unfold endG
        rw [if_neg h24, if_pos h23]
        exact this
      · intro i y hi hy ho
        by_cases e : i = j
        · subst e
          unfold mate
          rw [hd']
          exact top
        · exact g2 i y (by omega) hy ho
      · intro p y hp hy ho
        by_cases e : p = j
        · subst e; rw [hx] at hy; cases hy; exact absurd ho h24
        · obtain ⟨i, hi, h1, h2⟩ := g3 p y (by omega) hy ho
          refine ⟨i, ?_, h1, h2⟩
          rcases hi with hi | ⟨z, hz, h3, h4⟩
          · rcases List.mem_append.1 hi with hi | hi
            · exact Or.inl hi
            · simp at hi; subst hi; exact Or.inr ⟨x, Nat.le_refl _, hx, h23⟩
          · exact Or.inr ⟨z, by omega, h3, h4⟩
      · intro p y hp hy ho1 ho2
        by_cases e : p = j
        · subst e; rw [hx] at hy; cases hy; exact absurd h23 ho1
        · exact g4 p y (by omega) hy ho1 ho2
      · intro p hp hps
        rw [g5 p (by omega) (by simp; exact ⟨hps, by omega⟩), List.getElem?_set_ne (by omega)]
    · by_cases h24 : x.o = 24
      · simp only [stepE, if_neg h23, if_pos h24] at h
        rcases List.eq_nil_or_concat st with hs | ⟨st', b, hs⟩
        · subst hs; simp at h
        · rw [List.concat_eq_append] at hs
          subst hs
          simp only [List.getLast?_append, List.getLast?_singleton, Option.some_or, List.dropLast_concat] at h
          have hbj : b < j := hst b (by simp)
          rw [List.nodup_append] at hnd
          obtain ⟨nd1, _, nd2⟩ := hnd
          have hbn : b ∉ st' := fun hm => nd2 b hm b (by simp) rfl
          obtain ⟨g0, g1, g2, g3, g4, g5⟩ := ih (j + 1) (((P.set j (-1)).set j (b : Int)).set b (j : Int)) Pf st' hd' (by simpa using hP)
            (by intro c hc; have := hst c (List.mem_append_left _ hc); omega) nd1 h
          have pj : Pf[j]? = some (b : Int) := by
            rw [g5 j (by omega) (fun hm => by have := hst j (List.mem_append_left _ hm); omega), List.getElem?_set_ne (by omega), List.getElem?_set_self (by simp; omega)]
          have pb : Pf[b]? = some (j : Int) := by
            rw [g5 b (by omega) hbn, List.getElem?_set_self (by simp; omega)]
          refine ⟨g0, ?_, ?_, ?_, ?_, ?_⟩
          · intro t c ht
            unfold endG
            rw [if_pos h24]
            cases t with
            | zero =>
              obtain rfl : b = c := by simpa using ht
              exact ⟨j, by simp, pb, pj⟩
            | succ t =>
              rw [if_neg (by omega), Nat.add_sub_cancel]
              exact g1 t c (by simpa using ht)
          · intro i y hi hy ho
            by_cases e : i = j
            · subst e; rw [hx] at hy; cases hy; exact absurd ho h23
            · exact g2 i y (by omega) hy ho
          · intro p y hp hy ho
            by_cases e : p = j
            · subst e; exact ⟨b, Or.inl (by simp), pj, pb⟩
            · obtain ⟨i, hi, h1, h2⟩ := g3 p y (by omega) hy ho
              refine ⟨i, ?_, h1, h2⟩
              rcases hi with hi | ⟨z, hz, h3, h4⟩
              · exact Or.inl (List.mem_append_left _ hi)
              · exact Or.inr ⟨z, by omega, h3, h4⟩
          · intro p y hp hy ho1 ho2
            by_cases e : p = j
            · subst e; rw [hx] at hy; cases hy; exact absurd h24 ho2
            · exact g4 p y (by omega) hy ho1 ho2
          · intro p hp hps
            have hpb : p ≠ b := fun e => hps (by simp [e])
            rw [g5 p (by omega) (fun hm => hps (List.mem_append_left _ hm)), List.getElem?_set_ne (by omega), List.getElem?_set_ne (by omega), List.getElem?_set_ne (by omega)]
      · simp only [stepE, if_neg h23, if_neg h24] at h
        obtain ⟨g0, g1, g2, g3, g4, g5⟩ := ih (j + 1) (P.set j (-1)) Pf st hd' (by simpa using hP) (by intro b hb; have := hst b hb; omega) hnd h
        have hnj : j ∉ st := fun hm => by have := hst j hm; omega
        refine ⟨g0, ?_, ?_, ?_, ?_, ?_⟩
        · intro t b ht
          unfold endG
          rw [if_neg h24, if_neg h23]
          exact g1 t b ht
        · intro i y hi hy ho
          by_cases e : i = j
          · subst e; rw [hx] at hy; cases hy; exact absurd ho h23
          · exact g2 i y (by omega) hy ho
        · intro p y hp hy ho
          by_cases e : p = j
          · subst e; rw [hx] at hy; cases hy; exact absurd ho h24
          · obtain ⟨i, hi, h1, h2⟩ := g3 p y (by omega) hy ho
            refine ⟨i, ?_, h1, h2⟩
            rcases hi with hi | ⟨z, hz, h3, h4⟩
            · exact Or.inl hi
            · exact Or.inr ⟨z, by omega, h3, h4⟩
        · intro p y hp hy ho1 ho2
          by_cases e : p = j
          · subst e
            rw [g5 p (by omega) hnj, List.getElem?_set_self (by omega)]
          · exact g4 p y (by omega) hy ho1 ho2
        · intro p hp hps
          rw [g5 p (by omega) hps, List.getElem?_set_ne (by omega)]
end Go.Proofs.Ytlieapapmkbbgaa

namespace Go.Proofs.Ytlieapapmkbbgaa
set_option linter.unusedVariables false

def refR : List Q5 → Nat → List Int → Option (List Int)
  | [], _, o => some o
  | x :: xs, i, o => if x.o = 23 then (match endG xs (i + 1) 0 with
      | none => none
      | some k => refR xs (i + 1) ((o.set i (k : Int)).set k (i : Int))) else refR xs (i + 1) o
def okR : List Q5 → Nat → List Int → Bool
  | [], _, _ => true
  | x :: xs, i, o => if x.o = 24 ∧ o.getD i 0 < 0 then false else okR xs (i + 1) o
def refE (l : List Q5) : Option (List Int) := match refR l 0 (List.replicate l.length (-1)) with
  | none => none
  | some o => if okR l 0 o then some o else none

theorem refR_none (l : List Q5) : ∀ (xs : List Q5) (j : Nat) (o : List Int), l.drop j = xs → (∃ i x, j ≤ i ∧ l[i]? = some x ∧ x.o = 23 ∧ mate l i = none) → refR xs j o = none := by
  intro xs
  induction xs with
  | nil =>
    intro j o hd ⟨i, x, hi, hx, _⟩
    have hj : l.length ≤ j := by
      rcases Nat.lt_or_ge j l.length with g | g
      · rw [List.drop_eq_getElem_cons g] at hd; cases hd
      · exact g
    rw [List.getElem?_eq_none (by omega)] at hx
    cases hx
  | cons x xs ih =>
    intro j o hd ⟨i, y, hi, hy, ho, hm⟩
    obtain ⟨hx, hd', hj⟩ := drop_cons hd
    unfold refR
    by_cases e : i = j
    · subst e
      rw [hx] at hy
      cases hy
      unfold mate at hm
      rw [hd'] at hm
      rw [if_pos ho, hm]
    · have := fun o' => ih (j + 1) o' hd' ⟨i, y, by omega, hy, ho, hm⟩
      by_cases h23 : x.o = 23
      · rw [if_pos h23]
        cases endG xs (j + 1) 0 with
        | none => rfl
        | some k => exact this _
      · rw [if_neg h23]; exact this _
theorem refR_old (l : List Q5) (p : Nat) : ∀ (xs : List Q5) (j : Nat) (o o' : List Int), l.drop j = xs → (∀ i x, j ≤ i → l[i]? = some x → x.o = 23 → i ≠ p ∧ mate l i ≠ some p) → refR xs j o = some o' → o'[p]? = o[p]? := by
  intro xs
  induction xs with
  | nil => intro j o o' _ _ h; simp [refR] at h; rw [h]
  | cons x xs ih =>
    intro j o o' hd hp h
    obtain ⟨hx, hd', hj⟩ := drop_cons hd
    have hp' : ∀ i x, j + 1 ≤ i → l[i]? = some x → x.o = 23 → i ≠ p ∧ mate l i ≠ some p := fun i y hi => hp i y (by omega)
    unfold refR at h
    by_cases h23 : x.o = 23
    · rw [if_pos h23] at h
      obtain ⟨h1, h2⟩ := hp j x (Nat.le_refl _) hx h23
      unfold mate at h2
      rw [hd'] at h2
      cases hk : endG xs (j + 1) 0 with
      | none => rw [hk] at h; cases h
      | some k =>
        rw [hk] at h h2
        rw [ih (j + 1) _ _ hd' hp' h, List.getElem?_set_ne (by intro e; exact h2 (by rw [e])), List.getElem?_set_ne h1]
    · rw [if_neg h23] at h
      exact ih (j + 1) _ _ hd' hp' h
theorem okR_iff (l : List Q5) (o : List Int) : ∀ (xs : List Q5) (j : Nat), l.drop j = xs → (okR xs j o = true ↔ ∀ p x, j ≤ p → l[p]? = some x → x.o = 24 → 0 ≤ o.getD p 0) := by
  intro xs
  induction xs with
  | nil =>
    intro j hd
    have hj : l.length ≤ j := by
      rcases Nat.lt_or_ge j l.length with g | g
      · rw [List.drop_eq_getElem_cons g] at hd; cases hd
      · exact g
    simp only [okR, true_iff]
    intro p x hp hx
    rw [List.getElem?_eq_none (by omega)] at hx
    cases hx
  | cons x xs ih =>
    intro j hd
    obtain ⟨hx, hd', hj⟩ := drop_cons hd
    unfold okR
    by_cases h : x.o = 24 ∧ o.getD j 0 < 0
    · rw [if_pos h]
      simp only [Bool.false_eq_true, false_iff]
      intro hall
      have := hall j x (Nat.le_refl _) hx h.1
      omega
    · rw [if_neg h, ih (j + 1) hd']
      constructor
      · intro hall p y hp hy ho
        by_cases e : p = j
        · subst e
          rw [hx] at hy
          cases hy
          have : ¬ o.getD p 0 < 0 := fun g => h ⟨ho, g⟩
          omega
        · exact hall p y (by omega) hy ho
      · intro hall p y hp hy ho
        exact hall p y (by omega) hy ho

def doneR (l : List Q5) (j p : Nat) : Prop := (∃ x, l[p]? = some x ∧ x.o = 23 ∧ p < j) ∨ ∃ i x, i < j ∧ l[i]? = some x ∧ x.o = 23 ∧ mate l i = some p
theorem refR_good (l : List Q5) (Pf : List Int) (g0 : Pf.length = l.length) (g2 : ∀ i x, l[i]? = some x → x.o = 23 → ∃ k, mate l i = some k ∧ Pf[i]? = some (k : Int) ∧ Pf[k]? = some (i : Int)) :
    ∀ (xs : List Q5) (j : Nat) (o : List Int), l.drop j = xs → j ≤ l.length → o.length = l.length → (∀ p, p < l.length → o[p]? = Pf[p]? ∨ (o[p]? = some (-1) ∧ ¬ doneR l j p)) →
    ∃ o', refR xs j o = some o' ∧ o'.length = l.length ∧ ∀ p, p < l.length → o'[p]? = Pf[p]? ∨ (o'[p]? = some (-1) ∧ ¬ doneR l l.length p) := by
  intro xs
  induction xs with
  | nil =>
    intro j o hd hjl hlen hinv
    have hj : l.length ≤ j := by
      rcases Nat.lt_or_ge j l.length with g | g
      · rw [List.drop_eq_getElem_cons g] at hd; cases hd
      · exact g
    obtain rfl : j = l.length := by omega
    exact ⟨o, rfl, hlen, hinv⟩
  | cons x xs ih =>
    intro j o hd hjl hlen hinv
    obtain ⟨hx, hd', hj⟩ := drop_cons hd
    unfold refR
    by_cases h23 : x.o = 23
    · obtain ⟨k, hm, hk1, hk2⟩ := g2 j x hx h23
      have hmg := mate_ge hm
      have hm' := hm
      unfold mate at hm
      rw [hd'] at hm
      rw [if_pos h23, hm]
      refine ih (j + 1) _ hd' (by omega) (by simpa using hlen) ?_
      intro p hp
      by_cases e1 : p = k
      · subst e1
        left
        rw [List.getElem?_set_self (by simp; omega), hk2]
      · by_cases e2 : p = j
        · subst e2
          left
          rw [List.getElem?_set_ne (by omega), List.getElem?_set_self (by omega), hk1]
        · rw [List.getElem?_set_ne (by omega), List.getElem?_set_ne (by omega)]
          rcases hinv p hp with h | ⟨h1, h2⟩
          · exact Or.inl h
          · refine Or.inr ⟨h1, fun hd => h2 ?_⟩
            rcases hd with ⟨y, hy, ho, hl⟩ | ⟨i, y, hi, hy, ho, hmm⟩
            · exact Or.inl ⟨y, hy, ho, by omega⟩
            · by_cases e3 : i = j
              · subst e3
                rw [hm'] at hmm
                exact absurd (Option.some.inj hmm).symm e1
              · exact Or.inr ⟨i, y, by omega, hy, ho, hmm⟩
    · rw [if_neg h23]
      refine ih (j + 1) _ hd' (by omega) hlen ?_
      intro p hp
      rcases hinv p hp with h | ⟨h1, h2⟩
      · exact Or.inl h
      · refine Or.inr ⟨h1, fun hd => h2 ?_⟩
        rcases hd with ⟨y, hy, ho, hl⟩ | ⟨i, y, hi, hy, ho, hmm⟩
        · refine Or.inl ⟨y, hy, ho, ?_⟩
          by_cases e3 : p = j
          · subst e3; rw [hx] at hy; cases hy; exact absurd ho h23
          · omega
        · by_cases e3 : i = j
          · subst e3; rw [hx] at hy; cases hy; exact absurd ho h23
          · exact Or.inr ⟨i, y, by omega, hy, ho, hmm⟩

theorem refE_eq (l : List Q5) : refE l = endsS l := by
  cases hr : runE l 0 (List.replicate l.length 0, []) with
  | none =>
    have he : endsS l = none := by unfold endsS; rw [hr]
    rw [he]
    obtain ⟨p, x, _, hx, ho, _, h2⟩ := run_fails l l 0 _ _ rfl hr
    unfold refE
    cases hR : refR l 0 (List.replicate l.length (-1)) with
    | none => rfl
    | some o =>
      have hpl : p < l.length := by
        rcases Nat.lt_or_ge p l.length with g | g
        · exact g
        · rw [List.getElem?_eq_none g] at hx; cases hx
      have h1 := refR_old l p l 0 _ _ rfl (fun i y hi hy hyo => ⟨fun e => by subst e; rw [hx] at hy; cases hy; omega, h2 i y hi hy hyo⟩) hR
      have h3 : ¬ okR l 0 o = true := by
        rw [okR_iff l o l 0 rfl]
        intro hall
        have := hall p x (Nat.zero_le _) hx ho
        rw [List.getD, h1] at this
        simp [hpl] at this
      simp only
      rw [if_neg h3]
  | some s =>
    obtain ⟨Pf, Of⟩ := s
    by_cases hO : Of = []
    · subst hO
      have he : endsS l = some Pf := by unfold endsS; rw [hr]
      rw [he]
      obtain ⟨g0, _, g2, g3, g4, _⟩ := run_good l l 0 _ _ _ rfl (by simp) (by simp) (by simp) hr
      obtain ⟨o', hR, hlen, hinv⟩ := refR_good l Pf g0 (fun i x hx ho => g2 i x (Nat.zero_le _) hx ho) l 0 (List.replicate l.length (-1)) rfl (Nat.zero_le _) (by simp) (by
        intro p hp
        refine Or.inr ⟨by simp [hp], ?_⟩
        rintro (⟨_, _, _, h⟩ | ⟨_, _, h, _⟩) <;> omega)
      have eo : o' = Pf := by
        apply List.ext_getElem?
        intro p
        rcases Nat.lt_or_ge p l.length with hp | hp
        · rcases hinv p hp with h | ⟨h1, h2⟩
          · exact h
          · obtain ⟨x, hx⟩ := lookup hp
            by_cases h23 : x.o = 23
            · exact absurd (Or.inl ⟨x, hx, h23, hp⟩) h2
            · by_cases h24 : x.o = 24
              · obtain ⟨i, hi, e1, e2⟩ := g3 p x (Nat.zero_le _) hx h24
                rcases hi with hi | ⟨y, _, hy, hyo⟩
                · simp at hi
                · obtain ⟨k, hm, hk1, _⟩ := g2 i y (Nat.zero_le _) hy hyo
                  rw [e2] at hk1
                  have : p = k := by have := Option.some.inj hk1; omega
                  subst this
                  have hil : i < l.length := by
                    rcases Nat.lt_or_ge i l.length with g | g
                    · exact g
                    · rw [List.getElem?_eq_none g] at hy; cases hy
                  exact absurd (Or.inr ⟨i, y, hil, hy, hyo, hm⟩) h2
              · rw [h1, g4 p x (Nat.zero_le _) hx h23 h24]
        · rw [List.getElem?_eq_none (by omega), List.getElem?_eq_none (by omega)]
      subst eo
      unfold refE
      rw [hR]
      simp only
      rw [if_pos]
      rw [okR_iff l o' l 0 rfl]
      intro p x _ hx ho
      obtain ⟨i, _, e1, _⟩ := g3 p x (Nat.zero_le _) hx ho
      rw [List.getD, e1]
      simp
    · have he : endsS l = none := by
        unfold endsS
        rw [hr]
        cases Of with
        | nil => exact absurd rfl hO
        | cons a b => rfl
      rw [he]
      unfold refE
      rcases run_opens l l 0 _ _ _ _ rfl hr hO with ⟨h0, _⟩ | h
      · simp at h0
      · rw [refR_none l l 0 _ rfl (by obtain ⟨i, x, _, h1, h2, h3⟩ := h; exact ⟨i, x, Nat.zero_le _, h1, h2, h3⟩)]
/-- a loop's place and its end's tell of each other -/
theorem ends_back {l : List Q5} {P : List Int} (h : endsS l = some P) : P.length = l.length ∧ ∀ (i : Nat) (z : Int), P[i]? = some z → 0 ≤ z → ∃ k : Nat, z = (k : Int) ∧ k < P.length ∧ P[k]? = some (i : Int) := by
  have hr : runE l 0 (List.replicate l.length 0, []) = some (P, []) := by
    unfold endsS at h
    split at h
    · rename_i p heq
      cases h
      exact heq
    · cases h
  obtain ⟨g0, _, g2, g3, g4, _⟩ := run_good l l 0 _ _ _ rfl (by simp) (by simp) (by simp) hr
  refine ⟨g0, fun i z hz hz0 => ?_⟩
  have hil : i < l.length := by
    rcases Nat.lt_or_ge i P.length with g | g
    · omega
    · rw [List.getElem?_eq_none g] at hz; cases hz
  obtain ⟨x, hx⟩ := lookup hil
  by_cases h23 : x.o = 23
  · obtain ⟨k, hm, h1, h2⟩ := g2 i x (Nat.zero_le _) hx h23
    rw [hz] at h1
    exact ⟨k, Option.some.inj h1, by have := (mate_ge hm).2.1; omega, h2⟩
  · by_cases h24 : x.o = 24
    · obtain ⟨k, hk, h1, h2⟩ := g3 i x (Nat.zero_le _) hx h24
      rw [hz] at h1
      refine ⟨k, Option.some.inj h1, ?_, h2⟩
      rcases Nat.lt_or_ge k P.length with g | g
      · exact g
      · rw [List.getElem?_eq_none g] at h2; cases h2
    · rw [g4 i x (Nat.zero_le _) hx h23 h24] at hz
      cases hz
      omega
end Go.Proofs.Ytlieapapmkbbgaa

namespace Go.Proofs.Ytlieapapmkbbgaa
set_option linter.unusedVariables false

def dOf (l : List Q5) (k : Nat) : Int := (l[k]?.map Q5.d).getD 0
/-- a state of the search, j steps behind the beginning -/
def InvM (l : List Q5) (Pf : List Int) (j : Nat) (Pj : List Int) (O : List Nat) : Prop :=
  Pj.length = l.length ∧ (∀ b ∈ O, b < j ∧ ∃ y, l[b]? = some y ∧ y.o = 23) ∧ O.Nodup ∧ runE (l.drop j) j (Pj, O) = some (Pf, []) ∧
  ∀ k y, k < j → l[k]? = some y → y.o = 23 → k ∉ O → ∃ p : Nat, Pj[k]? = some (p : Int) ∧ p < j
theorem inv_start {l : List Q5} {P : List Int} (h : endsS l = some P) : InvM l P 0 (List.replicate l.length 0) [] := by
  refine ⟨by simp, by simp, by simp, ?_, by intro k y hk; omega⟩
  unfold endsS at h
  split at h
  · rename_i p heq
    cases h
    exact heq
  · cases h
theorem inv_23 {l : List Q5} {P Pj : List Int} {j : Nat} {O : List Nat} {x : Q5} (h : InvM l P j Pj O) (hx : l[j]? = some x) (h23 : x.o = 23) : InvM l P (j + 1) (Pj.set j (-1)) (O ++ [j]) := by
  obtain ⟨i1, i2, i3, i4, i5⟩ := h
  have hnj : j ∉ O := fun hm => by have := (i2 j hm).1; omega
  refine ⟨by simpa using i1, ?_, ?_, ?_, ?_⟩
  · intro b hb
    rcases List.mem_append.1 hb with hb | hb
    · obtain ⟨h1, h2⟩ := i2 b hb
      exact ⟨by omega, h2⟩
    · simp at hb
      subst hb
      exact ⟨by omega, x, hx, h23⟩
  · rw [List.nodup_append]
    exact ⟨i3, by simp, by intro a ha b hb e; simp at hb; subst hb; subst e; exact hnj ha⟩
  · rw [runE_step hx, stepE, if_pos h23] at i4
    exact i4
  · intro k y hk hy hyo hkO
    have hkj : k ≠ j := fun e => hkO (by simp [e])
    obtain ⟨p, hp, hpj⟩ := i5 k y (by omega) hy hyo (fun hm => hkO (List.mem_append_left _ hm))
    exact ⟨p, by rw [List.getElem?_set_ne (by omega)]; exact hp, by omega⟩
theorem inv_24 {l : List Q5} {P Pj : List Int} {j : Nat} {O : List Nat} {x : Q5} (h : InvM l P j Pj O) (hx : l[j]? = some x) (h24 : x.o = 24) : O ≠ [] ∧ ∃ Pj', InvM l P (j + 1) Pj' O.dropLast := by
  obtain ⟨i1, i2, i3, i4, i5⟩ := h
  have hjl : j < l.length := by
    rcases Nat.lt_or_ge j l.length with g | g
    · exact g
    · rw [List.getElem?_eq_none g] at hx; cases hx
  rw [runE_step hx, stepE, if_neg (by omega), if_pos h24] at i4
  rcases List.eq_nil_or_concat O with hO | ⟨O', b, hO⟩
  · subst hO; simp at i4
  · rw [List.concat_eq_append] at hO
    subst hO
    simp only [List.getLast?_append, List.getLast?_singleton, Option.some_or, List.dropLast_concat] at i4 ⊢
    refine ⟨by simp, _, by simpa using i1, ?_, ?_, i4, ?_⟩
    · intro c hc
      obtain ⟨h1, h2⟩ := i2 c (List.mem_append_left _ hc)
      exact ⟨by omega, h2⟩
    · rw [List.nodup_append] at i3; exact i3.1
    · intro k y hk hy hyo hkO
      have hkj : k ≠ j := fun e => by subst e; rw [hx] at hy; cases hy; omega
      have hbj := (i2 b (by simp)).1
      by_cases e : k = b
      · subst e
        exact ⟨j, by rw [List.getElem?_set_self (by simp; omega)], by omega⟩
      · obtain ⟨p, hp, hpj⟩ := i5 k y (by omega) hy hyo (fun hm => by rcases List.mem_append.1 hm with hm | hm; exact hkO hm; simp at hm; exact e hm)
        exact ⟨p, by rw [List.getElem?_set_ne (by omega), List.getElem?_set_ne (by omega), List.getElem?_set_ne (by omega)]; exact hp, by omega⟩
theorem inv_other {l : List Q5} {P Pj : List Int} {j : Nat} {O : List Nat} {x : Q5} (h : InvM l P j Pj O) (hx : l[j]? = some x) (h23 : x.o ≠ 23) (h24 : x.o ≠ 24) : InvM l P (j + 1) (Pj.set j (-1)) O := by
  obtain ⟨i1, i2, i3, i4, i5⟩ := h
  refine ⟨by simpa using i1, ?_, i3, ?_, ?_⟩
  · intro b hb
    obtain ⟨h1, h2⟩ := i2 b hb
    exact ⟨by omega, h2⟩
  · rw [runE_step hx, stepE, if_neg h23, if_neg h24] at i4
    exact i4
  · intro k y hk hy hyo hkO
    have hkj : k ≠ j := fun e => by subst e; rw [hx] at hy; cases hy; exact h23 hyo
    obtain ⟨p, hp, hpj⟩ := i5 k y (by omega) hy hyo hkO
    exact ⟨p, by rw [List.getElem?_set_ne (by omega)]; exact hp, by omega⟩
/-- which loops are open, by the places of their ends -/
theorem inv_open {l : List Q5} {P Pj : List Int} {j : Nat} {O : List Nat} (h : InvM l P j Pj O) (hj : j ≤ l.length) (k : Nat) (y : Q5) (hk : k < j) (hy : l[k]? = some y) (hyo : y.o = 23) :
    ∃ z : Int, P[k]? = some z ∧ (k ∈ O ↔ (j : Int) ≤ z) := by
  obtain ⟨i1, i2, i3, i4, i5⟩ := h
  obtain ⟨g0, g1, g2, g3, g4, g5⟩ := run_good l (l.drop j) j Pj P O rfl i1 (fun b hb => (i2 b hb).1) i3 i4
  by_cases hm : k ∈ O
  · obtain ⟨t, ht⟩ : ∃ t : Nat, O.reverse[t]? = some k := by
      have := List.mem_iff_getElem?.1 (List.mem_reverse.2 hm)
      exact this
    obtain ⟨q, hq, h1, _⟩ := g1 t k ht
    have := (endG_ge _ _ _ _ hq).1
    exact ⟨q, h1, by simp [hm]; omega⟩
  · obtain ⟨p, hp, hpj⟩ := i5 k y hk hy hyo hm
    rw [← g5 k hk hm] at hp
    exact ⟨p, hp, by simp [hm]; omega⟩
theorem inv_self {l : List Q5} {P Pj : List Int} {j : Nat} {O : List Nat} {x : Q5} (h : InvM l P j Pj O) (hx : l[j]? = some x) (h23 : x.o = 23) : ∃ z : Int, P[j]? = some z ∧ (j : Int) ≤ z := by
  obtain ⟨i1, i2, i3, i4, i5⟩ := h
  obtain ⟨g0, g1, g2, g3, g4, g5⟩ := run_good l (l.drop j) j Pj P O rfl i1 (fun b hb => (i2 b hb).1) i3 i4
  obtain ⟨k, hm, h1, _⟩ := g2 j x (Nat.le_refl _) hx h23
  have := (mate_ge hm).1
  exact ⟨k, h1, by omega⟩
theorem filt_succ (O : List Nat) (k : Nat) (h : O.Nodup) : (O.filter fun b => decide (b < k + 1)).length = (O.filter fun b => decide (b < k)).length + if k ∈ O then 1 else 0 := by
  induction O with
  | nil => simp
  | cons a O ih =>
    rw [List.nodup_cons] at h
    have := ih h.2
    by_cases e : a = k
    · subst e
      simp only [List.filter_cons, Nat.lt_succ_self, decide_true, if_true, Nat.lt_irrefl, decide_false, List.length_cons, List.mem_cons, true_or]
      rw [this]
      simp [h.1]
    · have e1 : decide (a < k + 1) = decide (a < k) := by rw [decide_eq_decide]; omega
      have e2 : (k ∈ a :: O) ↔ k ∈ O := by simp; intro h; exact absurd h.symm e
      simp only [List.filter_cons, e1]
      by_cases hm : k ∈ O
      · rw [if_pos (e2.2 hm)]
        rw [if_pos hm] at this
        split <;> first | (simp only [List.length_cons]; omega) | omega
      · rw [if_neg (fun g => hm (e2.1 g))]
        rw [if_neg hm] at this
        split <;> first | (simp only [List.length_cons]; omega) | omega
theorem filt_all {O : List Nat} {j : Nat} (h : ∀ b ∈ O, b < j) : (O.filter fun b => decide (b < j)).length = O.length := by
  rw [List.filter_eq_self.2 (by simpa using h)]
end Go.Proofs.Ytlieapapmkbbgaa

namespace Go.Proofs.Ytlieapapmkbbgaa

/-- the byte that was written last at an address, or 0 -/
def atL (l : List (Nat × Nat)) (a : Nat) : Nat := l.foldl (fun v x => if x.1 = a then x.2 else v) 0
theorem atL_nil (a : Nat) : atL [] a = 0 := rfl
theorem atL_snoc (l : List (Nat × Nat)) (x : Nat × Nat) (a : Nat) : atL (l ++ [x]) a = if x.1 = a then x.2 else atL l a := by
  simp [atL, List.foldl_append]
/-- bytes that are written from an address on -/
def writes (a : Nat) : List Nat → List (Nat × Nat)
  | [] => []
  | b :: t => (a, b) :: writes (a + 1) t
theorem writes_length (a : Nat) (bs : List Nat) : (writes a bs).length = bs.length := by
  induction bs generalizing a with
  | nil => rfl
  | cons b t ih => simp [writes, ih]
theorem writes_snoc (a : Nat) (bs : List Nat) (b : Nat) : writes a (bs ++ [b]) = writes a bs ++ [(a + bs.length, b)] := by
  induction bs generalizing a with
  | nil => simp [writes]
  | cons c t ih => simp only [List.cons_append, writes, ih, List.length_cons]; rw [show a + 1 + t.length = a + (t.length + 1) by omega]
theorem atL_writes (l : List (Nat × Nat)) (a : Nat) (bs : List Nat) (x : Nat) :
    atL (l ++ writes a bs) x = if a ≤ x ∧ x < a + bs.length then bs.getD (x - a) 0 else atL l x := by
  induction bs generalizing a l with
  | nil => simp [writes]; intro h1 h2; omega
  | cons b t ih =>
    have e : l ++ writes a (b :: t) = (l ++ [(a, b)]) ++ writes (a + 1) t := by simp [writes]
    rw [e, ih, atL_snoc]
    by_cases h : a = x
    · subst h
      rw [if_neg (by omega), if_pos rfl, if_pos (by simp only [List.length_cons]; omega), Nat.sub_self]
      rfl
    · by_cases h1 : a + 1 ≤ x ∧ x < a + 1 + t.length
      · rw [if_pos h1, if_pos (by simp only [List.length_cons]; omega), show x - a = (x - (a + 1)) + 1 by omega]
        rfl
      · rw [if_neg h1, if_neg h, if_neg (by simp only [List.length_cons]; omega)]
/-- some bytes of a row are other ones -/
def setB (l : List Nat) (o : Nat) (bs : List Nat) : List Nat := l.take o ++ bs ++ l.drop (o + bs.length)
theorem setB_length (l : List Nat) (o : Nat) (bs : List Nat) (h : o + bs.length ≤ l.length) : (setB l o bs).length = l.length := by
  simp [setB]; omega
theorem setB_getD (l : List Nat) (o : Nat) (bs : List Nat) (h : o + bs.length ≤ l.length) (i : Nat) :
    (setB l o bs).getD i 0 = if o ≤ i ∧ i < o + bs.length then bs.getD (i - o) 0 else l.getD i 0 := by
  have hl : (l.take o).length = o := by simp; omega
  simp only [setB, List.getD_eq_getElem?_getD]
  by_cases h1 : i < o
  · rw [if_neg (by omega), List.append_assoc, List.getElem?_append_left (by omega), List.getElem?_take, if_pos h1]
  · by_cases h2 : i < o + bs.length
    · rw [if_pos (by omega), List.append_assoc, List.getElem?_append_right (by omega), hl, List.getElem?_append_left (by omega)]
    · rw [if_neg (by omega), List.getElem?_append_right (by simp; omega)]
      simp only [List.length_append, hl, List.getElem?_drop]
      rw [show o + bs.length + (i - (o + bs.length)) = i by omega]
theorem setB_all {l : List Nat} {o : Nat} {bs : List Nat} (h : ∀ x ∈ l, x < 256) (k : ∀ x ∈ bs, x < 256) : ∀ x ∈ setB l o bs, x < 256 := by
  intro x hx
  simp only [setB, List.mem_append] at hx
  rcases hx with (hx | hx) | hx
  · exact h x (List.mem_of_mem_take hx)
  · exact k x hx
  · exact h x (List.mem_of_mem_drop hx)

/-- two banks, and what was written of them -/
def Agree (f r : Nat) (Fb Rb : List Nat) (L : List (Nat × Nat)) : Prop :=
  (∀ i, i < Fb.length → atL L (f + i) = Fb.getD i 0) ∧ (∀ i, i < Rb.length → atL L (r + i) = Rb.getD i 0)
theorem agree_ram {f r : Nat} {Fb Rb : List Nat} {L : List (Nat × Nat)} (h : Agree f r Fb Rb L) (hd : f + Fb.length ≤ r ∨ r + Rb.length ≤ f) (o : Nat) (bs : List Nat) (ho : o + bs.length ≤ Rb.length) :
    Agree f r Fb (setB Rb o bs) (L ++ writes (r + o) bs) := by
  constructor
  · intro i hi
    rw [atL_writes, if_neg (by omega)]
    exact h.1 i hi
  · intro i hi
    rw [setB_length _ _ _ ho] at hi
    rw [atL_writes, setB_getD _ _ _ ho]
    by_cases hb : o ≤ i ∧ i < o + bs.length
    · rw [if_pos (by omega), if_pos hb, show r + i - (r + o) = i - o by omega]
    · rw [if_neg (by omega), if_neg hb]
      exact h.2 i hi
theorem agree_flash {f r : Nat} {Fb Rb : List Nat} {L : List (Nat × Nat)} (h : Agree f r Fb Rb L) (hd : f + Fb.length ≤ r ∨ r + Rb.length ≤ f) (o : Nat) (bs : List Nat) (ho : o + bs.length ≤ Fb.length) :
    Agree f r (setB Fb o bs) Rb (L ++ writes (f + o) bs) := by
  constructor
  · intro i hi
    rw [setB_length _ _ _ ho] at hi
    rw [atL_writes, setB_getD _ _ _ ho]
    by_cases hb : o ≤ i ∧ i < o + bs.length
    · rw [if_pos (by omega), if_pos hb, show f + i - (f + o) = i - o by omega]
    · rw [if_neg (by omega), if_neg hb]
      exact h.1 i hi
  · intro i hi
    rw [atL_writes, if_neg (by omega)]
    exact h.2 i hi
/-- bytes as a number -/
def numB : List Nat → Nat
  | [] => 0
  | b :: t => b + 256 * numB t
/-- so many bytes as a number, as they were written -/
def wordL (L : List (Nat × Nat)) (a : Nat) : Nat → Nat
  | 0 => 0
  | n + 1 => atL L a + 256 * wordL L (a + 1) n
/-- the lowest bytes of a number -/
def lowB : Nat → Nat → List Nat
  | 0, _ => []
  | n + 1, w => w % 256 :: lowB n (w / 256)
theorem lowB_length (n w : Nat) : (lowB n w).length = n := by
  induction n generalizing w with
  | zero => rfl
  | succ n ih => simp [lowB, ih]
theorem lowB_lt (n w : Nat) : ∀ x ∈ lowB n w, x < 256 := by
  induction n generalizing w with
  | zero => intro x hx; simp [lowB] at hx
  | succ n ih =>
    intro x hx
    simp only [lowB, List.mem_cons] at hx
    rcases hx with rfl | hx
    · omega
    · exact ih _ _ hx
theorem word_of {l : List Nat} {L : List (Nat × Nat)} {a o : Nat} (n : Nat) (h : ∀ i, i < l.length → atL L (a + i) = l.getD i 0) (ho : o + n ≤ l.length) :
    wordL L (a + o) n = numB ((l.drop o).take n) := by
  induction n generalizing o with
  | zero => simp [wordL, numB]
  | succ n ih =>
    have hlt : o < l.length := by omega
    rw [List.drop_eq_getElem_cons hlt, List.take_succ_cons]
    simp only [wordL, numB]
    rw [h o hlt, show a + o + 1 = a + (o + 1) by omega, ih (by omega)]
    simp [List.getD, List.getElem?_eq_getElem hlt]
end Go.Proofs.Ytlieapapmkbbgaa

namespace Go.Proofs.Ytlieapapmkbbgaa
open Go Go.RowKit
set_option linter.unusedVariables false

/-- the same memory, whatever was drawn -/
def LikeG (W w' : World) : Prop := w'.heap = W.heap ∧ ∀ (B : Nat) (w : World), Below B w W → Below B w w'
theorem LikeG.refl (W : World) : LikeG W W := ⟨rfl, fun _ _ h => h⟩
theorem LikeG.drewN (W : World) (n : Nat) : LikeG W (W.drewN n) := ⟨rfl, fun B w h => h.trans ⟨rfl, rfl, rfl, Nat.le_refl _, fun _ _ => rfl⟩⟩
theorem LikeG.trans {a b c : World} (h : LikeG a b) (k : LikeG b c) : LikeG a c := ⟨k.1.trans h.1, fun B w hb => k.2 B w (h.2 B w hb)⟩
theorem LikeG.cell {a b : World} (h : LikeG a b) (p : Addr) : b.cell? p = a.cell? p := by unfold World.cell?; rw [h.1]
theorem LikeG.row {a b : World} (h : LikeG a b) {x base size n : Nat} {t : TypeId} {v : Value} {xs : List Value} (k : a.ownsRow base t size v n xs) : b.ownsRow base t size v n xs := by
  unfold World.ownsRow at *; rw [h.1]; exact k

theorem mpart_yes (B n base a k : Nat) (w : World) (h0 : 0 < k) (h1 : base ≤ a) (h2 : k ≤ n) (h3 : a - base ≤ n - k) (ha : a < 4294967296) (hn : n ≤ 1048576) :
    Calls Try.prog 44 #[.slice (some ⟨B, 0, none⟩) n n, .int .u32 (base : Int), .int .u32 (a : Int), .int .i64 (k : Int)] w fun e w' => e = .returned (.tuple #[.slice (some ⟨B, a - base, none⟩) k (n - (a - base)), .bool true]) ∧ w = w' := by
  obtain ⟨q, rfl⟩ : ∃ q, a = base + q := ⟨a - base, by omega⟩
  rw [Nat.add_sub_cancel_left] at h3 ⊢
  have t1 : decide ((base + q : Nat) < base) = false := by simp
  have t2 : decide (n < k) = false := by simp; omega
  have hq : q < n := by omega
  have hq2 : n ≠ q := by omega
  go_enter Try.func44, Try.ntmps44
  go_wp2
  go_ret2
  refine ⟨?_, rfl⟩
  show Ending.returned (.tuple #[.slice (some ⟨B, base + q - base, none⟩) (base + q - base + k - (base + q - base)) (n - (base + q - base)), .bool true]) = _
  rw [show base + q - base = q by omega, show q + k - q = k by omega]
theorem mpart_less (B n base a k : Nat) (w : World) (h1 : a < base) (ha : base < 4294967296) :
    Calls Try.prog 44 #[.slice (some ⟨B, 0, none⟩) n n, .int .u32 (base : Int), .int .u32 (a : Int), .int .i64 (k : Int)] w fun e w' => e = .returned (.tuple #[.slice none 0 0, .bool false]) ∧ w = w' := by
  have t1 : decide (a < base) = true := by simp; omega
  go_enter Try.func44, Try.ntmps44
  go_wp2
  all_goals go_ret2
  all_goals exact ⟨rfl, rfl⟩
theorem mpart_big (B n base a k : Nat) (w : World) (h1 : base ≤ a) (h2 : n < k) (ha : a < 4294967296) (hk : k < 9223372036854775808) :
    Calls Try.prog 44 #[.slice (some ⟨B, 0, none⟩) n n, .int .u32 (base : Int), .int .u32 (a : Int), .int .i64 (k : Int)] w fun e w' => e = .returned (.tuple #[.slice none 0 0, .bool false]) ∧ w = w' := by
  have t1 : decide (a < base) = false := by simp; omega
  have t2 : decide (n < k) = true := by simp; omega
  go_enter Try.func44, Try.ntmps44
  go_wp2
  all_goals go_ret2
  all_goals exact ⟨rfl, rfl⟩
theorem mpart_more (B n base a k : Nat) (w : World) (h1 : base ≤ a) (h2 : k ≤ n) (h3 : n - k < a - base) (ha : a < 4294967296) (hn : n ≤ 1048576) :
    Calls Try.prog 44 #[.slice (some ⟨B, 0, none⟩) n n, .int .u32 (base : Int), .int .u32 (a : Int), .int .i64 (k : Int)] w fun e w' => e = .returned (.tuple #[.slice none 0 0, .bool false]) ∧ w = w' := by
  obtain ⟨q, rfl⟩ : ∃ q, a = base + q := ⟨a - base, by omega⟩
  rw [Nat.add_sub_cancel_left] at h3
  have t1 : decide ((base + q : Nat) < base) = false := by simp
  have t2 : decide (n < k) = false := by simp; omega
  go_enter Try.func44, Try.ntmps44
  go_wp2
  all_goals go_ret2
  all_goals exact ⟨rfl, rfl⟩

/-- what a part of a bank is -/
def inB (base n a k : Nat) : Bool := decide (base ≤ a ∧ a + k ≤ base + n)
def PartG (B n base a k : Nat) (sl : Value) (b : Bool) : Prop := ∀ W, Calls Try.prog 44 #[.slice (some ⟨B, 0, none⟩) n n, .int .u32 (base : Int), .int .u32 (a : Int), .int .i64 (k : Int)] W fun e w' => e = .returned (.tuple #[sl, .bool b]) ∧ W = w'
theorem partG_in {B n base a k : Nat} (h0 : 0 < k) (h : inB base n a k = true) (ha : a < 4294967296) (hn : n ≤ 1048576) : PartG B n base a k (.slice (some ⟨B, a - base, none⟩) k (n - (a - base))) true := fun W => by
  have := of_decide_eq_true h
  exact mpart_yes B n base a k W h0 (by omega) (by omega) (by omega) ha hn
theorem partG_out {B n base a k : Nat} (h0 : 0 < k) (h : inB base n a k = false) (ha : a < 4294967296) (hb : base < 4294967296) (hn : n ≤ 1048576) (hk : k < 9223372036854775808) : PartG B n base a k (.slice none 0 0) false := fun W => by
  have := of_decide_eq_false h
  by_cases h1 : a < base
  · exact mpart_less B n base a k W h1 hb
  · by_cases h2 : n < k
    · exact mpart_big B n base a k W (by omega) h2 ha hk
    · exact mpart_more B n base a k W (by omega) (by omega) (by omega) ha hn
theorem partG_q {args : Array Value} {v : Value} {w : World} {m : Nat} (h : ∀ W, Calls Try.prog 44 args W fun e w' => e = .returned v ∧ W = w') :
    Calls Try.prog 44 args (w.drewN m) fun e w' => e = .returned v ∧ ∃ j, w' = w.drewN j :=
  (h _).mono fun e w' ⟨he, hm⟩ => ⟨he, m, hm.symm⟩

def u8G (x : Nat) : Value := .int .u8 (x : Int)
def rowG (l : List Nat) : Array Value := (l.map u8G).toArray
/-- a memory of the program: two banks of bytes -/
structure MemIs (M F R f r : Nat) (Fb Rb : List Nat) (W : World) : Prop where
  c0 : W.cell? ⟨M, 0, none⟩ = some (.int .u32 (f : Nat))
  c2 : W.cell? ⟨M, 2, none⟩ = some (.int .u32 (r : Nat))
  c4 : W.cell? ⟨M, 4, none⟩ = some (.slice (some ⟨F, 0, none⟩) Fb.length Fb.length)
  c5 : W.cell? ⟨M, 5, none⟩ = some (.slice (some ⟨R, 0, none⟩) Rb.length Rb.length)
  hF : W.heap[F]? = some (.cells (rowG Fb) 5 (0, 0))
  hR : W.heap[R]? = some (.cells (rowG Rb) 5 (0, 0))
  fF : ∀ x ∈ Fb, x < 256
  fR : ∀ x ∈ Rb, x < 256
  mF : M ≠ F
  mR : M ≠ R
  fr : F ≠ R
/-- where the banks lie -/
structure Banks (f n1 r n2 : Nat) : Prop where
  a : f + n1 ≤ 4294967296
  b : r + n2 ≤ 4294967296
  c : 4 ≤ n1 ∧ n1 ≤ 1048576
  d : 4 ≤ n2 ∧ n2 ≤ 1048576
  e : f + n1 ≤ r ∨ r + n2 ≤ f
theorem MemIs.like {M F R f r : Nat} {Fb Rb : List Nat} {W W' : World} (h : MemIs M F R f r Fb Rb W) (hl : LikeG W W') : MemIs M F R f r Fb Rb W' :=
  { c0 := (hl.cell _).trans h.c0, c2 := (hl.cell _).trans h.c2, c4 := (hl.cell _).trans h.c4, c5 := (hl.cell _).trans h.c5
    hF := by rw [hl.1]; exact h.hF, hR := by rw [hl.1]; exact h.hR, fF := h.fF, fR := h.fR, mF := h.mF, mR := h.mR, fr := h.fr }

/-- where so many bytes lie -/
def wSl (F R f n1 r n2 a k : Nat) : Value := if inB f n1 a k then .slice (some ⟨F, a - f, none⟩) k (n1 - (a - f)) else if inB r n2 a k then .slice (some ⟨R, a - r, none⟩) k (n2 - (a - r)) else .slice none 0 0
def wIn (f n1 r n2 a k : Nat) : Bool := inB f n1 a k || inB r n2 a k
set_option maxRecDepth 100000 in
set_option maxHeartbeats 1000000 in
theorem within_fst (M F R f r n1 n2 a k : Nat) (W : World) (h0 : W.cell? ⟨M, 0, none⟩ = some (.int .u32 (f : Nat))) (h4 : W.cell? ⟨M, 4, none⟩ = some (.slice (some ⟨F, 0, none⟩) n1 n1)) (sl : Value) (h : PartG F n1 f a k sl true) :
    Calls Try.prog 31 #[.pointer (some ⟨M, 0, none⟩), .int .u32 (a : Nat), .int .i64 (k : Nat)] W fun e w' => e = .returned (.tuple #[sl, .bool true]) ∧ LikeG W w' := by
  go_enter Try.func31, Try.ntmps31
  go_wp2
  go_quiet ((go_at_call 44; exact partG_q h))
  rename_i nq
  go_wp2
  go_ret2
  exact ⟨rfl, .drewN _ _⟩
set_option maxRecDepth 100000 in
set_option maxHeartbeats 1000000 in
theorem within_snd (M F R f r n1 n2 a k : Nat) (W : World) (h0 : W.cell? ⟨M, 0, none⟩ = some (.int .u32 (f : Nat))) (h2 : W.cell? ⟨M, 2, none⟩ = some (.int .u32 (r : Nat))) (h4 : W.cell? ⟨M, 4, none⟩ = some (.slice (some ⟨F, 0, none⟩) n1 n1)) (h5 : W.cell? ⟨M, 5, none⟩ = some (.slice (some ⟨R, 0, none⟩) n2 n2))
    (h : PartG F n1 f a k (.slice none 0 0) false) (sl : Value) (b : Bool) (hk : PartG R n2 r a k sl b) :
    Calls Try.prog 31 #[.pointer (some ⟨M, 0, none⟩), .int .u32 (a : Nat), .int .i64 (k : Nat)] W fun e w' => e = .returned (.tuple #[sl, .bool b]) ∧ LikeG W w' := by
  go_enter Try.func31, Try.ntmps31
  go_wp2
  go_quiet ((go_at_call 44; exact partG_q h))
  rename_i nq
  have HL := LikeG.drewN W nq
  have h2' := (HL.cell _).trans h2
  have h5' := (HL.cell _).trans h5
  clear h0 h2 h4 h5 h
  generalize W.drewN nq = W1 at HL h2' h5'
  go_wp2
  go_quiet ((go_at_call 44; exact partG_q hk))
  rename_i nq2
  go_wp2
  go_ret2
  exact ⟨rfl, HL.trans (.drewN _ _)⟩
theorem within_any {M F R f r : Nat} {Fb Rb : List Nat} {W : World} (h : MemIs M F R f r Fb Rb W) (hb : Banks f Fb.length r Rb.length) (a k : Nat) (ha : a < 4294967296) (hk : 0 < k) (hk2 : k < 9223372036854775808) :
    Calls Try.prog 31 #[.pointer (some ⟨M, 0, none⟩), .int .u32 (a : Nat), .int .i64 (k : Nat)] W fun e w' => e = .returned (.tuple #[wSl F R f Fb.length r Rb.length a k, .bool (wIn f Fb.length r Rb.length a k)]) ∧ LikeG W w' := by
  have := hb.a; have := hb.b; have := hb.c; have := hb.d
  unfold wSl wIn
  by_cases h1 : inB f Fb.length a k = true
  · rw [if_pos h1, h1]
    exact within_fst M F R f r Fb.length Rb.length a k W h.c0 h.c4 _ (partG_in hk h1 ha (by omega))
  · rw [if_neg h1]
    have h1' := Bool.eq_false_iff.2 h1
    rw [h1']
    by_cases h2 : inB r Rb.length a k = true
    · rw [if_pos h2, h2]
      exact within_snd M F R f r Fb.length Rb.length a k W h.c0 h.c2 h.c4 h.c5 (partG_out hk h1' ha (by omega) (by omega) hk2) _ _ (partG_in hk h2 ha (by omega))
    · rw [if_neg h2]
      have h2' := Bool.eq_false_iff.2 h2
      rw [h2']
      exact within_snd M F R f r Fb.length Rb.length a k W h.c0 h.c2 h.c4 h.c5 (partG_out hk h1' ha (by omega) (by omega) hk2) _ _ (partG_out hk h2' ha (by omega) (by omega) hk2)
end Go.Proofs.Ytlieapapmkbbgaa
