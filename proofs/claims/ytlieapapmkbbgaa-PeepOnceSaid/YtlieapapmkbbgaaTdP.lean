/- Tidying loop programs: the mathematics, with no program in sight. -/
import Derived.Test.YtlieapapmkbbgaaCntP
namespace Go.Proofs.Ytlieapapmkbbgaa
set_option linter.unusedVariables false

def idleP (x : Q5) : Bool := canS x && decide (x.d = x.a) && decide (x.i = 0) && decide (x.o = 2 ∨ (13 ≤ x.o ∧ x.o ≤ 16))
def wr32 (n : Int) : Int := (n + 2147483648) % 4294967296 - 2147483648
def joinP (y x : Q5) : Option Q5 :=
  if y.d ≠ x.d then none
  else if y.o = 1 ∧ x.o = 1 then some x
  else if (y.o = 13 ∧ y.a = y.d ∧ x.o = 13 ∧ x.a = x.d) ∨ (y.o = 1 ∧ x.o = 13 ∧ x.a = x.d) then some ⟨y.o, y.d, y.a, y.b, wr32 (y.i + x.i)⟩
  else none
/-- a step behind the others, the last one first -/
def putR : List Q5 → Q5 → List Q5
  | [], x => if idleP x then [] else [x]
  | y :: r, x => match joinP y x with
    | some z => putR r z
    | none => if idleP x then y :: r else x :: y :: r
def iOf (l : List Q5) (k : Nat) : Int := (l[k]?.map Q5.i).getD 0
def convS (l : List Q5) (P : List Int) (k : Nat) (x : Q5) : Q5 :=
  if x.o = 23 ∧ x.i = 1 then ⟨1, x.d, x.a, x.b, x.i⟩
  else if x.o = 24 ∧ iOf l (P.getD k 0).toNat = 1 then ⟨1, dOf l (P.getD k 0).toNat, 0, 0, 0⟩
  else x
def tidyR (l : List Q5) (P : List Int) : List Q5 → Nat → List Q5 → List Q5
  | [], _, r => r
  | x :: xs, k, r => tidyR l P xs (k + 1) (putR r (convS l P k x))
def tidyS (l : List Q5) (P : List Int) : List Q5 := (tidyR l P l 0 []).reverse

/-- the counters of open loops, and no step that may not be -/
def stepX (x : Q5) (cs : List Int) : Option (List Int) :=
  if x.o = 24 then (if cs = [] then none else some cs.dropLast)
  else if writesS x ≠ -1 ∧ writesS x ∈ cs then none
  else if x.o = 23 then (if cs.length = 10 then none else some (cs ++ [x.d]))
  else some cs
def scanX : List Q5 → List Int → Option (List Int)
  | [], cs => some cs
  | x :: l, cs => match stepX x cs with
    | none => none
    | some cs' => scanX l cs'
theorem scan_app (l m : List Q5) (cs : List Int) : scanX (l ++ m) cs = match scanX l cs with
    | none => none
    | some ds => scanX m ds := by
  induction l generalizing cs with
  | nil => rfl
  | cons x l ih =>
    simp only [List.cons_append, scanX]
    cases stepX x cs with
    | none => rfl
    | some ds => exact ih ds
theorem scan_snoc (l : List Q5) (x : Q5) (cs : List Int) : scanX (l ++ [x]) cs = match scanX l cs with
    | none => none
    | some ds => stepX x ds := by
  rw [scan_app]
  cases scanX l cs with
  | none => rfl
  | some ds =>
    simp only [scanX]
    cases stepX x ds <;> rfl
theorem scan_run : ∀ (xs : List Q5) (i : Nat) (P : List Int) (O : List Nat) (cs ds : List Int), O.length = cs.length → scanX xs cs = some ds → runC xs cs = some ds ∧ ∃ P' O', runE xs i (P, O) = some (P', O') ∧ O'.length = ds.length
  | [], i, P, O, cs, ds, hO, h => by
    simp only [scanX, Option.some.injEq] at h
    subst h
    exact ⟨rfl, P, O, rfl, hO⟩
  | x :: xs, i, P, O, cs, ds, hO, h => by
    simp only [scanX] at h
    cases hs : stepX x cs with
    | none => rw [hs] at h; cases h
    | some es =>
      rw [hs] at h
      simp only at h
      unfold stepX at hs
      by_cases h24 : x.o = 24
      · rw [if_pos h24] at hs
        by_cases hc : cs = []
        · rw [if_pos hc] at hs; cases hs
        · rw [if_neg hc] at hs
          obtain rfl := Option.some.inj hs
          have hne : O ≠ [] := by
            rintro rfl
            exact hc (List.eq_nil_of_length_eq_zero hO.symm)
          obtain ⟨b, hb⟩ : ∃ b, O.getLast? = some b := by
            cases hg : O.getLast? with
            | none => rw [List.getLast?_eq_none_iff] at hg; exact absurd hg hne
            | some b => exact ⟨b, rfl⟩
          obtain ⟨h1, P', O', h2, h3⟩ := scan_run xs (i + 1) (((P.set i (-1)).set i b).set b i) O.dropLast cs.dropLast ds (by rw [List.length_dropLast, List.length_dropLast, hO]) h
          refine ⟨by simp only [runC, stepC, if_pos h24]; exact h1, P', O', ?_, h3⟩
          simp only [runE, stepE]
          rw [if_neg (by omega), if_pos h24, hb]
          exact h2
      · rw [if_neg h24] at hs
        by_cases hw : writesS x ≠ -1 ∧ writesS x ∈ cs
        · rw [if_pos hw] at hs; cases hs
        · rw [if_neg hw] at hs
          by_cases h23 : x.o = 23
          · rw [if_pos h23] at hs
            by_cases hl : cs.length = 10
            · rw [if_pos hl] at hs; cases hs
            · rw [if_neg hl] at hs
              obtain rfl := Option.some.inj hs
              obtain ⟨h1, P', O', h2, h3⟩ := scan_run xs (i + 1) (P.set i (-1)) (O ++ [i]) (cs ++ [x.d]) ds (by simp [hO]) h
              refine ⟨by simp only [runC, stepC]; rw [if_neg h24, if_neg hw, if_pos h23, if_neg hl]; exact h1, P', O', ?_, h3⟩
              simp only [runE, stepE]
              rw [if_pos h23]
              exact h2
          · rw [if_neg h23] at hs
            obtain rfl := Option.some.inj hs
            obtain ⟨h1, P', O', h2, h3⟩ := scan_run xs (i + 1) (P.set i (-1)) O cs ds hO h
            refine ⟨by simp only [runC, stepC]; rw [if_neg h24, if_neg hw, if_neg h23]; exact h1, P', O', ?_, h3⟩
            simp only [runE, stepE]
            rw [if_neg h23, if_neg h24]
            exact h2
theorem scan_check {l : List Q5} (hl : l.length ≤ 20000) (hc : ∀ x ∈ l, canS x = true) (h : scanX l [] = some []) : checkS l = 0 := by
  obtain ⟨h1, P', O', h2, h3⟩ := scan_run l 0 (List.replicate l.length 0) [] [] [] rfl h
  have hO : O' = [] := List.eq_nil_of_length_eq_zero h3
  subst hO
  have he : endsS l = some P' := by unfold endsS; rw [h2]
  unfold checkS
  rw [if_neg (by omega), if_neg (by simpa using hc), he]
  simp [countedS, h1]

/-- nothing more can be done -/
def okX (x : Q5) : Prop := idleP x = false ∧ ¬ (x.o = 23 ∧ x.i = 1)
def Irr : List Q5 → Prop
  | [] => True
  | x :: r => okX x ∧ Irr r ∧ ∀ y, r.head? = some y → joinP y x = none
theorem wr32_bd (n : Int) : -2147483648 ≤ wr32 n ∧ wr32 n ≤ 2147483647 := by unfold wr32; omega
theorem join_some {y x z : Q5} (h : joinP y x = some z) (hy : canS y = true) (hx : canS x = true) : (y.o = 1 ∨ y.o = 13) ∧ (z.o = 1 ∨ z.o = 13) ∧ y.d = x.d ∧ z.d = x.d ∧ canS z = true ∧ (x.o = 1 ∨ x.o = 13) := by
  unfold joinP at h
  by_cases hd : y.d ≠ x.d
  · rw [if_pos hd] at h; cases h
  · rw [if_neg hd] at h
    have hd' : y.d = x.d := by omega
    by_cases h1 : y.o = 1 ∧ x.o = 1
    · rw [if_pos h1] at h
      obtain rfl := Option.some.inj h
      exact ⟨Or.inl h1.1, Or.inl h1.2, hd', rfl, hx, Or.inl h1.2⟩
    · rw [if_neg h1] at h
      split at h
      · rename_i h2
        obtain rfl := Option.some.inj h
        have hyo : y.o = 1 ∨ y.o = 13 := by rcases h2 with g | g <;> omega
        refine ⟨hyo, hyo, hd', hd', ?_, by rcases h2 with g | g <;> omega⟩
        have hw := wr32_bd (y.i + x.i)
        unfold canS at hy ⊢
        simp only [Bool.and_eq_true, decide_eq_true_eq] at hy ⊢
        refine ⟨⟨hy.1.1, ?_⟩, ?_⟩
        · rcases hyo with e | e <;> rw [e] <;> simpa [leastS] using hw.1
        · rcases hyo with e | e <;> rw [e] <;> simpa [mostS] using hw.2
      · cases h
theorem writes_same {x : Q5} (hc : canS x = true) (ho : x.o = 1 ∨ x.o = 13) : writesS x = x.d := by
  unfold writesS
  have : hasD x.o = true := by unfold hasD; rcases ho with e | e <;> rw [e] <;> decide
  rw [hc, this]; rfl
theorem step_plain {x : Q5} {cs : List Int} (h3 : x.o ≠ 23) (h4 : x.o ≠ 24) (hw : ¬ (writesS x ≠ -1 ∧ writesS x ∈ cs)) : stepX x cs = some cs := by
  unfold stepX
  rw [if_neg h4, if_neg hw, if_neg h3]
theorem step_plain_inv {x : Q5} {cs ds : List Int} (h3 : x.o ≠ 23) (h4 : x.o ≠ 24) (h : stepX x cs = some ds) : ds = cs := by
  unfold stepX at h
  rw [if_neg h4, if_neg h3] at h
  split at h
  · cases h
  · exact (Option.some.inj h).symm
/-- what is put keeps the counters, and nothing more can be done -/
theorem put_keeps : ∀ (r : List Q5) (x : Q5) (cs : List Int), (∀ y ∈ r, canS y = true) → canS x = true → x.o ≠ 23 → x.o ≠ 24 → ¬ (writesS x ≠ -1 ∧ writesS x ∈ cs) → Irr r → scanX r.reverse [] = some cs →
    (∀ y ∈ putR r x, canS y = true) ∧ Irr (putR r x) ∧ scanX (putR r x).reverse [] = some cs ∧ (putR r x).length ≤ r.length + 1
  | [], x, cs, hr, hx, h3, h4, hw, hi, hs => by
    unfold putR
    by_cases hq : idleP x = true
    · rw [if_pos hq]; exact ⟨hr, hi, hs, by simp⟩
    · rw [if_neg hq]
      refine ⟨by simpa using hx, ⟨⟨by simpa using hq, fun g => h3 g.1⟩, trivial, by simp⟩, ?_, by simp⟩
      have : cs = [] := by simpa [scanX] using hs.symm
      subst this
      simp only [List.reverse_singleton, scanX]
      rw [step_plain h3 h4 hw]
  | y :: r, x, cs, hr, hx, h3, h4, hw, hi, hs => by
    have hcy := hr y (by simp)
    unfold putR
    cases hj : joinP y x with
    | none =>
      by_cases hq : idleP x = true
      · simp only [if_pos hq]; exact ⟨hr, hi, hs, by simp⟩
      · simp only [if_neg hq]
        refine ⟨?_, ⟨⟨by simpa using hq, fun g => h3 g.1⟩, hi, ?_⟩, ?_, by simp⟩
        · intro z hz
          rcases List.mem_cons.1 hz with rfl | hz
          · exact hx
          · exact hr z hz
        · intro z hz
          simp at hz
          subst hz
          exact hj
        · rw [List.reverse_cons, scan_snoc, hs]
          exact step_plain h3 h4 hw
    | some z =>
      simp only
      obtain ⟨j1, j2, j3, j4, j5, j6⟩ := join_some hj hcy hx
      have hs' : scanX r.reverse [] = some cs := by
        rw [List.reverse_cons, scan_snoc] at hs
        cases hq : scanX r.reverse [] with
        | none => rw [hq] at hs; cases hs
        | some ds =>
          rw [hq] at hs
          rw [step_plain_inv (by omega) (by omega) hs]
      have hwz : ¬ (writesS z ≠ -1 ∧ writesS z ∈ cs) := by
        rw [writes_same j5 j2, j4, ← writes_same hx j6]
        exact hw
      obtain ⟨g1, g2, g3, g4⟩ := put_keeps r z cs (fun y hy => hr y (List.mem_cons_of_mem _ hy)) j5 (by omega) (by omega) hwz hi.2.1 hs'
      exact ⟨g1, g2, g3, by simp; omega⟩
/-- a step that can't go together with the one ahead, and isn't idle, goes behind it -/
theorem put_stays {r : List Q5} {x : Q5} (h : Irr (x :: r)) : putR r x = x :: r := by
  obtain ⟨⟨h1, _⟩, h2, h3⟩ := h
  cases r with
  | nil => unfold putR; rw [h1]; rfl
  | cons y r => unfold putR; rw [h3 y rfl]; simp [h1]
theorem irr_tail {x : Q5} {r : List Q5} (h : Irr (x :: r)) : Irr r := h.2.1
theorem irr_drop : ∀ (k : Nat) {r : List Q5}, Irr r → Irr (r.drop k)
  | 0, r, h => by simpa using h
  | k + 1, [], h => by simpa using h
  | k + 1, x :: r, h => by simpa using irr_drop k h.2.1
theorem join_loop {y x : Q5} (h : x.o = 23 ∨ x.o = 24) : joinP y x = none := by
  unfold joinP
  split
  · rfl
  · rw [if_neg (by omega), if_neg (by omega)]
theorem idle_loop {x : Q5} (h : x.o = 23 ∨ x.o = 24) : idleP x = false := by
  unfold idleP
  have : decide (x.o = 2 ∨ (13 ≤ x.o ∧ x.o ≤ 16)) = false := by simp; omega
  rw [this, Bool.and_false]
theorem put_loop {r : List Q5} {x : Q5} (h : x.o = 23 ∨ x.o = 24) : putR r x = x :: r := by
  cases r with
  | nil => unfold putR; rw [idle_loop h]; rfl
  | cons y r => unfold putR; rw [join_loop h]; simp [idle_loop h]
end Go.Proofs.Ytlieapapmkbbgaa
