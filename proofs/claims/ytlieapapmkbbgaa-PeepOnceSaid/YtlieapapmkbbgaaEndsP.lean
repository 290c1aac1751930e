/- The mathematics of loops' ends: searching each loop's end, and keeping the loops that are open, come to the same. -/
import Derived.Test.YtlieapapmkbbgaaLirP
namespace Go.Proofs.Ytlieapapmkbbgaa
set_option linter.unusedVariables false

/-- the first end behind, of so many inner loops -/
def endG : List Q5 → Nat → Nat → Option Nat
  | [], _, _ => none
  | x :: xs, j, n => if x.o = 24 then (if n = 0 then some j else endG xs (j + 1) (n - 1)) else if x.o = 23 then endG xs (j + 1) (n + 1) else endG xs (j + 1) n
theorem endG_ge : ∀ (xs : List Q5) (j n k : Nat), endG xs j n = some k → j ≤ k ∧ k < j + xs.length ∧ ∃ x, xs[k - j]? = some x ∧ x.o = 24 := by
  intro xs
  induction xs with
  | nil => intro j n k h; simp [endG] at h
  | cons x xs ih =>
    intro j n k h
    have step : ∀ m, endG xs (j + 1) m = some k → j ≤ k ∧ k < j + (x :: xs).length ∧ ∃ y, (x :: xs)[k - j]? = some y ∧ y.o = 24 := by
      intro m hm
      obtain ⟨h1, h2, y, h3, h4⟩ := ih (j + 1) m k hm
      refine ⟨by omega, by simp; omega, y, ?_, h4⟩
      rw [show k - j = (k - (j + 1)) + 1 by omega]
      simpa using h3
    unfold endG at h
    by_cases h24 : x.o = 24
    · rw [if_pos h24] at h
      by_cases hn : n = 0
      · rw [if_pos hn] at h
        obtain rfl : j = k := by simpa using h
        exact ⟨by omega, by simp, x, by simp, h24⟩
      · rw [if_neg hn] at h
        exact step _ h
    · rw [if_neg h24] at h
      by_cases h23 : x.o = 23
      · rw [if_pos h23] at h; exact step _ h
      · rw [if_neg h23] at h; exact step _ h
/-- the place of a loop's end -/
def mate (l : List Q5) (i : Nat) : Option Nat := endG (l.drop (i + 1)) (i + 1) 0
theorem drop_cons {l : List Q5} {j : Nat} {x : Q5} {xs : List Q5} (h : l.drop j = x :: xs) : l[j]? = some x ∧ l.drop (j + 1) = xs ∧ j < l.length := by
  have hl : j < l.length := by
    rcases Nat.lt_or_ge j l.length with g | g
    · exact g
    · rw [List.drop_eq_nil_of_le g] at h; cases h
  refine ⟨?_, ?_, hl⟩
  · have := congrArg (fun m => m[0]?) h
    simpa using this
  · have := congrArg List.tail h
    simpa using this
theorem mate_ge {l : List Q5} {i k : Nat} (h : mate l i = some k) : i < k ∧ k < l.length ∧ ∃ x, l[k]? = some x ∧ x.o = 24 := by
  obtain ⟨h1, h2, x, h3, h4⟩ := endG_ge _ _ _ _ h
  simp only [List.length_drop] at h2
  rw [List.getElem?_drop] at h3
  refine ⟨by omega, by omega, x, ?_, h4⟩
  rw [show k = i + 1 + (k - (i + 1)) by omega]
  exact h3

/-- a search that fails: an end that is no loop's -/
theorem run_fails (l : List Q5) : ∀ (xs : List Q5) (j : Nat) (P : List Int) (st : List Nat), l.drop j = xs → runE xs j (P, st) = none →
    ∃ p x, j ≤ p ∧ l[p]? = some x ∧ x.o = 24 ∧ (∀ t, t < st.length → endG xs j t ≠ some p) ∧ ∀ i y, j ≤ i → l[i]? = some y → y.o = 23 → mate l i ≠ some p := by
  intro xs
  induction xs with
  | nil => intro j P st _ h; simp [runE] at h
  | cons x xs ih =>
    intro j P st hd h
    obtain ⟨hx, hd', hj⟩ := drop_cons hd
    unfold runE at h
    by_cases h23 : x.o = 23
    · have h24 : x.o ≠ 24 := by omega
      simp only [stepE, if_pos h23] at h
      obtain ⟨p, y, hp, hy, ho, h1, h2⟩ := ih (j + 1) _ _ hd' h
      refine ⟨p, y, by omega, hy, ho, ?_, ?_⟩
      · intro t ht
        unfold endG
        rw [if_neg h24, if_pos h23]
        exact h1 (t + 1) (by simp; omega)
      · intro i z hi hz hzo
        by_cases e : i = j
        · subst e
          unfold mate
          rw [hd']
          exact h1 0 (by simp)
        · exact h2 i z (by omega) hz hzo
    · by_cases h24 : x.o = 24
      · simp only [stepE, if_neg h23, if_pos h24] at h
        rcases List.eq_nil_or_concat st with hst | ⟨st', b, hst⟩
        · subst hst
          refine ⟨j, x, by omega, hx, h24, by simp, ?_⟩
          intro i z hi hz hzo hm
          have := mate_ge hm
          omega
        · rw [List.concat_eq_append] at hst
          subst hst
          simp only [List.getLast?_append, List.getLast?_singleton, Option.some_or, List.dropLast_concat] at h
          obtain ⟨p, y, hp, hy, ho, h1, h2⟩ := ih (j + 1) _ _ hd' h
          refine ⟨p, y, by omega, hy, ho, ?_, ?_⟩
          · intro t ht
            unfold endG
            rw [if_pos h24]
            by_cases t0 : t = 0
            · rw [if_pos t0]; simp; omega
            · rw [if_neg t0]; exact h1 (t - 1) (by simp at ht; omega)
          · intro i z hi hz hzo
            by_cases e : i = j
            · subst e; rw [hx] at hz; cases hz; exact absurd hzo h23
            · exact h2 i z (by omega) hz hzo
      · simp only [stepE, if_neg h23, if_neg h24] at h
        obtain ⟨p, y, hp, hy, ho, h1, h2⟩ := ih (j + 1) _ _ hd' h
        refine ⟨p, y, by omega, hy, ho, ?_, ?_⟩
        · intro t ht
          unfold endG
          rw [if_neg h24, if_neg h23]
          exact h1 t ht
        · intro i z hi hz hzo
          by_cases e : i = j
          · subst e; rw [hx] at hz; cases hz; exact absurd hzo h23
          · exact h2 i z (by omega) hz hzo

/-- a search that leaves loops open: a loop without an end -/
theorem run_opens (l : List Q5) : ∀ (xs : List Q5) (j : Nat) (P Pf : List Int) (st : List Nat) (Of : List Nat), l.drop j = xs → runE xs j (P, st) = some (Pf, Of) → Of ≠ [] →
    (0 < st.length ∧ endG xs j (st.length - 1) = none) ∨ ∃ i x, j ≤ i ∧ l[i]? = some x ∧ x.o = 23 ∧ mate l i = none := by
  intro xs
  induction xs with
  | nil =>
    intro j P Pf st Of _ h hO
    simp [runE] at h
    left
    refine ⟨?_, rfl⟩
    rw [h.2]
    exact List.length_pos_iff.2 hO
  | cons x xs ih =>
    intro j P Pf st Of hd h hO
    obtain ⟨hx, hd', hj⟩ := drop_cons hd
    unfold runE at h
    by_cases h23 : x.o = 23
    · have h24 : x.o ≠ 24 := by omega
      simp only [stepE, if_pos h23] at h
      rcases ih (j + 1) _ _ _ _ hd' h hO with ⟨_, h1⟩ | ⟨i, y, hi, hy, ho, hm⟩
      · simp only [List.length_append, List.length_singleton, Nat.add_sub_cancel] at h1
        by_cases hs : st.length = 0
        · right
          exact ⟨j, x, Nat.le_refl _, hx, h23, by unfold mate; rw [hd', ← hs]; exact h1⟩
        · left
          refine ⟨by omega, ?_⟩
          unfold endG
          rw [if_neg h24, if_pos h23, show st.length - 1 + 1 = st.length by omega]
          exact h1
      · exact Or.inr ⟨i, y, by omega, hy, ho, hm⟩
    · by_cases h24 : x.o = 24
      · simp only [stepE, if_neg h23, if_pos h24] at h
        rcases List.eq_nil_or_concat st with hst | ⟨st', b, hst⟩
        · subst hst; simp at h
        · rw [List.concat_eq_append] at hst
          subst hst
          simp only [List.getLast?_append, List.getLast?_singleton, Option.some_or, List.dropLast_concat] at h
          rcases ih (j + 1) _ _ _ _ hd' h hO with ⟨h0, h1⟩ | ⟨i, y, hi, hy, ho, hm⟩
          · left
            refine ⟨by simp, ?_⟩
            unfold endG
            rw [if_pos h24, if_neg (by rw [List.length_append]; simp only [List.length_singleton]; omega), show (st' ++ [b]).length - 1 - 1 = st'.length - 1 by simp]
            exact h1
          · exact Or.inr ⟨i, y, by omega, hy, ho, hm⟩
      · simp only [stepE, if_neg h23, if_neg h24] at h
        rcases ih (j + 1) _ _ _ _ hd' h hO with ⟨h0, h1⟩ | ⟨i, y, hi, hy, ho, hm⟩
        · left
          refine ⟨h0, ?_⟩
          unfold endG
          rw [if_neg h24, if_neg h23]
          exact h1
        · exact Or.inr ⟨i, y, by omega, hy, ho, hm⟩

/-- a search that ends: each loop's place has its end, and the other way round -/
theorem run_good (l : List Q5) : ∀ (xs : List Q5) (j : Nat) (P Pf : List Int) (st : List Nat), l.drop j = xs → P.length = l.length → (∀ b ∈ st, b < j) → st.Nodup → runE xs j (P, st) = some (Pf, []) →
    Pf.length = l.length ∧
    (∀ t b : Nat, st.reverse[t]? = some b → ∃ k, endG xs j t = some k ∧ Pf[b]? = some (k : Int) ∧ Pf[k]? = some (b : Int)) ∧
    (∀ i x, j ≤ i → l[i]? = some x → x.o = 23 → ∃ k, mate l i = some k ∧ Pf[i]? = some (k : Int) ∧ Pf[k]? = some (i : Int)) ∧
    (∀ p x, j ≤ p → l[p]? = some x → x.o = 24 → ∃ i : Nat, (i ∈ st ∨ ∃ y, j ≤ i ∧ l[i]? = some y ∧ y.o = 23) ∧ Pf[p]? = some (i : Int) ∧ Pf[i]? = some (p : Int)) ∧
    (∀ p x, j ≤ p → l[p]? = some x → x.o ≠ 23 → x.o ≠ 24 → Pf[p]? = some (-1)) ∧
    (∀ p, p < j → p ∉ st → Pf[p]? = P[p]?) := by
  intro xs
  induction xs with
  | nil =>
    intro j P Pf st hd hP _ _ h
    simp [runE] at h
    obtain ⟨rfl, rfl⟩ := h
    have hj : l.length ≤ j := by
      rcases Nat.lt_or_ge j l.length with g | g
      · rw [List.drop_eq_getElem_cons g] at hd; cases hd
      · exact g
    have hnone : ∀ i x, j ≤ i → l[i]? = some x → False := by
      intro i x hi hx
      rw [List.getElem?_eq_none (by omega)] at hx
      cases hx
    exact ⟨hP, by simp, fun i x hi hx => (hnone i x hi hx).elim, fun i x hi hx => (hnone i x hi hx).elim, fun i x hi hx => (hnone i x hi hx).elim, fun p _ _ => rfl⟩
  | cons x xs ih =>
    intro j P Pf st hd hP hst hnd h
    obtain ⟨hx, hd', hj⟩ := drop_cons hd
    unfold runE at h
    by_cases h23 : x.o = 23
    · have h24 : x.o ≠ 24 := by omega
      simp only [stepE, if_pos h23] at h
      have hnj : j ∉ st := fun hm => by have := hst j hm; omega
      obtain ⟨g0, g1, g2, g3, g4, g5⟩ := ih (j + 1) (P.set j (-1)) Pf (st ++ [j]) hd' (by simpa using hP)
        (by intro b hb; rcases List.mem_append.1 hb with hb | hb; have := hst b hb; omega; simp at hb; omega)
        (by rw [List.nodup_append]; exact ⟨hnd, by simp, by intro a ha b hb e; simp at hb; subst hb; subst e; exact hnj ha⟩) h
      have top := g1 0 j (by simp)
      refine ⟨g0, ?_, ?_, ?_, ?_, ?_⟩
      · intro t b ht
        have := g1 (t + 1) b (by simpa using ht)
        unfold endG
        rw [if_neg h24, if_pos h23]
        exact this
      · intro i y hi hy ho
        by_cases e : i = j
        · subst e
          unfold mate
          rw [hd']
          exact top
        · exact g2 i y (by omega) hy ho
      · intro p y hp hy ho
        by_cases e : p = j
        · subst e; rw [hx] at hy; cases hy; exact absurd ho h24
        · obtain ⟨i, hi, h1, h2⟩ := g3 p y (by omega) hy ho
          refine ⟨i, ?_, h1, h2⟩
          rcases hi with hi | ⟨z, hz, h3, h4⟩
          · rcases List.mem_append.1 hi with hi | hi
            · exact Or.inl hi
            · simp at hi; subst hi; exact Or.inr ⟨x, Nat.le_refl _, hx, h23⟩
          · exact Or.inr ⟨z, by omega, h3, h4⟩
      · intro p y hp hy ho1 ho2
        by_cases e : p = j
        · subst e; rw [hx] at hy; cases hy; exact absurd h23 ho1
        · exact g4 p y (by omega) hy ho1 ho2
      · intro p hp hps
        rw [g5 p (by omega) (by simp; exact ⟨hps, by omega⟩), List.getElem?_set_ne (by omega)]
    · by_cases h24 : x.o = 24
      · simp only [stepE, if_neg h23, if_pos h24] at h
        rcases List.eq_nil_or_concat st with hs | ⟨st', b, hs⟩
        · subst hs; simp at h
        · rw [List.concat_eq_append] at hs
          subst hs
          simp only [List.getLast?_append, List.getLast?_singleton, Option.some_or, List.dropLast_concat] at h
          have hbj : b < j := hst b (by simp)
          rw [List.nodup_append] at hnd
          obtain ⟨nd1, _, nd2⟩ := hnd
          have hbn : b ∉ st' := fun hm => nd2 b hm b (by simp) rfl
          obtain ⟨g0, g1, g2, g3, g4, g5⟩ := ih (j + 1) (((P.set j (-1)).set j (b : Int)).set b (j : Int)) Pf st' hd' (by simpa using hP)
            (by intro c hc; have := hst c (List.mem_append_left _ hc); omega) nd1 h
          have pj : Pf[j]? = some (b : Int) := by
            rw [g5 j (by omega) (fun hm => by have := hst j (List.mem_append_left _ hm); omega), List.getElem?_set_ne (by omega), List.getElem?_set_self (by simp; omega)]
          have pb : Pf[b]? = some (j : Int) := by
            rw [g5 b (by omega) hbn, List.getElem?_set_self (by simp; omega)]
          refine ⟨g0, ?_, ?_, ?_, ?_, ?_⟩
          · intro t c ht
            unfold endG
            rw [if_pos h24]
            cases t with
            | zero =>
              obtain rfl : b = c := by simpa using ht
              exact ⟨j, by simp, pb, pj⟩
            | succ t =>
              rw [if_neg (by omega), Nat.add_sub_cancel]
              exact g1 t c (by simpa using ht)
          · intro i y hi hy ho
            by_cases e : i = j
            · subst e; rw [hx] at hy; cases hy; exact absurd ho h23
            · exact g2 i y (by omega) hy ho
          · intro p y hp hy ho
            by_cases e : p = j
            · subst e; exact ⟨b, Or.inl (by simp), pj, pb⟩
            · obtain ⟨i, hi, h1, h2⟩ := g3 p y (by omega) hy ho
              refine ⟨i, ?_, h1, h2⟩
              rcases hi with hi | ⟨z, hz, h3, h4⟩
              · exact Or.inl (List.mem_append_left _ hi)
              · exact Or.inr ⟨z, by omega, h3, h4⟩
          · intro p y hp hy ho1 ho2
            by_cases e : p = j
            · subst e; rw [hx] at hy; cases hy; exact absurd h24 ho2
            · exact g4 p y (by omega) hy ho1 ho2
          · intro p hp hps
            have hpb : p ≠ b := fun e => hps (by simp [e])
            rw [g5 p (by omega) (fun hm => hps (List.mem_append_left _ hm)), List.getElem?_set_ne (by omega), List.getElem?_set_ne (by omega), List.getElem?_set_ne (by omega)]
      · simp only [stepE, if_neg h23, if_neg h24] at h
        obtain ⟨g0, g1, g2, g3, g4, g5⟩ := ih (j + 1) (P.set j (-1)) Pf st hd' (by simpa using hP) (by intro b hb; have := hst b hb; omega) hnd h
        have hnj : j ∉ st := fun hm => by have := hst j hm; omega
        refine ⟨g0, ?_, ?_, ?_, ?_, ?_⟩
        · intro t b ht
          unfold endG
          rw [if_neg h24, if_neg h23]
          exact g1 t b ht
        · intro i y hi hy ho
          by_cases e : i = j
          · subst e; rw [hx] at hy; cases hy; exact absurd ho h23
          · exact g2 i y (by omega) hy ho
        · intro p y hp hy ho
          by_cases e : p = j
          · subst e; rw [hx] at hy; cases hy; exact absurd ho h24
          · obtain ⟨i, hi, h1, h2⟩ := g3 p y (by omega) hy ho
            refine ⟨i, ?_, h1, h2⟩
            rcases hi with hi | ⟨z, hz, h3, h4⟩
            · exact Or.inl hi
            · exact Or.inr ⟨z, by omega, h3, h4⟩
        · intro p y hp hy ho1 ho2
          by_cases e : p = j
          · subst e
            rw [g5 p (by omega) hnj, List.getElem?_set_self (by omega)]
          · exact g4 p y (by omega) hy ho1 ho2
        · intro p hp hps
          rw [g5 p (by omega) hps, List.getElem?_set_ne (by omega)]
end Go.Proofs.Ytlieapapmkbbgaa
