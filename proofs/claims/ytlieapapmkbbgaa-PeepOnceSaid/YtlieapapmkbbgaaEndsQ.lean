/- The document's own search for loops' ends comes to what the search with open loops comes to. -/
import Derived.Test.YtlieapapmkbbgaaEndsP
namespace Go.Proofs.Ytlieapapmkbbgaa
set_option linter.unusedVariables false

def refR : List Q5 → Nat → List Int → Option (List Int)
  | [], _, o => some o
  | x :: xs, i, o => if x.o = 23 then (match endG xs (i + 1) 0 with
      | none => none
      | some k => refR xs (i + 1) ((o.set i (k : Int)).set k (i : Int))) else refR xs (i + 1) o
def okR : List Q5 → Nat → List Int → Bool
  | [], _, _ => true
  | x :: xs, i, o => if x.o = 24 ∧ o.getD i 0 < 0 then false else okR xs (i + 1) o
def refE (l : List Q5) : Option (List Int) := match refR l 0 (List.replicate l.length (-1)) with
  | none => none
  | some o => if okR l 0 o then some o else none

theorem refR_none (l : List Q5) : ∀ (xs : List Q5) (j : Nat) (o : List Int), l.drop j = xs → (∃ i x, j ≤ i ∧ l[i]? = some x ∧ x.o = 23 ∧ mate l i = none) → refR xs j o = none := by
  intro xs
  induction xs with
  | nil =>
    intro j o hd ⟨i, x, hi, hx, _⟩
    have hj : l.length ≤ j := by
      rcases Nat.lt_or_ge j l.length with g | g
      · rw [List.drop_eq_getElem_cons g] at hd; cases hd
      · exact g
    rw [List.getElem?_eq_none (by omega)] at hx
    cases hx
  | cons x xs ih =>
    intro j o hd ⟨i, y, hi, hy, ho, hm⟩
    obtain ⟨hx, hd', hj⟩ := drop_cons hd
    unfold refR
    by_cases e : i = j
    · subst e
      rw [hx] at hy
      cases hy
      unfold mate at hm
      rw [hd'] at hm
      rw [if_pos ho, hm]
    · have := fun o' => ih (j + 1) o' hd' ⟨i, y, by omega, hy, ho, hm⟩
      by_cases h23 : x.o = 23
      · rw [if_pos h23]
        cases endG xs (j + 1) 0 with
        | none => rfl
        | some k => exact this _
      · rw [if_neg h23]; exact this _
theorem refR_old (l : List Q5) (p : Nat) : ∀ (xs : List Q5) (j : Nat) (o o' : List Int), l.drop j = xs → (∀ i x, j ≤ i → l[i]? = some x → x.o = 23 → i ≠ p ∧ mate l i ≠ some p) → refR xs j o = some o' → o'[p]? = o[p]? := by
  intro xs
  induction xs with
  | nil => intro j o o' _ _ h; simp [refR] at h; rw [h]
  | cons x xs ih =>
    intro j o o' hd hp h
    obtain ⟨hx, hd', hj⟩ := drop_cons hd
    have hp' : ∀ i x, j + 1 ≤ i → l[i]? = some x → x.o = 23 → i ≠ p ∧ mate l i ≠ some p := fun i y hi => hp i y (by omega)
    unfold refR at h
    by_cases h23 : x.o = 23
    · rw [if_pos h23] at h
      obtain ⟨h1, h2⟩ := hp j x (Nat.le_refl _) hx h23
      unfold mate at h2
      rw [hd'] at h2
      cases hk : endG xs (j + 1) 0 with
      | none => rw [hk] at h; cases h
      | some k =>
        rw [hk] at h h2
        rw [ih (j + 1) _ _ hd' hp' h, List.getElem?_set_ne (by intro e; exact h2 (by rw [e])), List.getElem?_set_ne h1]
    · rw [if_neg h23] at h
      exact ih (j + 1) _ _ hd' hp' h
theorem okR_iff (l : List Q5) (o : List Int) : ∀ (xs : List Q5) (j : Nat), l.drop j = xs → (okR xs j o = true ↔ ∀ p x, j ≤ p → l[p]? = some x → x.o = 24 → 0 ≤ o.getD p 0) := by
  intro xs
  induction xs with
  | nil =>
    intro j hd
    have hj : l.length ≤ j := by
      rcases Nat.lt_or_ge j l.length with g | g
      · rw [List.drop_eq_getElem_cons g] at hd; cases hd
      · exact g
    simp only [okR, true_iff]
    intro p x hp hx
    rw [List.getElem?_eq_none (by omega)] at hx
    cases hx
  | cons x xs ih =>
    intro j hd
    obtain ⟨hx, hd', hj⟩ := drop_cons hd
    unfold okR
    by_cases h : x.o = 24 ∧ o.getD j 0 < 0
    · rw [if_pos h]
      simp only [Bool.false_eq_true, false_iff]
      intro hall
      have := hall j x (Nat.le_refl _) hx h.1
      omega
    · rw [if_neg h, ih (j + 1) hd']
      constructor
      · intro hall p y hp hy ho
        by_cases e : p = j
        · subst e
          rw [hx] at hy
          cases hy
          have : ¬ o.getD p 0 < 0 := fun g => h ⟨ho, g⟩
          omega
        · exact hall p y (by omega) hy ho
      · intro hall p y hp hy ho
        exact hall p y (by omega) hy ho

def doneR (l : List Q5) (j p : Nat) : Prop := (∃ x, l[p]? = some x ∧ x.o = 23 ∧ p < j) ∨ ∃ i x, i < j ∧ l[i]? = some x ∧ x.o = 23 ∧ mate l i = some p
theorem refR_good (l : List Q5) (Pf : List Int) (g0 : Pf.length = l.length) (g2 : ∀ i x, l[i]? = some x → x.o = 23 → ∃ k, mate l i = some k ∧ Pf[i]? = some (k : Int) ∧ Pf[k]? = some (i : Int)) :
    ∀ (xs : List Q5) (j : Nat) (o : List Int), l.drop j = xs → j ≤ l.length → o.length = l.length → (∀ p, p < l.length → o[p]? = Pf[p]? ∨ (o[p]? = some (-1) ∧ ¬ doneR l j p)) →
    ∃ o', refR xs j o = some o' ∧ o'.length = l.length ∧ ∀ p, p < l.length → o'[p]? = Pf[p]? ∨ (o'[p]? = some (-1) ∧ ¬ doneR l l.length p) := by
  intro xs
  induction xs with
  | nil =>
    intro j o hd hjl hlen hinv
    have hj : l.length ≤ j := by
      rcases Nat.lt_or_ge j l.length with g | g
      · rw [List.drop_eq_getElem_cons g] at hd; cases hd
      · exact g
    obtain rfl : j = l.length := by omega
    exact ⟨o, rfl, hlen, hinv⟩
  | cons x xs ih =>
    intro j o hd hjl hlen hinv
    obtain ⟨hx, hd', hj⟩ := drop_cons hd
    unfold refR
    by_cases h23 : x.o = 23
    · obtain ⟨k, hm, hk1, hk2⟩ := g2 j x hx h23
      have hmg := mate_ge hm
      have hm' := hm
      unfold mate at hm
      rw [hd'] at hm
      rw [if_pos h23, hm]
      refine ih (j + 1) _ hd' (by omega) (by simpa using hlen) ?_
      intro p hp
      by_cases e1 : p = k
      · subst e1
        left
        rw [List.getElem?_set_self (by simp; omega), hk2]
      · by_cases e2 : p = j
        · subst e2
          left
          rw [List.getElem?_set_ne (by omega), List.getElem?_set_self (by omega), hk1]
        · rw [List.getElem?_set_ne (by omega), List.getElem?_set_ne (by omega)]
          rcases hinv p hp with h | ⟨h1, h2⟩
          · exact Or.inl h
          · refine Or.inr ⟨h1, fun hd => h2 ?_⟩
            rcases hd with ⟨y, hy, ho, hl⟩ | ⟨i, y, hi, hy, ho, hmm⟩
            · exact Or.inl ⟨y, hy, ho, by omega⟩
            · by_cases e3 : i = j
              · subst e3
                rw [hm'] at hmm
                exact absurd (Option.some.inj hmm).symm e1
              · exact Or.inr ⟨i, y, by omega, hy, ho, hmm⟩
    · rw [if_neg h23]
      refine ih (j + 1) _ hd' (by omega) hlen ?_
      intro p hp
      rcases hinv p hp with h | ⟨h1, h2⟩
      · exact Or.inl h
      · refine Or.inr ⟨h1, fun hd => h2 ?_⟩
        rcases hd with ⟨y, hy, ho, hl⟩ | ⟨i, y, hi, hy, ho, hmm⟩
        · refine Or.inl ⟨y, hy, ho, ?_⟩
          by_cases e3 : p = j
          · subst e3; rw [hx] at hy; cases hy; exact absurd ho h23
          · omega
        · by_cases e3 : i = j
          · subst e3; rw [hx] at hy; cases hy; exact absurd ho h23
          · exact Or.inr ⟨i, y, by omega, hy, ho, hmm⟩

theorem refE_eq (l : List Q5) : refE l = endsS l := by
  cases hr : runE l 0 (List.replicate l.length 0, []) with
  | none =>
    have he : endsS l = none := by unfold endsS; rw [hr]
    rw [he]
    obtain ⟨p, x, _, hx, ho, _, h2⟩ := run_fails l l 0 _ _ rfl hr
    unfold refE
    cases hR : refR l 0 (List.replicate l.length (-1)) with
    | none => rfl
    | some o =>
      have hpl : p < l.length := by
        rcases Nat.lt_or_ge p l.length with g | g
        · exact g
        · rw [List.getElem?_eq_none g] at hx; cases hx
      have h1 := refR_old l p l 0 _ _ rfl (fun i y hi hy hyo => ⟨fun e => by subst e; rw [hx] at hy; cases hy; omega, h2 i y hi hy hyo⟩) hR
      have h3 : ¬ okR l 0 o = true := by
        rw [okR_iff l o l 0 rfl]
        intro hall
        have := hall p x (Nat.zero_le _) hx ho
        rw [List.getD, h1] at this
        simp [hpl] at this
      simp only
      rw [if_neg h3]
  | some s =>
    obtain ⟨Pf, Of⟩ := s
    by_cases hO : Of = []
    · subst hO
      have he : endsS l = some Pf := by unfold endsS; rw [hr]
      rw [he]
      obtain ⟨g0, _, g2, g3, g4, _⟩ := run_good l l 0 _ _ _ rfl (by simp) (by simp) (by simp) hr
      obtain ⟨o', hR, hlen, hinv⟩ := refR_good l Pf g0 (fun i x hx ho => g2 i x (Nat.zero_le _) hx ho) l 0 (List.replicate l.length (-1)) rfl (Nat.zero_le _) (by simp) (by
        intro p hp
        refine Or.inr ⟨by simp [hp], ?_⟩
        rintro (⟨_, _, _, h⟩ | ⟨_, _, h, _⟩) <;> omega)
      have eo : o' = Pf := by
        apply List.ext_getElem?
        intro p
        rcases Nat.lt_or_ge p l.length with hp | hp
        · rcases hinv p hp with h | ⟨h1, h2⟩
          · exact h
          · obtain ⟨x, hx⟩ := lookup hp
            by_cases h23 : x.o = 23
            · exact absurd (Or.inl ⟨x, hx, h23, hp⟩) h2
            · by_cases h24 : x.o = 24
              · obtain ⟨i, hi, e1, e2⟩ := g3 p x (Nat.zero_le _) hx h24
                rcases hi with hi | ⟨y, _, hy, hyo⟩
                · simp at hi
                · obtain ⟨k, hm, hk1, _⟩ := g2 i y (Nat.zero_le _) hy hyo
                  rw [e2] at hk1
                  have : p = k := by have := Option.some.inj hk1; omega
                  subst this
                  have hil : i < l.length := by
                    rcases Nat.lt_or_ge i l.length with g | g
                    · exact g
                    · rw [List.getElem?_eq_none g] at hy; cases hy
                  exact absurd (Or.inr ⟨i, y, hil, hy, hyo, hm⟩) h2
              · rw [h1, g4 p x (Nat.zero_le _) hx h23 h24]
        · rw [List.getElem?_eq_none (by omega), List.getElem?_eq_none (by omega)]
      subst eo
      unfold refE
      rw [hR]
      simp only
      rw [if_pos]
      rw [okR_iff l o' l 0 rfl]
      intro p x _ hx ho
      obtain ⟨i, _, e1, _⟩ := g3 p x (Nat.zero_le _) hx ho
      rw [List.getD, e1]
      simp
    · have he : endsS l = none := by
        unfold endsS
        rw [hr]
        cases Of with
        | nil => exact absurd rfl hO
        | cons a b => rfl
      rw [he]
      unfold refE
      rcases run_opens l l 0 _ _ _ _ rfl hr hO with ⟨h0, _⟩ | h
      · simp at h0
      · rw [refR_none l l 0 _ rfl (by obtain ⟨i, x, _, h1, h2, h3⟩ := h; exact ⟨i, x, Nat.zero_le _, h1, h2, h3⟩)]
/-- a loop's place and its end's tell of each other -/
theorem ends_back {l : List Q5} {P : List Int} (h : endsS l = some P) : P.length = l.length ∧ ∀ (i : Nat) (z : Int), P[i]? = some z → 0 ≤ z → ∃ k : Nat, z = (k : Int) ∧ k < P.length ∧ P[k]? = some (i : Int) := by
  have hr : runE l 0 (List.replicate l.length 0, []) = some (P, []) := by
    unfold endsS at h
    split at h
    · rename_i p heq
      cases h
      exact heq
    · cases h
  obtain ⟨g0, _, g2, g3, g4, _⟩ := run_good l l 0 _ _ _ rfl (by simp) (by simp) (by simp) hr
  refine ⟨g0, fun i z hz hz0 => ?_⟩
  have hil : i < l.length := by
    rcases Nat.lt_or_ge i P.length with g | g
    · omega
    · rw [List.getElem?_eq_none g] at hz; cases hz
  obtain ⟨x, hx⟩ := lookup hil
  by_cases h23 : x.o = 23
  · obtain ⟨k, hm, h1, h2⟩ := g2 i x (Nat.zero_le _) hx h23
    rw [hz] at h1
    exact ⟨k, Option.some.inj h1, by have := (mate_ge hm).2.1; omega, h2⟩
  · by_cases h24 : x.o = 24
    · obtain ⟨k, hk, h1, h2⟩ := g3 i x (Nat.zero_le _) hx h24
      rw [hz] at h1
      refine ⟨k, Option.some.inj h1, ?_, h2⟩
      rcases Nat.lt_or_ge k P.length with g | g
      · exact g
      · rw [List.getElem?_eq_none g] at h2; cases h2
    · rw [g4 i x (Nat.zero_le _) hx h23 h24] at hz
      cases hz
      omega
end Go.Proofs.Ytlieapapmkbbgaa
