/- Which loops are open at a step, by the places of the ends: the mathematics of checking counters. -/
import Derived.Test.YtlieapapmkbbgaaEndsQ
namespace Go.Proofs.Ytlieapapmkbbgaa
set_option linter.unusedVariables false

def dOf (l : List Q5) (k : Nat) : Int := (l[k]?.map Q5.d).getD 0
/-- a state of the search, j steps behind the beginning -/
def InvM (l : List Q5) (Pf : List Int) (j : Nat) (Pj : List Int) (O : List Nat) : Prop :=
  Pj.length = l.length ∧ (∀ b ∈ O, b < j ∧ ∃ y, l[b]? = some y ∧ y.o = 23) ∧ O.Nodup ∧ runE (l.drop j) j (Pj, O) = some (Pf, []) ∧
  ∀ k y, k < j → l[k]? = some y → y.o = 23 → k ∉ O → ∃ p : Nat, Pj[k]? = some (p : Int) ∧ p < j
theorem inv_start {l : List Q5} {P : List Int} (h : endsS l = some P) : InvM l P 0 (List.replicate l.length 0) [] := by
  refine ⟨by simp, by simp, by simp, ?_, by intro k y hk; omega⟩
  unfold endsS at h
  split at h
  · rename_i p heq
    cases h
    exact heq
  · cases h
theorem inv_23 {l : List Q5} {P Pj : List Int} {j : Nat} {O : List Nat} {x : Q5} (h : InvM l P j Pj O) (hx : l[j]? = some x) (h23 : x.o = 23) : InvM l P (j + 1) (Pj.set j (-1)) (O ++ [j]) := by
  obtain ⟨i1, i2, i3, i4, i5⟩ := h
  have hnj : j ∉ O := fun hm => by have := (i2 j hm).1; omega
  refine ⟨by simpa using i1, ?_, ?_, ?_, ?_⟩
  · intro b hb
    rcases List.mem_append.1 hb with hb | hb
    · obtain ⟨h1, h2⟩ := i2 b hb
      exact ⟨by omega, h2⟩
    · simp at hb
      subst hb
      exact ⟨by omega, x, hx, h23⟩
  · rw [List.nodup_append]
    exact ⟨i3, by simp, by intro a ha b hb e; simp at hb; subst hb; subst e; exact hnj ha⟩
  · rw [runE_step hx, stepE, if_pos h23] at i4
    exact i4
  · intro k y hk hy hyo hkO
    have hkj : k ≠ j := fun e => hkO (by simp [e])
    obtain ⟨p, hp, hpj⟩ := i5 k y (by omega) hy hyo (fun hm => hkO (List.mem_append_left _ hm))
    exact ⟨p, by rw [List.getElem?_set_ne (by omega)]; exact hp, by omega⟩
theorem inv_24 {l : List Q5} {P Pj : List Int} {j : Nat} {O : List Nat} {x : Q5} (h : InvM l P j Pj O) (hx : l[j]? = some x) (h24 : x.o = 24) : O ≠ [] ∧ ∃ Pj', InvM l P (j + 1) Pj' O.dropLast := by
  obtain ⟨i1, i2, i3, i4, i5⟩ := h
  have hjl : j < l.length := by
    rcases Nat.lt_or_ge j l.length with g | g
    · exact g
    · rw [List.getElem?_eq_none g] at hx; cases hx
  rw [runE_step hx, stepE, if_neg (by omega), if_pos h24] at i4
  rcases List.eq_nil_or_concat O with hO | ⟨O', b, hO⟩
  · subst hO; simp at i4
  · rw [List.concat_eq_append] at hO
    subst hO
    simp only [List.getLast?_append, List.getLast?_singleton, Option.some_or, List.dropLast_concat] at i4 ⊢
    refine ⟨by simp, _, by simpa using i1, ?_, ?_, i4, ?_⟩
    · intro c hc
      obtain ⟨h1, h2⟩ := i2 c (List.mem_append_left _ hc)
      exact ⟨by omega, h2⟩
    · rw [List.nodup_append] at i3; exact i3.1
    · intro k y hk hy hyo hkO
      have hkj : k ≠ j := fun e => by subst e; rw [hx] at hy; cases hy; omega
      have hbj := (i2 b (by simp)).1
      by_cases e : k = b
      · subst e
        exact ⟨j, by rw [List.getElem?_set_self (by simp; omega)], by omega⟩
      · obtain ⟨p, hp, hpj⟩ := i5 k y (by omega) hy hyo (fun hm => by rcases List.mem_append.1 hm with hm | hm; exact hkO hm; simp at hm; exact e hm)
        exact ⟨p, by rw [List.getElem?_set_ne (by omega), List.getElem?_set_ne (by omega), List.getElem?_set_ne (by omega)]; exact hp, by omega⟩
theorem inv_other {l : List Q5} {P Pj : List Int} {j : Nat} {O : List Nat} {x : Q5} (h : InvM l P j Pj O) (hx : l[j]? = some x) (h23 : x.o ≠ 23) (h24 : x.o ≠ 24) : InvM l P (j + 1) (Pj.set j (-1)) O := by
  obtain ⟨i1, i2, i3, i4, i5⟩ := h
  refine ⟨by simpa using i1, ?_, i3, ?_, ?_⟩
  · intro b hb
    obtain ⟨h1, h2⟩ := i2 b hb
    exact ⟨by omega, h2⟩
  · rw [runE_step hx, stepE, if_neg h23, if_neg h24] at i4
    exact i4
  · intro k y hk hy hyo hkO
    have hkj : k ≠ j := fun e => by subst e; rw [hx] at hy; cases hy; exact h23 hyo
    obtain ⟨p, hp, hpj⟩ := i5 k y (by omega) hy hyo hkO
    exact ⟨p, by rw [List.getElem?_set_ne (by omega)]; exact hp, by omega⟩
/-- which loops are open, by the places of their ends -/
theorem inv_open {l : List Q5} {P Pj : List Int} {j : Nat} {O : List Nat} (h : InvM l P j Pj O) (hj : j ≤ l.length) (k : Nat) (y : Q5) (hk : k < j) (hy : l[k]? = some y) (hyo : y.o = 23) :
    ∃ z : Int, P[k]? = some z ∧ (k ∈ O ↔ (j : Int) ≤ z) := by
  obtain ⟨i1, i2, i3, i4, i5⟩ := h
  obtain ⟨g0, g1, g2, g3, g4, g5⟩ := run_good l (l.drop j) j Pj P O rfl i1 (fun b hb => (i2 b hb).1) i3 i4
  by_cases hm : k ∈ O
  · obtain ⟨t, ht⟩ : ∃ t : Nat, O.reverse[t]? = some k := by
      have := List.mem_iff_getElem?.1 (List.mem_reverse.2 hm)
      exact this
    obtain ⟨q, hq, h1, _⟩ := g1 t k ht
    have := (endG_ge _ _ _ _ hq).1
    exact ⟨q, h1, by simp [hm]; omega⟩
  · obtain ⟨p, hp, hpj⟩ := i5 k y hk hy hyo hm
    rw [← g5 k hk hm] at hp
    exact ⟨p, hp, by simp [hm]; omega⟩
theorem inv_self {l : List Q5} {P Pj : List Int} {j : Nat} {O : List Nat} {x : Q5} (h : InvM l P j Pj O) (hx : l[j]? = some x) (h23 : x.o = 23) : ∃ z : Int, P[j]? = some z ∧ (j : Int) ≤ z := by
  obtain ⟨i1, i2, i3, i4, i5⟩ := h
  obtain ⟨g0, g1, g2, g3, g4, g5⟩ := run_good l (l.drop j) j Pj P O rfl i1 (fun b hb => (i2 b hb).1) i3 i4
  obtain ⟨k, hm, h1, _⟩ := g2 j x (Nat.le_refl _) hx h23
  have := (mate_ge hm).1
  exact ⟨k, h1, by omega⟩
theorem filt_succ (O : List Nat) (k : Nat) (h : O.Nodup) : (O.filter fun b => decide (b < k + 1)).length = (O.filter fun b => decide (b < k)).length + if k ∈ O then 1 else 0 := by
  induction O with
  | nil => simp
  | cons a O ih =>
    rw [List.nodup_cons] at h
    have := ih h.2
    by_cases e : a = k
    · subst e
      simp only [List.filter_cons, Nat.lt_succ_self, decide_true, if_true, Nat.lt_irrefl, decide_false, List.length_cons, List.mem_cons, true_or]
      rw [this]
      simp [h.1]
    · have e1 : decide (a < k + 1) = decide (a < k) := by rw [decide_eq_decide]; omega
      have e2 : (k ∈ a :: O) ↔ k ∈ O := by simp; intro h; exact absurd h.symm e
      simp only [List.filter_cons, e1]
      by_cases hm : k ∈ O
      · rw [if_pos (e2.2 hm)]
        rw [if_pos hm] at this
        split <;> first | (simp only [List.length_cons]; omega) | omega
      · rw [if_neg (fun g => hm (e2.1 g))]
        rw [if_neg hm] at this
        split <;> first | (simp only [List.length_cons]; omega) | omega
theorem filt_all {O : List Nat} {j : Nat} (h : ∀ b ∈ O, b < j) : (O.filter fun b => decide (b < j)).length = O.length := by
  rw [List.filter_eq_self.2 (by simpa using h)]
end Go.Proofs.Ytlieapapmkbbgaa
