/- How loops lie within loops: the mathematics. -/
import Derived.Test.YtghclbeoabkgcaaLrP
namespace Go.Proofs.Ytghclbeoabkgcaa
open Go Go.RowKit Pl
set_option linter.unusedVariables false

theorem at_lt {l : List Q5} {a : Nat} {x : Q5} (h : l[a]? = some x) : a < l.length := by
  rcases Nat.lt_or_ge a l.length with g | g
  · exact g
  · rw [List.getElem?_eq_none g] at h; cases h
theorem drop_at {l : List Q5} {a : Nat} {x : Q5} (h : l[a]? = some x) : l.drop a = x :: l.drop (a + 1) := by
  have hl := at_lt h
  rw [List.drop_eq_getElem_cons hl]
  congr 1
  rw [List.getElem?_eq_getElem hl] at h
  exact Option.some.inj h
theorem endG_at {l : List Q5} {a n : Nat} {x : Q5} (h : l[a]? = some x) : endG (l.drop a) a n = if x.o = 24 then (if n = 0 then some a else endG (l.drop (a + 1)) (a + 1) (n - 1)) else if x.o = 23 then endG (l.drop (a + 1)) (a + 1) (n + 1) else endG (l.drop (a + 1)) (a + 1) n := by
  rw [drop_at h]; rfl
/-- steps from one place to another one, each loop with its end -/
inductive Bal (l : List Q5) : Nat → Nat → Prop
  | nil (a : Nat) : Bal l a a
  | plain (a b : Nat) (x : Q5) : l[a]? = some x → x.o ≠ 23 → x.o ≠ 24 → Bal l (a + 1) b → Bal l a b
  | loop (a e b : Nat) (x y : Q5) : l[a]? = some x → x.o = 23 → mate l a = some e → Bal l (a + 1) e → l[e]? = some y → y.o = 24 → Bal l (e + 1) b → Bal l a b
theorem Bal.le {l : List Q5} {a b : Nat} (h : Bal l a b) : a ≤ b := by
  induction h with
  | nil => omega
  | plain => omega
  | loop a e b x y h1 h2 h3 _ _ _ _ i1 i2 => omega
theorem endG_split (l : List Q5) : ∀ (m a n e : Nat), l.length - a ≤ m → endG (l.drop a) a (n + 1) = some e → ∃ k, endG (l.drop a) a n = some k ∧ endG (l.drop (k + 1)) (k + 1) 0 = some e := by
  intro m
  induction m with
  | zero =>
    intro a n e hm h
    rw [List.drop_eq_nil_of_le (by omega)] at h
    cases h
  | succ m ih =>
    intro a n e hm h
    rcases Nat.lt_or_ge a l.length with g | g
    · obtain ⟨x, hx⟩ := lookup g
      rw [endG_at hx] at h ⊢
      by_cases h24 : x.o = 24
      · rw [if_pos h24, if_neg (by omega), Nat.add_sub_cancel] at h
        rw [if_pos h24]
        by_cases hn : n = 0
        · subst hn
          exact ⟨a, by rw [if_pos rfl], h⟩
        · obtain ⟨n', rfl⟩ : ∃ n', n = n' + 1 := ⟨n - 1, by omega⟩
          rw [if_neg hn, Nat.add_sub_cancel]
          exact ih (a + 1) n' e (by omega) h
      · rw [if_neg h24] at h ⊢
        by_cases h23 : x.o = 23
        · rw [if_pos h23] at h ⊢
          exact ih (a + 1) (n + 1) e (by omega) h
        · rw [if_neg h23] at h ⊢
          exact ih (a + 1) n e (by omega) h
    · rw [List.drop_eq_nil_of_le g] at h
      cases h
theorem bal_end (l : List Q5) : ∀ (m a e : Nat), l.length - a ≤ m → endG (l.drop a) a 0 = some e → Bal l a e := by
  intro m
  induction m with
  | zero =>
    intro a e hm h
    rw [List.drop_eq_nil_of_le (by omega)] at h
    cases h
  | succ m ih =>
    intro a e hm h
    rcases Nat.lt_or_ge a l.length with g | g
    · obtain ⟨x, hx⟩ := lookup g
      rw [endG_at hx] at h
      by_cases h24 : x.o = 24
      · rw [if_pos h24, if_pos rfl] at h
        cases h
        exact .nil a
      · rw [if_neg h24] at h
        by_cases h23 : x.o = 23
        · rw [if_pos h23] at h
          obtain ⟨k, hk1, hk2⟩ := endG_split l m (a + 1) 0 e (by omega) h
          have hm1 : mate l a = some k := hk1
          have hg := mate_ge hm1
          obtain ⟨y, hy, hyo⟩ := hg.2.2
          exact .loop a k e x y hx h23 hm1 (ih (a + 1) k (by omega) hk1) hy hyo (ih (k + 1) e (by omega) hk2)
        · rw [if_neg h23] at h
          exact .plain a e x hx h23 h24 (ih (a + 1) e (by omega) h)
    · rw [List.drop_eq_nil_of_le g] at h
      cases h
theorem bal_mate {l : List Q5} {a e : Nat} (h : mate l a = some e) : Bal l (a + 1) e := bal_end l _ _ _ (Nat.le_refl _) h
theorem Bal.inner {l : List Q5} {a b : Nat} (h : Bal l a b) : ∀ i x, a ≤ i → i < b → l[i]? = some x → x.o = 23 → ∃ k, mate l i = some k ∧ k < b := by
  induction h with
  | nil => intro i x h1 h2; omega
  | plain a b x hx h23 h24 _ ih =>
    intro i y h1 h2 hy hyo
    by_cases e : i = a
    · subst e; rw [hx] at hy; cases hy; exact absurd hyo h23
    · exact ih i y (by omega) h2 hy hyo
  | loop a e b x y hx h23 hm _ hy h24 hb i1 i2 =>
    intro i z h1 h2 hz hzo
    have hle := hb.le
    by_cases c1 : i = a
    · subst c1; exact ⟨e, hm, by omega⟩
    by_cases c2 : i < e
    · obtain ⟨k, hk, hkb⟩ := i1 i z (by omega) c2 hz hzo
      exact ⟨k, hk, by omega⟩
    by_cases c3 : i = e
    · subst c3; rw [hy] at hz; cases hz; omega
    · exact i2 i z (by omega) h2 hz hzo
/-- what is known of a program whose loops end -/
theorem ends_facts {l : List Q5} {E : List Int} (h : endsS l = some E) : E.length = l.length ∧ (∀ i x, l[i]? = some x → x.o = 23 → ∃ k, mate l i = some k ∧ E[i]? = some (k : Int) ∧ E[k]? = some (i : Int)) ∧
    ∀ p x, l[p]? = some x → x.o = 24 → ∃ (i : Nat) (y : Q5), l[i]? = some y ∧ y.o = 23 ∧ mate l i = some p := by
  have hr : runE l 0 (List.replicate l.length 0, []) = some (E, []) := by
    unfold endsS at h
    split at h
    · rename_i p heq
      cases h
      exact heq
    · cases h
  obtain ⟨g0, _, g2, g3, g4, _⟩ := run_good l l 0 _ _ _ rfl (by simp) (by simp) (by simp) hr
  refine ⟨g0, fun i x hx ho => g2 i x (Nat.zero_le _) hx ho, fun p x hx ho => ?_⟩
  obtain ⟨i, hi, e1, e2⟩ := g3 p x (Nat.zero_le _) hx ho
  rcases hi with hi | ⟨y, _, hy, hyo⟩
  · simp at hi
  · obtain ⟨k, hm, hk1, _⟩ := g2 i y (Nat.zero_le _) hy hyo
    rw [e2] at hk1
    have : p = k := by have := Option.some.inj hk1; omega
    subst this
    exact ⟨i, y, hy, hyo, hm⟩
theorem bal_top {l : List Q5} {E : List Int} (h : endsS l = some E) : ∀ (m a : Nat), l.length - a ≤ m → a ≤ l.length → (∀ i p y, l[i]? = some y → y.o = 23 → mate l i = some p → a ≤ p → a ≤ i) → Bal l a l.length := by
  obtain ⟨_, g2, g3⟩ := ends_facts h
  intro m
  induction m with
  | zero =>
    intro a hm ha _
    obtain rfl : a = l.length := by omega
    exact .nil _
  | succ m ih =>
    intro a hm ha H
    rcases Nat.lt_or_ge a l.length with g | g
    · obtain ⟨x, hx⟩ := lookup g
      by_cases h24 : x.o = 24
      · obtain ⟨i, y, hy, hyo, hmi⟩ := g3 a x hx h24
        have := H i a y hy hyo hmi (Nat.le_refl _)
        have := (mate_ge hmi).1
        omega
      by_cases h23 : x.o = 23
      · obtain ⟨k, hmk, _, _⟩ := g2 a x hx h23
        have hg := mate_ge hmk
        obtain ⟨y, hy, hyo⟩ := hg.2.2
        have hbal := bal_mate hmk
        refine .loop a k _ x y hx h23 hmk hbal hy hyo (ih (k + 1) (by omega) (by omega) ?_)
        intro i p z hz hzo hmp hp
        have h1 := H i p z hz hzo hmp (by omega)
        by_cases c1 : i = a
        · subst c1; rw [hmk] at hmp; cases hmp; omega
        by_cases c2 : i < k
        · obtain ⟨q, hq, hqk⟩ := hbal.inner i z (by omega) c2 hz hzo
          rw [hq] at hmp; cases hmp; omega
        by_cases c3 : i = k
        · subst c3; rw [hy] at hz; cases hz; omega
        · omega
      · refine .plain a _ x hx h23 h24 (ih (a + 1) (by omega) (by omega) ?_)
        intro i p z hz hzo hmp hp
        have h1 := H i p z hz hzo hmp (by omega)
        by_cases c1 : i = a
        · subst c1; rw [hx] at hz; cases hz; exact absurd hzo h23
        · omega
    · obtain rfl : a = l.length := by omega
      exact .nil _
theorem bal_all {l : List Q5} {E : List Int} (h : endsS l = some E) : Bal l 0 l.length := bal_top h _ 0 (Nat.le_refl _) (Nat.zero_le _) (fun _ _ _ _ _ _ _ => Nat.zero_le _)
/-- nothing between two places sets this variable -/
def NoW (l : List Q5) (a b : Nat) (c : Int) : Prop := ∀ j y, a ≤ j → j < b → l[j]? = some y → y.o ≠ 24 → writesS y ≠ -1 → writesS y ≠ c
/-- and no loop's counter is set within it -/
inductive BalC (l : List Q5) : Nat → Nat → Prop
  | nil (a : Nat) : BalC l a a
  | plain (a b : Nat) (x : Q5) : l[a]? = some x → x.o ≠ 23 → x.o ≠ 24 → BalC l (a + 1) b → BalC l a b
  | loop (a e b : Nat) (x y : Q5) : l[a]? = some x → x.o = 23 → mate l a = some e → NoW l (a + 1) e x.d → BalC l (a + 1) e → l[e]? = some y → y.o = 24 → BalC l (e + 1) b → BalC l a b
theorem BalC.le {l : List Q5} {a b : Nat} (h : BalC l a b) : a ≤ b := by
  induction h with
  | nil => omega
  | plain => omega
  | loop a e b x y h1 h2 h3 _ _ _ _ _ i1 i2 => omega
theorem runC_at {l : List Q5} {a : Nat} {x : Q5} (h : l[a]? = some x) (cs : List Int) : runC (l.drop a) cs = match stepC x cs with
    | none => none
    | some cs' => runC (l.drop (a + 1)) cs' := by rw [drop_at h]; rfl
theorem bal_c {l : List Q5} {a b : Nat} (h : Bal l a b) : ∀ cs r, runC (l.drop a) cs = some r → runC (l.drop b) cs = some r ∧ (∀ c ∈ cs, NoW l a b c) ∧ BalC l a b := by
  induction h with
  | nil a => exact fun cs r hr => ⟨hr, fun c _ j y h1 h2 => by omega, .nil a⟩
  | plain a b x hx h23 h24 _ ih =>
    intro cs r hr
    rw [runC_at hx] at hr
    unfold stepC at hr
    rw [if_neg h24] at hr
    by_cases hw : writesS x ≠ -1 ∧ writesS x ∈ cs
    · rw [if_pos hw] at hr; cases hr
    · rw [if_neg hw, if_neg h23] at hr
      obtain ⟨k1, k2, k3⟩ := ih cs r hr
      refine ⟨k1, fun c hc j y h1 h2 hy hyo hw1 hw2 => ?_, .plain a b x hx h23 h24 k3⟩
      by_cases e : j = a
      · subst e; rw [hx] at hy; cases hy
        exact hw ⟨hw1, hw2 ▸ hc⟩
      · exact k2 c hc j y (by omega) h2 hy hyo hw1 hw2
  | loop a e b x y hx h23 hm _ hy h24 _ i1 i2 =>
    intro cs r hr
    rw [runC_at hx] at hr
    unfold stepC at hr
    rw [if_neg (by omega)] at hr
    by_cases hw : writesS x ≠ -1 ∧ writesS x ∈ cs
    · rw [if_pos hw] at hr; cases hr
    · rw [if_neg hw, if_pos h23] at hr
      by_cases hl : cs.length = 10
      · rw [if_pos hl] at hr; cases hr
      · rw [if_neg hl] at hr
        obtain ⟨k1, k2, k3⟩ := i1 _ r hr
        rw [runC_at hy] at k1
        unfold stepC at k1
        rw [if_pos h24] at k1
        simp only [List.dropLast_concat] at k1
        obtain ⟨j1, j2, j3⟩ := i2 cs r k1
        refine ⟨j1, fun c hc j z h1 h2 hz hzo hw1 hw2 => ?_, .loop a e b x y hx h23 hm (k2 x.d (by simp)) k3 hy h24 j3⟩
        by_cases c1 : j = a
        · subst c1; rw [hx] at hz; cases hz
          exact hw ⟨hw1, hw2 ▸ hc⟩
        by_cases c2 : j < e
        · exact k2 c (by simp [hc]) j z (by omega) c2 hz hzo hw1 hw2
        by_cases c3 : j = e
        · subst c3; rw [hy] at hz; cases hz; exact hzo h24
        · exact j2 c hc j z (by omega) h2 hz hzo hw1 hw2
/-- what a program that may be is like -/
structure Prog1 (l : List Q5) (E : List Int) : Prop where
  ok : ∀ x ∈ l, OkR x
  cn : ∀ x ∈ l, canS x = true
  E : endsS l = some E
  bal : BalC l 0 l.length
theorem ok_of_can {x : Q5} (h : canS x = true) : OkR x := by
  have hd := can_d h
  have ho := can_op h
  unfold canS at h
  simp only [Bool.and_eq_true, decide_eq_true_eq] at h
  obtain ⟨⟨⟨⟨⟨_, _⟩, ha⟩, hb⟩, hi1⟩, hi2⟩ := h
  refine ⟨ho, hd, fits_bd ha, fits_bd hb, ?_, ?_, ?_⟩
  · unfold leastS at hi1
    unfold mostS at hi2
    constructor
    · split at hi1 <;> (try split at hi1) <;> omega
    · split at hi2 <;> (try split at hi2) <;> (try split at hi2) <;> omega
  · intro g1 g2
    unfold leastS at hi1
    unfold mostS at hi2
    rw [if_neg (by omega), if_neg (by omega)] at hi1
    rw [if_neg (by omega), if_neg (by omega), if_pos ⟨g1, g2⟩] at hi2
    exact ⟨hi1, hi2⟩
  · intro g
    unfold leastS at hi1
    unfold mostS at hi2
    rw [if_neg (by omega), if_pos g] at hi1
    rw [if_neg (by omega), if_pos g] at hi2
    exact ⟨hi1, hi2⟩
theorem prog1_of {l : List Q5} (h : checkS l = 0) : ∃ E, Prog1 l E := by
  unfold checkS at h
  split at h
  · cases h
  split at h
  · cases h
  rename_i hn hc
  split at h
  · cases h
  rename_i he
  simp only [Bool.or_eq_true, not_or, Bool.not_eq_true, Option.isNone_eq_false_iff, Bool.not_eq_false'] at he
  obtain ⟨E, hE⟩ := Option.isSome_iff_exists.1 he.1
  have hcn : ∀ x ∈ l, canS x = true := by
    intro x hx
    simp only [List.any_eq_true, not_exists, not_and, Bool.not_eq_true', Bool.not_eq_false] at hc
    exact hc x hx
  have hrc := he.2
  unfold countedS at hrc
  obtain ⟨r, hr⟩ := Option.isSome_iff_exists.1 hrc
  exact ⟨E, fun x hx => ok_of_can (hcn x hx), hcn, hE, (bal_c (bal_all hE) [] r hr).2.2⟩
end Go.Proofs.Ytghclbeoabkgcaa
