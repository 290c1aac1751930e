/- Loop programs over bytes, as a machine that goes from step to step: the mathematics. -/
import Derived.Test.YtlieapapmkbbgaaGB
import Derived.Test.YtlieapapmkbbgaaGA
import Derived.Test.YtlieapapmkbbgaaGC
namespace Go.Proofs.Ytlieapapmkbbgaa
open Go Go.RowKit Pl
set_option linter.unusedVariables false

def aluR (o : Int) : Int := if o = 3 then 1 else if o = 4 then 2 else if o = 5 then 11 else if o = 6 then 12 else if o = 7 then 10 else if o = 8 then 9 else if o = 9 then 6 else if o = 10 then 4 else if o = 11 then 5 else if o = 12 then 16 else if o = 13 then 1 else if o = 14 then 3 else if o = 15 then 7 else 8
def valR (x : Q5) (f : Nat → Int) : Int :=
  if x.o = 1 ∨ x.o = 23 then x.i % 4294967296 else if x.o = 2 then f x.a.toNat
  else aluS (aluR x.o) (f x.a.toNat) (if 13 ≤ x.o then x.i % 4294967296 else f x.b.toNat)
def atR (x : Q5) (f : Nat → Int) : Nat := ((f x.a.toNat + x.i) % 4294967296).toNat
def sizeR (o : Int) : Nat := if o = 19 then 2 else if o = 20 ∨ o = 22 then 4 else 1
theorem sizeR_is (o : Int) : sizeR o = 1 ∨ sizeR o = 2 ∨ sizeR o = 4 := by
  unfold sizeR
  split
  · exact .inr (.inl rfl)
  split
  · exact .inr (.inr rfl)
  · exact .inl rfl
def extR (o : Int) (n : Nat) : Int := if o = 18 then (n : Int) else sextS n (8 * (sizeR o : Int))
/-- where the bytes lie -/
structure Bk where
  ff : Nat
  rr : Nat
  Fb : List Nat
def ldR (K : Bk) (x : Q5) (f : Nat → Int) (b : List Nat) : Nat × Int := loadS K.ff K.Fb.length K.rr b.length K.Fb b (atR x f) (sizeR x.o)
def stR (K : Bk) (x : Q5) (f : Nat → Int) (b : List Nat) : Int := storeS K.rr b.length (atR x f) (sizeR x.o)
structure LD where
  t : Int
  f : Nat → Int
  b : List Nat
def doR (K : Bk) (x : Q5) (f : Nat → Int) (b : List Nat) : LD :=
  if x.o ≤ 16 ∨ x.o = 23 then ⟨0, upd f x.d.toNat (valR x f), b⟩
  else if x.o ≤ 20 then (if (ldR K x f b).2 ≠ 0 then ⟨(ldR K x f b).2, f, b⟩ else ⟨0, upd f x.d.toNat (extR x.o (ldR K x f b).1), b⟩)
  else if x.o ≤ 22 then (if stR K x f b ≠ 0 then ⟨stR K x f b, f, b⟩ else ⟨0, f, ramS K.rr b.length b (atR x f) (sizeR x.o) (f x.b.toNat).toNat⟩)
  else ⟨0, f, b⟩
/-- place, variables, bytes -/
structure LS where
  p : Nat
  f : Nat → Int
  b : List Nat
def bgL (E : List Int) (p : Nat) : Nat := (E.getD p 0).toNat
def cnL (l : List Q5) (E : List Int) (p : Nat) : Nat := (dOf l (bgL E p)).toNat
def stepX (K : Bk) (l : List Q5) (E : List Int) (s : LS) (x : Q5) : Int × LS :=
  if x.o = 24 then (0, ⟨if (s.f (cnL l E s.p) - 1) % 4294967296 = 0 then s.p + 1 else bgL E s.p + 1, upd s.f (cnL l E s.p) ((s.f (cnL l E s.p) - 1) % 4294967296), s.b⟩)
  else if (doR K x s.f s.b).t ≠ 0 then ((doR K x s.f s.b).t, s) else (0, ⟨s.p + 1, (doR K x s.f s.b).f, (doR K x s.f s.b).b⟩)
def stepL (K : Bk) (l : List Q5) (E : List Int) (s : LS) : Int × LS := match l[s.p]? with
  | none => (0, s)
  | some x => stepX K l E s x
theorem stepL_at {K : Bk} {l : List Q5} {E : List Int} {s : LS} {x : Q5} (h : l[s.p]? = some x) : stepL K l E s = stepX K l E s x := by unfold stepL; rw [h]
structure LR where
  n : Nat
  t : Int
  s : LS
def runL (K : Bk) (l : List Q5) (E : List Int) : Nat → LS → LR
  | 0, s => ⟨0, 0, s⟩
  | k + 1, s => if l.length ≤ s.p then ⟨0, 0, s⟩ else if (stepL K l E s).1 ≠ 0 then ⟨0, (stepL K l E s).1, s⟩ else ⟨(runL K l E k (stepL K l E s).2).n + 1, (runL K l E k (stepL K l E s).2).t, (runL K l E k (stepL K l E s).2).s⟩
theorem runL_succ (K : Bk) (l : List Q5) (E : List Int) (k : Nat) (s : LS) : runL K l E (k + 1) s = if l.length ≤ s.p then ⟨0, 0, s⟩ else if (stepL K l E s).1 ≠ 0 then ⟨0, (stepL K l E s).1, s⟩ else ⟨(runL K l E k (stepL K l E s).2).n + 1, (runL K l E k (stepL K l E s).2).t, (runL K l E k (stepL K l E s).2).s⟩ := rfl
inductive RchL (K : Bk) (l : List Q5) (E : List Int) : Nat → LS → LS → Prop
  | refl (s : LS) : RchL K l E 0 s s
  | step (n : Nat) (s s' : LS) : s.p < l.length → (stepL K l E s).1 = 0 → RchL K l E n (stepL K l E s).2 s' → RchL K l E (n + 1) s s'
theorem RchL.trans {K : Bk} {l : List Q5} {E : List Int} {n m : Nat} {a b c : LS} (h : RchL K l E n a b) (g : RchL K l E m b c) : RchL K l E (n + m) a c := by
  induction h with
  | refl s => rw [Nat.zero_add]; exact g
  | step n s s' h1 h2 _ ih => rw [show n + 1 + m = n + m + 1 by omega]; exact .step _ _ _ h1 h2 (ih g)
theorem RchL.one {K : Bk} {l : List Q5} {E : List Int} {a : LS} (h1 : a.p < l.length) (h2 : (stepL K l E a).1 = 0) : RchL K l E 1 a (stepL K l E a).2 := .step _ _ _ h1 h2 (.refl _)
theorem RchL.snoc {K : Bk} {l : List Q5} {E : List Int} {n : Nat} {a b : LS} (h : RchL K l E n a b) (h1 : b.p < l.length) (h2 : (stepL K l E b).1 = 0) : RchL K l E (n + 1) a (stepL K l E b).2 := h.trans (.one h1 h2)
theorem reach_run {K : Bk} {l : List Q5} {E : List Int} {n : Nat} {a b : LS} (h : RchL K l E n a b) (k : Nat) : runL K l E (n + k) a = ⟨(runL K l E k b).n + n, (runL K l E k b).t, (runL K l E k b).s⟩ := by
  induction h with
  | refl s => rw [Nat.zero_add]; rfl
  | step n s s' h1 h2 _ ih =>
    rw [show n + 1 + k = (n + k) + 1 by omega]
    rw [runL_succ, if_neg (by omega), if_neg (by rw [h2]; simp), ih]
    rfl
/-- what a run comes to, by how it ends -/
theorem run_end {K : Bk} {l : List Q5} {E : List Int} {n : Nat} {a b : LS} (h : RchL K l E n a b) (k : Nat) (he : l.length ≤ b.p ∨ k = 0) : runL K l E (n + k) a = ⟨n, 0, b⟩ := by
  rw [reach_run h]
  have : runL K l E k b = ⟨0, 0, b⟩ := by
    cases k with
    | zero => rfl
    | succ k =>
      rw [runL_succ, if_pos (by omega)]
  rw [this]; simp
theorem run_trap {K : Bk} {l : List Q5} {E : List Int} {n : Nat} {a b : LS} (h : RchL K l E n a b) (k : Nat) (h1 : b.p < l.length) (ht : (stepL K l E b).1 ≠ 0) : runL K l E (n + (k + 1)) a = ⟨n, (stepL K l E b).1, b⟩ := by
  rw [reach_run h]
  have : runL K l E (k + 1) b = ⟨0, (stepL K l E b).1, b⟩ := by
    rw [runL_succ, if_neg (by omega), if_pos ht]
  rw [this]; simp
/-- a step that may be -/
structure OkR (x : Q5) : Prop where
  o : 1 ≤ x.o ∧ x.o ≤ 24
  d : 0 ≤ x.d ∧ x.d < 64
  a : 0 ≤ x.a ∧ x.a < 64
  b : 0 ≤ x.b ∧ x.b < 64
  i : -2147483648 ≤ x.i ∧ x.i ≤ 2147483647
  sh : 14 ≤ x.o → x.o ≤ 16 → 0 ≤ x.i ∧ x.i ≤ 31
  lo : x.o = 23 → 1 ≤ x.i ∧ x.i ≤ 100000
theorem numB_lt' {l : List Nat} (h : ∀ x ∈ l, x < 256) : numB l < 256 ^ l.length := by
  induction l with
  | nil => simp [numB]
  | cons x l ih =>
    have h1 := ih fun y hy => h y (List.mem_cons_of_mem _ hy)
    have h2 := h x (List.mem_cons_self ..)
    have e : numB (x :: l) = x + 256 * numB l := rfl
    rw [e, List.length_cons, Nat.pow_succ]
    omega
theorem bytesAt_lt' {l : List Nat} (h : ∀ x ∈ l, x < 256) (o k : Nat) (hk : k ≤ 4) : bytesAt l o k < 4294967296 := by
  unfold bytesAt
  have h1 := numB_lt' (l := (l.drop o).take k) fun x hx => h x (List.mem_of_mem_drop (List.mem_of_mem_take hx))
  have h2 : ((l.drop o).take k).length ≤ 4 := by rw [List.length_take]; omega
  have h3 : 256 ^ ((l.drop o).take k).length ≤ 256 ^ 4 := Nat.pow_le_pow_right (by decide) h2
  have h4 : 256 ^ 4 = 4294967296 := by decide
  omega
theorem loadS_lt' {f r n1 n2 : Nat} {Fb Rb : List Nat} (hF : ∀ x ∈ Fb, x < 256) (hR : ∀ x ∈ Rb, x < 256) (a k : Nat) (hk : k ≤ 4) : (loadS f n1 r n2 Fb Rb a k).1 < 4294967296 := by
  unfold loadS
  split
  · decide
  split
  · exact bytesAt_lt' hF _ _ hk
  split
  · exact bytesAt_lt' hR _ _ hk
  · decide
theorem atR_lt (x : Q5) (f : Nat → Int) : atR x f < 4294967296 := by
  unfold atR
  have := Int.emod_lt_of_pos (f x.a.toNat + x.i) (show (0 : Int) < 4294967296 by decide)
  have := Int.emod_nonneg (f x.a.toNat + x.i) (show (4294967296 : Int) ≠ 0 by decide)
  omega
theorem atR_int (x : Q5) (f : Nat → Int) : ((atR x f : Nat) : Int) = (f x.a.toNat + x.i) % 4294967296 := by
  unfold atR
  have := Int.emod_nonneg (f x.a.toNat + x.i) (show (4294967296 : Int) ≠ 0 by decide)
  omega
end Go.Proofs.Ytlieapapmkbbgaa

namespace Go.Proofs.Ytlieapapmkbbgaa
open Go Go.RowKit Pl
set_option linter.unusedVariables false

theorem at_lt {l : List Q5} {a : Nat} {x : Q5} (h : l[a]? = some x) : a < l.length := by
  rcases Nat.lt_or_ge a l.length with g | g
  · exact g
  · rw [List.getElem?_eq_none g] at h; cases h
theorem drop_at {l : List Q5} {a : Nat} {x : Q5} (h : l[a]? = some x) : l.drop a = x :: l.drop (a + 1) := by
  have hl := at_lt h
  rw [List.drop_eq_getElem_cons hl]
  congr 1
  rw [List.getElem?_eq_getElem hl] at h
  exact Option.some.inj h
theorem endG_at {l : List Q5} {a n : Nat} {x : Q5} (h : l[a]? = some x) : endG (l.drop a) a n = if x.o = 24 then (if n = 0 then some a else endG (l.drop (a + 1)) (a + 1) (n - 1)) else if x.o = 23 then endG (l.drop (a + 1)) (a + 1) (n + 1) else endG (l.drop (a + 1)) (a + 1) n := by
  rw [drop_at h]; rfl
/-- steps from one place to another one, each loop with its end -/
inductive Bal (l : List Q5) : Nat → Nat → Prop
  | nil (a : Nat) : Bal l a a
  | plain (a b : Nat) (x : Q5) : l[a]? = some x → x.o ≠ 23 → x.o ≠ 24 → Bal l (a + 1) b → Bal l a b
  | loop (a e b : Nat) (x y : Q5) : l[a]? = some x → x.o = 23 → mate l a = some e → Bal l (a + 1) e → l[e]? = some y → y.o = 24 → Bal l (e + 1) b → Bal l a b
theorem Bal.le {l : List Q5} {a b : Nat} (h : Bal l a b) : a ≤ b := by
  induction h with
  | nil => omega
  | plain => omega
  | loop a e b x y h1 h2 h3 _ _ _ _ i1 i2 => omega
theorem endG_split (l : List Q5) : ∀ (m a n e : Nat), l.length - a ≤ m → endG (l.drop a) a (n + 1) = some e → ∃ k, endG (l.drop a) a n = some k ∧ endG (l.drop (k + 1)) (k + 1) 0 = some e := by
  intro m
  induction m with
  | zero =>
    intro a n e hm h
    rw [List.drop_eq_nil_of_le (by omega)] at h
    cases h
  | succ m ih =>
    intro a n e hm h
    rcases Nat.lt_or_ge a l.length with g | g
    · obtain ⟨x, hx⟩ := lookup g
      rw [endG_at hx] at h ⊢
      by_cases h24 : x.o = 24
      · rw [if_pos h24, if_neg (by omega), Nat.add_sub_cancel] at h
        rw [if_pos h24]
        by_cases hn : n = 0
        · subst hn
          exact ⟨a, by rw [if_pos rfl], h⟩
        · obtain ⟨n', rfl⟩ : ∃ n', n = n' + 1 := ⟨n - 1, by omega⟩
          rw [if_neg hn, Nat.add_sub_cancel]
          exact ih (a + 1) n' e (by omega) h
      · rw [if_neg h24] at h ⊢
        by_cases h23 : x.o = 23
        · rw [if_pos h23] at h ⊢
          exact ih (a + 1) (n + 1) e (by omega) h
        · rw [if_neg h23] at h ⊢
          exact ih (a + 1) n e (by omega) h
    · rw [List.drop_eq_nil_of_le g] at h
      cases h
theorem bal_end (l : List Q5) : ∀ (m a e : Nat), l.length - a ≤ m → endG (l.drop a) a 0 = some e → Bal l a e := by
  intro m
  induction m with
  | zero =>
    intro a e hm h
    rw [List.drop_eq_nil_of_le (by omega)] at h
    cases h
  | succ m ih =>
    intro a e hm h
    rcases Nat.lt_or_ge a l.length with g | g
    · obtain ⟨x, hx⟩ := lookup g
      rw [endG_at hx] at h
      by_cases h24 : x.o = 24
      · rw [if_pos h24, if_pos rfl] at h
        cases h
        exact .nil a
      · rw [if_neg h24] at h
        by_cases h23 : x.o = 23
        · rw [if_pos h23] at h
          obtain ⟨k, hk1, hk2⟩ := endG_split l m (a + 1) 0 e (by omega) h
          have hm1 : mate l a = some k := hk1
          have hg := mate_ge hm1
          obtain ⟨y, hy, hyo⟩ := hg.2.2
          exact .loop a k e x y hx h23 hm1 (ih (a + 1) k (by omega) hk1) hy hyo (ih (k + 1) e (by omega) hk2)
        · rw [if_neg h23] at h
          exact .plain a e x hx h23 h24 (ih (a + 1) e (by omega) h)
    · rw [List.drop_eq_nil_of_le g] at h
      cases h
theorem bal_mate {l : List Q5} {a e : Nat} (h : mate l a = some e) : Bal l (a + 1) e := bal_end l _ _ _ (Nat.le_refl _) h
theorem Bal.inner {l : List Q5} {a b : Nat} (h : Bal l a b) : ∀ i x, a ≤ i → i < b → l[i]? = some x → x.o = 23 → ∃ k, mate l i = some k ∧ k < b := by
  induction h with
  | nil => intro i x h1 h2; omega
  | plain a b x hx h23 h24 _ ih =>
    intro i y h1 h2 hy hyo
    by_cases e : i = a
    · subst e; rw [hx] at hy; cases hy; exact absurd hyo h23
    · exact ih i y (by omega) h2 hy hyo
  | loop a e b x y hx h23 hm _ hy h24 hb i1 i2 =>
    intro i z h1 h2 hz hzo
    have hle := hb.le
    by_cases c1 : i = a
    · subst c1; exact ⟨e, hm, by omega⟩
    by_cases c2 : i < e
    · obtain ⟨k, hk, hkb⟩ := i1 i z (by omega) c2 hz hzo
      exact ⟨k, hk, by omega⟩
    by_cases c3 : i = e
    · subst c3; rw [hy] at hz; cases hz; omega
    · exact i2 i z (by omega) h2 hz hzo
/-- what is known of a program whose loops end -/
theorem ends_facts {l : List Q5} {E : List Int} (h : endsS l = some E) : E.length = l.length ∧ (∀ i x, l[i]? = some x → x.o = 23 → ∃ k, mate l i = some k ∧ E[i]? = some (k : Int) ∧ E[k]? = some (i : Int)) ∧
    ∀ p x, l[p]? = some x → x.o = 24 → ∃ (i : Nat) (y : Q5), l[i]? = some y ∧ y.o = 23 ∧ mate l i = some p := by
  have hr : runE l 0 (List.replicate l.length 0, []) = some (E, []) := by
    unfold endsS at h
    split at h
    · rename_i p heq
      cases h
      exact heq
    · cases h
  obtain ⟨g0, _, g2, g3, g4, _⟩ := run_good l l 0 _ _ _ rfl (by simp) (by simp) (by simp) hr
  refine ⟨g0, fun i x hx ho => g2 i x (Nat.zero_le _) hx ho, fun p x hx ho => ?_⟩
  obtain ⟨i, hi, e1, e2⟩ := g3 p x (Nat.zero_le _) hx ho
  rcases hi with hi | ⟨y, _, hy, hyo⟩
  · simp at hi
  · obtain ⟨k, hm, hk1, _⟩ := g2 i y (Nat.zero_le _) hy hyo
    rw [e2] at hk1
    have : p = k := by have := Option.some.inj hk1; omega
    subst this
    exact ⟨i, y, hy, hyo, hm⟩
theorem bal_top {l : List Q5} {E : List Int} (h : endsS l = some E) : ∀ (m a : Nat), l.length - a ≤ m → a ≤ l.length → (∀ i p y, l[i]? = some y → y.o = 23 → mate l i = some p → a ≤ p → a ≤ i) → Bal l a l.length := by
  obtain ⟨_, g2, g3⟩ := ends_facts h
  intro m
  induction m with
  | zero =>
    intro a hm ha _
    obtain rfl : a = l.length := by omega
    exact .nil _
  | succ m ih =>
    intro a hm ha H
    rcases Nat.lt_or_ge a l.length with g | g
    · obtain ⟨x, hx⟩ := lookup g
      by_cases h24 : x.o = 24
      · obtain ⟨i, y, hy, hyo, hmi⟩ := g3 a x hx h24
        have := H i a y hy hyo hmi (Nat.le_refl _)
        have := (mate_ge hmi).1
        omega
      by_cases h23 : x.o = 23
      · obtain ⟨k, hmk, _, _⟩ := g2 a x hx h23
        have hg := mate_ge hmk
        obtain ⟨y, hy, hyo⟩ := hg.2.2
        have hbal := bal_mate hmk
        refine .loop a k _ x y hx h23 hmk hbal hy hyo (ih (k + 1) (by omega) (by omega) ?_)
        intro i p z hz hzo hmp hp
        have h1 := H i p z hz hzo hmp (by omega)
        by_cases c1 : i = a
        · subst c1; rw [hmk] at hmp; cases hmp; omega
        by_cases c2 : i < k
        · obtain ⟨q, hq, hqk⟩ := hbal.inner i z (by omega) c2 hz hzo
          rw [hq] at hmp; cases hmp; omega
        by_cases c3 : i = k
        · subst c3; rw [hy] at hz; cases hz; omega
        · omega
      · refine .plain a _ x hx h23 h24 (ih (a + 1) (by omega) (by omega) ?_)
        intro i p z hz hzo hmp hp
        have h1 := H i p z hz hzo hmp (by omega)
        by_cases c1 : i = a
        · subst c1; rw [hx] at hz; cases hz; exact absurd hzo h23
        · omega
    · obtain rfl : a = l.length := by omega
      exact .nil _
theorem bal_all {l : List Q5} {E : List Int} (h : endsS l = some E) : Bal l 0 l.length := bal_top h _ 0 (Nat.le_refl _) (Nat.zero_le _) (fun _ _ _ _ _ _ _ => Nat.zero_le _)
/-- nothing between two places sets this variable -/
def NoW (l : List Q5) (a b : Nat) (c : Int) : Prop := ∀ j y, a ≤ j → j < b → l[j]? = some y → y.o ≠ 24 → writesS y ≠ -1 → writesS y ≠ c
/-- and no loop's counter is set within it -/
inductive BalC (l : List Q5) : Nat → Nat → Prop
  | nil (a : Nat) : BalC l a a
  | plain (a b : Nat) (x : Q5) : l[a]? = some x → x.o ≠ 23 → x.o ≠ 24 → BalC l (a + 1) b → BalC l a b
  | loop (a e b : Nat) (x y : Q5) : l[a]? = some x → x.o = 23 → mate l a = some e → NoW l (a + 1) e x.d → BalC l (a + 1) e → l[e]? = some y → y.o = 24 → BalC l (e + 1) b → BalC l a b
theorem BalC.le {l : List Q5} {a b : Nat} (h : BalC l a b) : a ≤ b := by
  induction h with
  | nil => omega
  | plain => omega
  | loop a e b x y h1 h2 h3 _ _ _ _ _ i1 i2 => omega
theorem runC_at {l : List Q5} {a : Nat} {x : Q5} (h : l[a]? = some x) (cs : List Int) : runC (l.drop a) cs = match stepC x cs with
    | none => none
    | some cs' => runC (l.drop (a + 1)) cs' := by rw [drop_at h]; rfl
theorem bal_c {l : List Q5} {a b : Nat} (h : Bal l a b) : ∀ cs r, runC (l.drop a) cs = some r → runC (l.drop b) cs = some r ∧ (∀ c ∈ cs, NoW l a b c) ∧ BalC l a b := by
  induction h with
  | nil a => exact fun cs r hr => ⟨hr, fun c _ j y h1 h2 => by omega, .nil a⟩
  | plain a b x hx h23 h24 _ ih =>
    intro cs r hr
    rw [runC_at hx] at hr
    unfold stepC at hr
    rw [if_neg h24] at hr
    by_cases hw : writesS x ≠ -1 ∧ writesS x ∈ cs
    · rw [if_pos hw] at hr; cases hr
    · rw [if_neg hw, if_neg h23] at hr
      obtain ⟨k1, k2, k3⟩ := ih cs r hr
      refine ⟨k1, fun c hc j y h1 h2 hy hyo hw1 hw2 => ?_, .plain a b x hx h23 h24 k3⟩
      by_cases e : j = a
      · subst e; rw [hx] at hy; cases hy
        exact hw ⟨hw1, hw2 ▸ hc⟩
      · exact k2 c hc j y (by omega) h2 hy hyo hw1 hw2
  | loop a e b x y hx h23 hm _ hy h24 _ i1 i2 =>
    intro cs r hr
    rw [runC_at hx] at hr
    unfold stepC at hr
    rw [if_neg (by omega)] at hr
    by_cases hw : writesS x ≠ -1 ∧ writesS x ∈ cs
    · rw [if_pos hw] at hr; cases hr
    · rw [if_neg hw, if_pos h23] at hr
      by_cases hl : cs.length = 10
      · rw [if_pos hl] at hr; cases hr
      · rw [if_neg hl] at hr
        obtain ⟨k1, k2, k3⟩ := i1 _ r hr
        rw [runC_at hy] at k1
        unfold stepC at k1
        rw [if_pos h24] at k1
        simp only [List.dropLast_concat] at k1
        obtain ⟨j1, j2, j3⟩ := i2 cs r k1
        refine ⟨j1, fun c hc j z h1 h2 hz hzo hw1 hw2 => ?_, .loop a e b x y hx h23 hm (k2 x.d (by simp)) k3 hy h24 j3⟩
        by_cases c1 : j = a
        · subst c1; rw [hx] at hz; cases hz
          exact hw ⟨hw1, hw2 ▸ hc⟩
        by_cases c2 : j < e
        · exact k2 c (by simp [hc]) j z (by omega) c2 hz hzo hw1 hw2
        by_cases c3 : j = e
        · subst c3; rw [hy] at hz; cases hz; exact hzo h24
        · exact j2 c hc j z (by omega) h2 hz hzo hw1 hw2
/-- what a program that may be is like -/
structure Prog1 (l : List Q5) (E : List Int) : Prop where
  ok : ∀ x ∈ l, OkR x
  cn : ∀ x ∈ l, canS x = true
  E : endsS l = some E
  bal : BalC l 0 l.length
theorem ok_of_can {x : Q5} (h : canS x = true) : OkR x := by
  have hd := can_d h
  have ho := can_op h
  unfold canS at h
  simp only [Bool.and_eq_true, decide_eq_true_eq] at h
  obtain ⟨⟨⟨⟨⟨_, _⟩, ha⟩, hb⟩, hi1⟩, hi2⟩ := h
  refine ⟨ho, hd, fits_bd ha, fits_bd hb, ?_, ?_, ?_⟩
  · unfold leastS at hi1
    unfold mostS at hi2
    constructor
    · split at hi1 <;> (try split at hi1) <;> omega
    · split at hi2 <;> (try split at hi2) <;> (try split at hi2) <;> omega
  · intro g1 g2
    unfold leastS at hi1
    unfold mostS at hi2
    rw [if_neg (by omega), if_neg (by omega)] at hi1
    rw [if_neg (by omega), if_neg (by omega), if_pos ⟨g1, g2⟩] at hi2
    exact ⟨hi1, hi2⟩
  · intro g
    unfold leastS at hi1
    unfold mostS at hi2
    rw [if_neg (by omega), if_pos g] at hi1
    rw [if_neg (by omega), if_pos g] at hi2
    exact ⟨hi1, hi2⟩
theorem prog1_of {l : List Q5} (h : checkS l = 0) : ∃ E, Prog1 l E := by
  unfold checkS at h
  split at h
  · cases h
  split at h
  · cases h
  rename_i hn hc
  split at h
  · cases h
  rename_i he
  simp only [Bool.or_eq_true, not_or, Bool.not_eq_true, Option.isNone_eq_false_iff, Bool.not_eq_false'] at he
  obtain ⟨E, hE⟩ := Option.isSome_iff_exists.1 he.1
  have hcn : ∀ x ∈ l, canS x = true := by
    intro x hx
    simp only [List.any_eq_true, not_exists, not_and, Bool.not_eq_true', Bool.not_eq_false] at hc
    exact hc x hx
  have hrc := he.2
  unfold countedS at hrc
  obtain ⟨r, hr⟩ := Option.isSome_iff_exists.1 hrc
  exact ⟨E, fun x hx => ok_of_can (hcn x hx), hcn, hE, (bal_c (bal_all hE) [] r hr).2.2⟩
end Go.Proofs.Ytlieapapmkbbgaa

namespace Go.Proofs.Ytlieapapmkbbgaa
open Go Go.RowKit Pl
set_option linter.unusedVariables false

theorem BalC.noW {l : List Q5} {a b : Nat} (h : BalC l a b) : ∀ i x e, a ≤ i → i < b → l[i]? = some x → x.o = 23 → mate l i = some e → NoW l (i + 1) e x.d := by
  induction h with
  | nil => intro i x e h1 h2; omega
  | plain a b x hx h23 h24 _ ih =>
    intro i y e h1 h2 hy hyo hm
    by_cases c : i = a
    · subst c; rw [hx] at hy; cases hy; exact absurd hyo h23
    · exact ih i y e (by omega) h2 hy hyo hm
  | loop a e b x y hx h23 hm hnw _ hy h24 hb i1 i2 =>
    intro i z e' h1 h2 hz hzo hme
    by_cases c1 : i = a
    · subst c1; rw [hx] at hz; cases hz; rw [hm] at hme; cases hme; exact hnw
    by_cases c2 : i < e
    · exact i1 i z e' (by omega) c2 hz hzo hme
    by_cases c3 : i = e
    · subst c3; rw [hy] at hz; cases hz; omega
    · exact i2 i z e' (by omega) h2 hz hzo hme
theorem Prog1.noW {l : List Q5} {E : List Int} (h : Prog1 l E) {i e : Nat} {x : Q5} (hx : l[i]? = some x) (h23 : x.o = 23) (hm : mate l i = some e) : NoW l (i + 1) e x.d := h.bal.noW i x e (Nat.zero_le _) (at_lt hx) hx h23 hm
/-- a loop's counter that is open at a place -/
def OpenC (l : List Q5) (p : Nat) (c : Nat) : Prop := ∃ i x e, l[i]? = some x ∧ x.o = 23 ∧ mate l i = some e ∧ i < p ∧ p ≤ e ∧ x.d = (c : Int)
def Eqv (l : List Q5) (s s' : LS) : Prop := s.p = s'.p ∧ ∀ c, OpenC l s.p c → s.f c = s'.f c
theorem writes_of {x : Q5} (h : canS x = true) (ho : x.o ≤ 20 ∨ x.o = 23) : writesS x = x.d := by
  have h1 := can_op h
  unfold writesS hasD
  rw [h, if_pos]
  simp only [Bool.true_and, decide_eq_true_eq]
  omega
theorem doR_other {K : Bk} {x : Q5} {f : Nat → Int} {b : List Nat} {c : Nat} (h : canS x = true) (hw : writesS x ≠ -1 → writesS x ≠ (c : Int)) : (doR K x f b).f c = f c := by
  have hd := can_d h
  have up : ∀ v, (x.o ≤ 20 ∨ x.o = 23) → upd f x.d.toNat v c = f c := fun v ho => by
    have e := writes_of h ho
    have := hw (by rw [e]; omega)
    unfold upd
    rw [if_neg]
    intro hc
    rw [e] at this
    omega
  unfold doR
  split
  · exact up _ (by omega)
  split
  · split
    · rfl
    · exact up _ (by omega)
  split
  · split <;> rfl
  · rfl
theorem step24 {K : Bk} {l : List Q5} {E : List Int} (hp : Prog1 l E) {s : LS} {x : Q5} (hx : l[s.p]? = some x) (h24 : x.o = 24) : ∃ (i D : Nat) (y : Q5), l[i]? = some y ∧ y.o = 23 ∧ mate l i = some s.p ∧ y.d = (D : Int) ∧ D < 64 ∧
    stepL K l E s = (0, ⟨if (s.f D - 1) % 4294967296 = 0 then s.p + 1 else i + 1, upd s.f D ((s.f D - 1) % 4294967296), s.b⟩) := by
  obtain ⟨_, g2, g3⟩ := ends_facts hp.E
  obtain ⟨i, y, hy, hyo, hmt⟩ := g3 s.p x hx h24
  obtain ⟨k, hk, hE1, hE2⟩ := g2 i y hy hyo
  rw [hmt] at hk
  have hk' : s.p = k := by injection hk
  rw [← hk'] at hE2
  have oky := (hp.ok y (List.mem_of_getElem? hy)).d
  obtain ⟨D, hD⟩ : ∃ D : Nat, y.d = D := ⟨y.d.toNat, by omega⟩
  have e1 : bgL E s.p = i := by unfold bgL; rw [List.getD, hE2]; rfl
  have e2 : cnL l E s.p = D := by unfold cnL dOf; rw [e1, hy]; simp [hD]
  refine ⟨i, D, y, hy, hyo, hmt, hD, by omega, ?_⟩
  rw [stepL_at hx]
  unfold stepX
  rw [if_pos h24, e1, e2]
theorem step_plain {K : Bk} {l : List Q5} {E : List Int} {s : LS} {x : Q5} (hx : l[s.p]? = some x) (h24 : x.o ≠ 24) : stepL K l E s = if (doR K x s.f s.b).t ≠ 0 then ((doR K x s.f s.b).t, s) else (0, ⟨s.p + 1, (doR K x s.f s.b).f, (doR K x s.f s.b).b⟩) := by
  rw [stepL_at hx]
  unfold stepX
  rw [if_neg h24]
theorem eqv_step {K : Bk} {l : List Q5} {E : List Int} (hp : Prog1 l E) {s s' : LS} (h : Eqv l s s') (hl : s.p < l.length) (h1 : (stepL K l E s).1 = 0) (h2 : (stepL K l E s').1 = 0) : Eqv l (stepL K l E s).2 (stepL K l E s').2 := by
  obtain ⟨hpp, hf⟩ := h
  obtain ⟨x, hx⟩ := lookup hl
  have hx' : l[s'.p]? = some x := by rw [← hpp]; exact hx
  have hcx := hp.cn x (List.mem_of_getElem? hx)
  by_cases h24 : x.o = 24
  · obtain ⟨i, D, y, hy, hyo, hm, hD, hD64, e1⟩ := step24 (K := K) hp hx h24
    obtain ⟨i', D', y', hy', hyo', hm', hD', _, e2⟩ := step24 (K := K) hp hx' h24
    have hi : i = i' := by
      obtain ⟨_, g2, _⟩ := ends_facts hp.E
      obtain ⟨k, hk, _, q1⟩ := g2 i y hy hyo
      obtain ⟨k', hk', _, q2⟩ := g2 i' y' hy' hyo'
      rw [hm] at hk
      rw [hm'] at hk'
      have a1 : s.p = k := by injection hk
      have a2 : s'.p = k' := by injection hk'
      rw [← a1] at q1
      rw [← a2, ← hpp, q1] at q2
      have := Option.some.inj q2
      omega
    subst hi
    rw [hy] at hy'
    cases hy'
    have hDD : D = D' := by rw [hD] at hD'; omega
    subst hDD
    have hip := (mate_ge hm).1
    have hv : s.f D = s'.f D := hf D ⟨i, y, s.p, hy, hyo, hm, hip, Nat.le_refl _, hD⟩
    rw [e1, e2, ← hpp, ← hv]
    refine ⟨rfl, ?_⟩
    intro c hc
    show upd s.f D _ c = upd s'.f D _ c
    unfold upd
    by_cases hcD : c = D
    · rw [if_pos hcD, if_pos hcD]
    · rw [if_neg hcD, if_neg hcD]
      obtain ⟨j, z, e, hz, hzo, hme, hj1, hj2, hzd⟩ := hc
      simp only at hj1 hj2
      refine hf c ⟨j, z, e, hz, hzo, hme, ?_, ?_, hzd⟩
      · split at hj1
        · by_cases q : j = s.p
          · subst q; rw [hx] at hz; cases hz; omega
          · omega
        · omega
      · split at hj2
        · omega
        · rename_i hne
          rw [if_neg hne] at hj1
          by_cases q : j = i
          · subst q; rw [hy] at hz; cases hz; rw [hD] at hzd; omega
          · obtain ⟨k, hk, hkb⟩ := (bal_mate hme).inner i y (by omega) (by omega) hy hyo
            rw [hm] at hk
            have : s.p = k := by injection hk
            omega
  · rw [step_plain hx h24] at h1 ⊢
    rw [step_plain hx' h24] at h2 ⊢
    have t1 : (doR K x s.f s.b).t = 0 := by
      by_cases q : (doR K x s.f s.b).t = 0
      · exact q
      · rw [if_pos q] at h1; exact absurd h1 q
    have t2 : (doR K x s'.f s'.b).t = 0 := by
      by_cases q : (doR K x s'.f s'.b).t = 0
      · exact q
      · rw [if_pos q] at h2; exact absurd h2 q
    rw [if_neg (by rw [t1]; simp), if_neg (by rw [t2]; simp)]
    refine ⟨by show s.p + 1 = s'.p + 1; omega, ?_⟩
    intro c hc
    obtain ⟨j, z, e, hz, hzo, hme, hj1, hj2, hzd⟩ := hc
    simp only at hj1 hj2
    show (doR K x s.f s.b).f c = (doR K x s'.f s'.b).f c
    by_cases q : j = s.p
    · subst q
      rw [hx] at hz
      cases hz
      have e1 : ∀ (f : Nat → Int) (b : List Nat), (doR K x f b).f c = x.i % 4294967296 := fun f b => by
        unfold doR
        rw [if_pos (.inr hzo)]
        show upd f x.d.toNat (valR x f) c = _
        unfold upd valR
        rw [if_pos (by omega), if_pos (.inr hzo)]
      rw [e1, e1]
    · have hnw := hp.noW hz hzo hme s.p x (by omega) (by omega) hx h24
      rw [doR_other hcx (by rw [← hzd]; exact hnw), doR_other hcx (by rw [← hzd]; exact hnw)]
      exact hf c ⟨j, z, e, hz, hzo, hme, by omega, by omega, hzd⟩
theorem many {K : Bk} {l : List Q5} {E : List Int} (hp : Prog1 l E) : ∀ (k : Nat) (s s' : LS), Eqv l s s' → (runL K l E k s).t = 0 → (runL K l E k s').t = 0 → (runL K l E k s).n = (runL K l E k s').n := by
  intro k
  induction k with
  | zero => intro s s' _ _ _; rfl
  | succ k ih =>
    intro s s' h h1 h2
    rw [runL_succ] at h1 h2 ⊢
    rw [runL_succ]
    have hpp := h.1
    by_cases hl : l.length ≤ s.p
    · rw [if_pos hl, if_pos (by omega)]
    · have hl' : ¬ l.length ≤ s'.p := by omega
      rw [if_neg hl] at h1 ⊢
      rw [if_neg hl'] at h2 ⊢
      by_cases t1 : (stepL K l E s).1 = 0
      · by_cases t2 : (stepL K l E s').1 = 0
        · rw [if_neg (by rw [t1]; simp)] at h1 ⊢
          rw [if_neg (by rw [t2]; simp)] at h2 ⊢
          show _ + 1 = _ + 1
          rw [ih _ _ (eqv_step hp h (by omega) t1 t2) h1 h2]
        · rw [if_pos t2] at h2; exact absurd h2 t2
      · rw [if_pos t1] at h1; exact absurd h1 t1
theorem ite_bdW {c : Prop} [Decidable c] {a b : Int} (h1 : c → 0 ≤ a ∧ a < 4294967296) (h2 : ¬ c → 0 ≤ b ∧ b < 4294967296) : 0 ≤ (if c then a else b) ∧ (if c then a else b) < 4294967296 := by
  split
  · exact h1 (by assumption)
  · exact h2 (by assumption)
theorem sextS_bdW (x n : Int) (h0 : 0 ≤ x) (h1 : x < 4294967296) : 0 ≤ sextS x n ∧ sextS x n < 4294967296 := by
  unfold sextS; repeat' (apply ite_bdW <;> intro _)
  all_goals omega
theorem words_doRV {K : Bk} {x : Q5} {f : Nat → Int} {b : List Nat} (hf : WordsF f) (hF : ∀ x ∈ K.Fb, x < 256) (hR : ∀ x ∈ b, x < 256) : WordsF (doR K x f b).f := by
  unfold doR
  split
  · refine wordsF_upd hf _ ?_
    unfold valR
    split
    · exact ⟨Int.emod_nonneg _ (by omega), Int.emod_lt_of_pos _ (by omega)⟩
    split
    · exact hf _
    · refine aluS_bd (hf _).1 (hf _).2 ?_ ?_
      · split
        · exact Int.emod_nonneg _ (by omega)
        · exact (hf _).1
      · split
        · exact Int.emod_lt_of_pos _ (by omega)
        · exact (hf _).2
  split
  · split
    · exact hf
    · refine wordsF_upd hf _ ?_
      have h : (ldR K x f b).1 < 4294967296 := loadS_lt' hF hR _ _ (by rcases sizeR_is x.o with g | g | g <;> omega)
      unfold extR
      split
      · omega
      · exact sextS_bdW _ _ (by omega) (by omega)
  split
  · split <;> exact hf
  · exact hf
theorem len_doRV {K : Bk} {x : Q5} {f : Nat → Int} {b : List Nat} : (doR K x f b).b.length = b.length := by
  unfold doR
  split
  · rfl
  split
  · split <;> rfl
  split
  · split
    · rfl
    · exact ramS_length _ _ _ _ _
  · rfl
theorem trap_doRV {K : Bk} {x : Q5} {f : Nat → Int} {b : List Nat} (h : (doR K x f b).t ≠ 0) : (doR K x f b).f = f ∧ (doR K x f b).b = b := by
  unfold doR at h ⊢
  split
  · rename_i g; rw [if_pos g] at h; exact absurd rfl h
  · rename_i g
    rw [if_neg g] at h
    split
    · rename_i g2
      rw [if_pos g2] at h
      split
      · exact ⟨rfl, rfl⟩
      · rename_i g3; rw [if_neg g3] at h; exact absurd rfl h
    · rename_i g2
      rw [if_neg g2] at h
      split
      · rename_i g3
        rw [if_pos g3] at h
        split
        · exact ⟨rfl, rfl⟩
        · rename_i g4; rw [if_neg g4] at h; exact absurd rfl h
      · exact ⟨rfl, rfl⟩
end Go.Proofs.Ytlieapapmkbbgaa
