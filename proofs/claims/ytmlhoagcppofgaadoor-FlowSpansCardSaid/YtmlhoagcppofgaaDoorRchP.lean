/- To which places one comes: plain. -/
namespace Go.Proofs.YtmlhoagcppofgaaDoor
set_option linter.unusedVariables false

/-- one comes from s to a place, over g, among n -/
inductive Rch (g : Nat → Nat → Bool) (n s : Nat) : Nat → Prop
  | base : s < n → Rch g n s s
  | step {a b : Nat} : Rch g n s a → g a b = true → b < n → Rch g n s b
def cntS (S : Nat → Bool) : Nat → Nat
  | 0 => 0
  | n + 1 => cntS S n + (if S n then 1 else 0)
theorem cntS_le (S : Nat → Bool) (n : Nat) : cntS S n ≤ n := by
  induction n with
  | zero => exact Nat.le_refl _
  | succ n ih =>
    show cntS S n + (if S n then 1 else 0) ≤ n + 1
    split <;> omega
theorem cntS_mono {S T : Nat → Bool} {n : Nat} (h : ∀ j, j < n → S j = true → T j = true) : cntS S n ≤ cntS T n := by
  induction n with
  | zero => exact Nat.le_refl _
  | succ n ih =>
    have a := ih fun j hj => h j (by omega)
    have b := h n (by omega)
    show cntS S n + (if S n then 1 else 0) ≤ cntS T n + (if T n then 1 else 0)
    cases hs : S n
    · simp; omega
    · rw [b hs]; simp; omega
theorem cntS_more {S T : Nat → Bool} {n j : Nat} (h : ∀ j, j < n → S j = true → T j = true) (hj : j < n) (h1 : S j = false) (h2 : T j = true) : cntS S n + 1 ≤ cntS T n := by
  induction n with
  | zero => omega
  | succ n ih =>
    show cntS S n + (if S n then 1 else 0) + 1 ≤ cntS T n + (if T n then 1 else 0)
    by_cases e : j = n
    · subst e
      have a := cntS_mono (n := j) fun k hk => h k (by omega)
      rw [h1, h2]; simp; omega
    · have a := ih (fun k hk => h k (by omega)) (by omega)
      have b := h n (by omega)
      cases hs : S n
      · simp; omega
      · rw [b hs]; simp; omega
theorem cntS_congr {S T : Nat → Bool} {n : Nat} (h : ∀ j, j < n → S j = T j) : cntS S n = cntS T n := by
  have a := cntS_mono (S := S) (T := T) (n := n) fun j hj e => by rw [← h j hj]; exact e
  have b := cntS_mono (S := T) (T := S) (n := n) fun j hj e => by rw [h j hj]; exact e
  omega
theorem cntS_one {s n : Nat} (hs : s < n) : 1 ≤ cntS (fun j => decide (j = s)) n := by
  have := cntS_more (S := fun _ => false) (T := fun j => decide (j = s)) (n := n) (j := s) (by simp) hs rfl (by simp)
  omega
/-- set one more -/
def setS (S : Nat → Bool) (k : Nat) : Nat → Bool := fun j => S j || decide (j = k)
theorem setS_ge (S : Nat → Bool) (k j : Nat) (h : S j = true) : setS S k j = true := by unfold setS; rw [h]; rfl
theorem setS_at (S : Nat → Bool) (k : Nat) : setS S k k = true := by simp [setS]
theorem cntS_set {S : Nat → Bool} {n k : Nat} (hk : k < n) (h : S k = false) : cntS S n + 1 ≤ cntS (setS S k) n :=
  cntS_more (fun j _ => setS_ge S k j) hk h (setS_at S k)
def soundS (g : Nat → Nat → Bool) (n s : Nat) (S : Nat → Bool) : Prop := ∀ j, j < n → S j = true → Rch g n s j
def closedS (g : Nat → Nat → Bool) (n : Nat) (S : Nat → Bool) : Prop := ∀ a b, a < n → b < n → S a = true → g a b = true → S b = true
theorem rch_lt {g : Nat → Nat → Bool} {n s j : Nat} (h : Rch g n s j) : j < n := by
  cases h with
  | base h => exact h
  | step _ _ h => exact h
theorem rch_in {g : Nat → Nat → Bool} {n s : Nat} {S : Nat → Bool} (hs : S s = true) (hc : closedS g n S) {j : Nat} (h : Rch g n s j) : S j = true := by
  induction h with
  | base _ => exact hs
  | step h1 h2 h3 ih => exact hc _ _ (rch_lt h1) h3 ih h2
/-- the document's rounds -/
structure RInv (g : Nat → Nat → Bool) (n s m : Nat) (S : Nat → Bool) : Prop where
  at0 : S s = true
  snd : soundS g n s S
  cls : closedS g n S ∨ m + 1 ≤ cntS S n
theorem rinv_begin {g : Nat → Nat → Bool} {n s : Nat} (hs : s < n) : RInv g n s 0 (fun j => decide (j = s)) :=
  ⟨by simp, fun j _ h => by simp at h; subst h; exact .base hs, .inr (cntS_one hs)⟩
theorem rinv_next {g : Nat → Nat → Bool} {n s m : Nat} {S T : Nat → Bool} (h : RInv g n s m S) (hge : ∀ j, j < n → S j = true → T j = true) (hs : s < n) (hT : soundS g n s T) (hstep : ∀ a b, a < n → b < n → g a b = true → S a = true → T b = true) : RInv g n s (m + 1) T := by
  refine ⟨hge s hs h.at0, hT, ?_⟩
  by_cases e : ∀ j, j < n → T j = true → S j = true
  · exact .inl fun a b ha hb hta hg => hstep a b ha hb hg (e a ha hta)
  · have ⟨j, hj⟩ := Classical.not_forall.1 e
    have ⟨hjn, hj⟩ := Classical.not_imp.1 hj
    have ⟨hjT, hjS⟩ := Classical.not_imp.1 hj
    have hjS' : S j = false := by cases hx : S j; rfl; exact absurd hx hjS
    rcases h.cls with hc | hc
    · exact absurd (rch_in h.at0 hc (hT j hjn hjT)) hjS
    · have := cntS_more hge hjn hjS' hjT
      exact .inr (by omega)
theorem rinv_end {g : Nat → Nat → Bool} {n s : Nat} {S : Nat → Bool} (h : RInv g n s n S) : closedS g n S := by
  rcases h.cls with hc | hc
  · exact hc
  · have := cntS_le S n; omega
/-- whatever is sound, closed, and has the first one is the same -/
theorem rch_same {g : Nat → Nat → Bool} {n s : Nat} {S T : Nat → Bool} (hs : S s = true) (h1 : soundS g n s S) (h2 : closedS g n S) (ht : T s = true) (h3 : soundS g n s T) (h4 : closedS g n T) {j : Nat} (hj : j < n) : S j = T j := by
  cases a : S j <;> cases b : T j
  · rfl
  · have := rch_in hs h2 (h3 j hj b); rw [a] at this; cases this
  · have := rch_in ht h4 (h1 j hj a); rw [b] at this; cases this
  · rfl
/-- the stack's rounds: what is open, and of the one that is done just now the first k of what it goes to -/
structure SInv (g : Nat → Nat → Bool) (n s : Nat) (S : Nat → Bool) (O : List Nat) : Prop where
  at0 : S s = true
  snd : soundS g n s S
  opn : ∀ a, a ∈ O → a < n ∧ S a = true
  don : ∀ a b, a < n → b < n → S a = true → a ∉ O → g a b = true → S b = true
structure SMid (g : Nat → Nat → Bool) (n s i : Nat) (L : List Nat) (S : Nat → Bool) (O : List Nat) : Prop where
  at0 : S s = true
  snd : soundS g n s S
  opn : ∀ a, a ∈ O → a < n ∧ S a = true
  ii : i < n ∧ S i = true
  got : ∀ b, b ∈ L → b < n → S b = true
  don : ∀ a b, a < n → b < n → S a = true → a ∉ O → a ≠ i → g a b = true → S b = true
theorem SInv.pop {g : Nat → Nat → Bool} {n s i : Nat} {S : Nat → Bool} {O : List Nat} (h : SInv g n s S (O ++ [i])) : SMid g n s i [] S O := by
  refine ⟨h.at0, h.snd, fun a ha => h.opn a (by simp [ha]), h.opn i (by simp), by simp, fun a b ha hb h1 h2 h3 h4 => h.don a b ha hb h1 ?_ h4⟩
  simp [h2, h3]
theorem SMid.old {g : Nat → Nat → Bool} {n s i b : Nat} {L : List Nat} {S : Nat → Bool} {O : List Nat} (h : SMid g n s i L S O) (hb : b < n → S b = true) : SMid g n s i (L ++ [b]) S O := by
  refine ⟨h.at0, h.snd, h.opn, h.ii, fun c hc hn => ?_, h.don⟩
  rw [List.mem_append, List.mem_singleton] at hc
  rcases hc with hc | rfl
  · exact h.got c hc hn
  · exact hb hn
theorem SMid.new {g : Nat → Nat → Bool} {n s i b : Nat} {L : List Nat} {S : Nat → Bool} {O : List Nat} (h : SMid g n s i L S O) (hb : b < n) (hg : g i b = true) : SMid g n s i (L ++ [b]) (setS S b) (O ++ [b]) := by
  have hR : Rch g n s b := .step (h.snd i h.ii.1 h.ii.2) hg hb
  refine ⟨setS_ge _ _ _ h.at0, fun j hj hs => ?_, fun a ha => ?_, ⟨h.ii.1, setS_ge _ _ _ h.ii.2⟩, fun c hc hn => ?_, fun a c ha hc h1 h2 h3 h4 => ?_⟩
  · unfold setS at hs
    rw [Bool.or_eq_true, decide_eq_true_eq] at hs
    rcases hs with hs | rfl
    · exact h.snd j hj hs
    · exact hR
  · rw [List.mem_append, List.mem_singleton] at ha
    rcases ha with ha | rfl
    · exact ⟨(h.opn a ha).1, setS_ge _ _ _ (h.opn a ha).2⟩
    · exact ⟨hb, setS_at _ _⟩
  · rw [List.mem_append, List.mem_singleton] at hc
    rcases hc with hc | rfl
    · exact setS_ge _ _ _ (h.got c hc hn)
    · exact setS_at _ _
  · rw [List.mem_append, List.mem_singleton, not_or] at h2
    unfold setS at h1
    rw [Bool.or_eq_true, decide_eq_true_eq] at h1
    rcases h1 with h1 | h1
    · exact setS_ge _ _ _ (h.don a c ha hc h1 h2.1 h3 h4)
    · exact absurd h1 h2.2
theorem SMid.done {g : Nat → Nat → Bool} {n s i : Nat} {L : List Nat} {S : Nat → Bool} {O : List Nat} (h : SMid g n s i L S O) (hL : ∀ b, b < n → g i b = true → b ∈ L) : SInv g n s S O := by
  refine ⟨h.at0, h.snd, h.opn, fun a b ha hb h1 h2 h3 => ?_⟩
  by_cases e : a = i
  · subst e; exact h.got b (hL b hb h3) hb
  · exact h.don a b ha hb h1 h2 e h3
theorem sinv_begin {g : Nat → Nat → Bool} {n s : Nat} (hs : s < n) : SInv g n s (setS (fun _ => false) s) [s] := by
  refine ⟨setS_at _ _, fun j _ h => ?_, fun a ha => ?_, fun a b ha hb h1 h2 _ => ?_⟩
  · simp [setS] at h; subst h; exact .base hs
  · simp at ha; subst ha; exact ⟨hs, setS_at _ _⟩
  · simp [setS] at h1; simp at h2; exact absurd h1 h2
theorem sinv_end {g : Nat → Nat → Bool} {n s : Nat} {S : Nat → Bool} (h : SInv g n s S []) : closedS g n S := fun a b ha hb h1 h2 => h.don a b ha hb h1 (by simp) h2
end Go.Proofs.YtmlhoagcppofgaaDoor
