/- Where items lie, and which branches are far: the mathematics. -/
namespace Go.Proofs.YtipecnofjdhobaaDoor
set_option linter.unusedVariables false

/-- where the first i of these lengths end -/
def plR (s : Nat → Int) : Nat → Int
  | 0 => 0
  | i + 1 => plR s i + s i
/-- the length of an item, where these branches are far -/
def szR (s : Nat → Int) (F : Nat → Bool) (i : Nat) : Int := if F i then 8 else s i
def nearR (d : Int) : Bool := decide (-4096 ≤ d) && decide (d ≤ 4094)
/-- what is known of items: how long they are, which are branches, and where the labels stand -/
structure RxI where
  n : Nat
  s : Nat → Int
  br : Nat → Bool
  to : Nat → Nat
structure RxI.ok (m : RxI) : Prop where
  s0 : ∀ i, 0 ≤ m.s i ∧ m.s i ≤ 8
  b4 : ∀ i, m.br i = true → m.s i = 4
  t : ∀ i, i < m.n → m.br i = true → m.to i < m.n
def RxI.pl (m : RxI) (F : Nat → Bool) (i : Nat) : Int := plR (szR m.s F) i
/-- a branch that is not far doesn't reach -/
def RxI.new (m : RxI) (F : Nat → Bool) (i : Nat) : Bool := m.br i && !F i && !nearR (m.pl F (m.to i) - m.pl F i)
def RxI.pass (m : RxI) (F : Nat → Bool) (i : Nat) : Bool := F i || (decide (i < m.n) && m.new F i)
variable {m : RxI}
theorem plR_mono {s : Nat → Int} (h : ∀ i, 0 ≤ s i) : ∀ {i j : Nat}, i ≤ j → plR s i ≤ plR s j
  | i, 0, hj => by
    obtain rfl : i = 0 := by omega
    exact Int.le_refl _
  | i, j + 1, hj => by
    by_cases e : i = j + 1
    · subst e; exact Int.le_refl _
    · have := plR_mono h (i := i) (j := j) (by omega)
      have := h j
      show _ ≤ plR s j + s j
      omega
theorem plR_le {s t : Nat → Int} (h : ∀ i, s i ≤ t i) : ∀ {i j : Nat}, i ≤ j → plR s j - plR s i ≤ plR t j - plR t i
  | i, 0, hj => by
    obtain rfl : i = 0 := by omega
    omega
  | i, j + 1, hj => by
    by_cases e : i = j + 1
    · subst e; omega
    · have := plR_le h (i := i) (j := j) (by omega)
      have := h j
      show plR s j + s j - _ ≤ plR t j + t j - _
      omega
theorem plR_bd {s : Nat → Int} (h : ∀ i, 0 ≤ s i ∧ s i ≤ 8) : ∀ i, 0 ≤ plR s i ∧ plR s i ≤ 8 * (i : Int)
  | 0 => by simp [plR]
  | i + 1 => by
    have := plR_bd h i
    have := h i
    show 0 ≤ plR s i + s i ∧ plR s i + s i ≤ _
    omega
theorem szR_bd (hm : m.ok) (F : Nat → Bool) (i : Nat) : 0 ≤ szR m.s F i ∧ szR m.s F i ≤ 8 := by
  unfold szR
  have := hm.s0 i
  split <;> omega
theorem pl_bd (hm : m.ok) (F : Nat → Bool) (i : Nat) : 0 ≤ m.pl F i ∧ m.pl F i ≤ 8 * (i : Int) := plR_bd (szR_bd hm F) i
/-- with fewer far branches nothing lies farther off -/
theorem near_down (hm : m.ok) {F G : Nat → Bool} (h : ∀ i, F i = true → G i = true) {t i : Nat} (hn : nearR (m.pl G t - m.pl G i) = true) : nearR (m.pl F t - m.pl F i) = true := by
  have hs : ∀ j, szR m.s F j ≤ szR m.s G j := fun j => by
    have := hm.s0 j
    unfold szR
    cases hF : F j with
    | true => rw [h j hF]; exact Int.le_refl _
    | false => simp only [Bool.false_eq_true, if_false]; split <;> omega
  have h0 : ∀ (H : Nat → Bool) j, 0 ≤ szR m.s H j := fun H j => (szR_bd hm H j).1
  unfold nearR at hn ⊢
  simp only [Bool.and_eq_true, decide_eq_true_eq] at hn ⊢
  unfold RxI.pl at hn ⊢
  by_cases e : i ≤ t
  · have h1 := plR_le hs e
    have h2 := plR_mono (h0 F) e
    omega
  · have h1 := plR_le hs (i := t) (j := i) (by omega)
    have h2 := plR_mono (h0 F) (i := t) (j := i) (by omega)
    omega
/-- branches that may be far, so that all others reach -/
def RxI.closed (m : RxI) (G : Nat → Bool) : Prop := ∀ i, i < m.n → m.br i = true → G i = false → nearR (m.pl G (m.to i) - m.pl G i) = true
theorem pass_least (hm : m.ok) {F G : Nat → Bool} (hG : m.closed G) (h : ∀ i, F i = true → G i = true) : ∀ i, m.pass F i = true → G i = true := by
  intro i hi
  unfold RxI.pass RxI.new at hi
  cases hF : F i with
  | true => exact h i hF
  | false =>
    rw [hF] at hi
    simp only [Bool.false_or, Bool.and_eq_true, decide_eq_true_eq, Bool.not_eq_true', Bool.not_false, and_true] at hi
    obtain ⟨h1, h2, h3⟩ := hi
    cases hGi : G i with
    | true => rfl
    | false =>
      have := near_down hm h (hG i h1 h2 hGi)
      rw [h3] at this
      cases this
/-- how many branches are not far yet -/
def RxI.left (m : RxI) (F : Nat → Bool) : Nat → Nat
  | 0 => 0
  | k + 1 => m.left F k + (if m.br k && !F k then 1 else 0)
theorem left_le {F G : Nat → Bool} (h : ∀ i, F i = true → G i = true) : ∀ k, m.left G k ≤ m.left F k
  | 0 => Nat.le_refl _
  | k + 1 => by
    have := left_le h k
    unfold RxI.left
    cases hF : F k with
    | true => rw [h k hF]; simp; omega
    | false => cases m.br k <;> cases G k <;> simp <;> omega
theorem left_lt {F G : Nat → Bool} (h : ∀ i, F i = true → G i = true) {i : Nat} (hb : m.br i = true) (hF : F i = false) (hG : G i = true) : ∀ k, i < k → m.left G k < m.left F k
  | 0, hk => by omega
  | k + 1, hk => by
    by_cases e : i = k
    · subst e
      have := left_le (m := m) h i
      unfold RxI.left
      rw [hb, hF, hG]
      simp
      omega
    · have := left_lt h hb hF hG k (by omega)
      unfold RxI.left
      cases hF2 : F k with
      | true => rw [h k hF2]; simp; omega
      | false => cases m.br k <;> cases G k <;> simp <;> omega
theorem left_bd (F : Nat → Bool) : ∀ k, m.left F k ≤ k
  | 0 => Nat.le_refl _
  | k + 1 => by have := left_bd F k; unfold RxI.left; split <;> omega
end Go.Proofs.YtipecnofjdhobaaDoor
