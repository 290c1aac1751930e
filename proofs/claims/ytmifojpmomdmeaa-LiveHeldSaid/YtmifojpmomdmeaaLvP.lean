/- Plain: how long values are held, and whose buffers they take over. -/
namespace Go.Proofs.Ytmifojpmomdmeaa
set_option linter.unusedVariables false

/-- one life: value, buffer, size, from, to -/
structure Lf where
  v : Nat
  b : Nat
  s : Int
  i : Nat
  t : Int
/-- what is asked: the order, what a value reads, its size, whether its node may take over, the output, whether values take over -/
structure Lv where
  L : List Nat
  ins : Nat → List Nat
  sz : Nat → Int
  tk : Nat → Bool
  out : Nat
  over : Bool
variable (m : Lv)
/-- the last place, of the first k, whose node reads r -/
def Lv.lastK (m : Lv) : Nat → Nat → Int
  | 0, _ => -1
  | k + 1, r => if r ∈ m.ins (m.L.getD k 0) then (k : Int) else Lv.lastK m k r
def Lv.last (r : Nat) : Int := m.lastK m.L.length r
def Lv.to (i : Nat) : Int := if m.L.getD i 0 = m.out then (m.L.length : Int) else max (i : Int) (m.last (m.L.getD i 0))
/-- whose buffer is taken over at place i: p tells the buffers that nobody has taken over yet -/
def Lv.can (i : Nat) (p : Nat → Option Nat) (r : Nat) : Bool := (p r).isSome && decide (r ≠ m.out) && decide (m.last r = (i : Int))
def Lv.takes (i : Nat) (p : Nat → Option Nat) : Option Nat := if m.tk (m.L.getD i 0) then (m.ins (m.L.getD i 0)).find? (m.can i p) else none
def Lv.takesO (i : Nat) (p : Nat → Option Nat) : Option Nat := if m.over then m.takes i p else none
def Lv.buf (i : Nat) (p : Nat → Option Nat) : Nat := match m.takesO i p with | some r => (p r).getD 0 | none => m.L.getD i 0
def Lv.free (i : Nat) (p : Nat → Option Nat) : Nat → Option Nat := fun x => if x = m.L.getD i 0 then some (m.buf i p) else if m.takesO i p = some x then none else p x
def Lv.freeK (m : Lv) : Nat → Nat → Option Nat
  | 0 => fun _ => none
  | k + 1 => m.free k (Lv.freeK m k)
def Lv.life (i : Nat) : Lf := ⟨m.L.getD i 0, m.buf i (m.freeK i), m.sz (m.L.getD i 0), i, m.to i⟩
def Lv.lives : List Lf := (List.range m.L.length).map m.life
variable {m : Lv}
theorem lives_len : m.lives.length = m.L.length := by simp [Lv.lives]
theorem lives_at {i : Nat} (h : i < m.L.length) : m.lives[i]? = some (m.life i) := by simp [Lv.lives, h]
theorem lastK_lt : ∀ (k r : Nat), m.lastK k r < (k : Int)
  | 0, r => by simp [Lv.lastK]
  | k + 1, r => by
    have := lastK_lt k r
    unfold Lv.lastK
    split <;> omega
theorem lastK_ge : ∀ (k r : Nat), -1 ≤ m.lastK k r
  | 0, r => by simp [Lv.lastK]
  | k + 1, r => by
    have := lastK_ge k r
    unfold Lv.lastK
    split <;> omega
/-- a place that reads r lies not behind the last one -/
theorem lastK_reads : ∀ (k r j : Nat), j < k → r ∈ m.ins (m.L.getD j 0) → (j : Int) ≤ m.lastK k r
  | 0, r, j, h, _ => by omega
  | k + 1, r, j, h, hr => by
    unfold Lv.lastK
    split
    · omega
    · next hn =>
      by_cases e : j = k
      · subst e; exact absurd hr hn
      · exact lastK_reads k r j (by omega) hr
theorem last_lt (r : Nat) : m.last r < (m.L.length : Int) := lastK_lt _ _
theorem to_ge {i : Nat} (h : i < m.L.length) : (i : Int) ≤ m.to i := by
  unfold Lv.to
  split <;> omega
theorem to_le {i : Nat} (h : i < m.L.length) : m.to i ≤ (m.L.length : Int) := by
  have := last_lt (m := m) (m.L.getD i 0)
  unfold Lv.to
  split <;> omega
theorem to_out {i : Nat} (h : m.L.getD i 0 = m.out) : m.to i = (m.L.length : Int) := by unfold Lv.to; rw [if_pos h]
theorem to_reads {i j : Nat} (h : i < m.L.length) (hj : j < m.L.length) (hr : m.L.getD i 0 ∈ m.ins (m.L.getD j 0)) : (j : Int) ≤ m.to i := by
  have := lastK_reads (m := m) m.L.length (m.L.getD i 0) j hj hr
  unfold Lv.to Lv.last
  split <;> omega
/-- what takes hands over -/
theorem takes_spec {i r : Nat} {p : Nat → Option Nat} (h : m.takesO i p = some r) : m.over = true ∧ m.tk (m.L.getD i 0) = true ∧ r ∈ m.ins (m.L.getD i 0) ∧ (∃ b, p r = some b) ∧ r ≠ m.out ∧ m.last r = (i : Int) := by
  unfold Lv.takesO Lv.takes at h
  split at h
  · next ho =>
    split at h
    · next ht =>
      have h1 := List.find?_some h
      have h2 := List.mem_of_find?_eq_some h
      unfold Lv.can at h1
      simp only [Bool.and_eq_true, decide_eq_true_eq] at h1
      exact ⟨ho, ht, h2, Option.isSome_iff_exists.1 h1.1.1, h1.1.2, h1.2⟩
    · cases h
  · cases h
end Go.Proofs.Ytmifojpmomdmeaa
