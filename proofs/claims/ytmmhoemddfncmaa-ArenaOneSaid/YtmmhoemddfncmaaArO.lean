/- Plain mathematics of ArenaOne: blocks none of which meet, and blocks all of which meet. -/
import Derived.Test.YtmmhoemddfncmaaArR
namespace Go.Proofs.Ytmmhoemddfncmaa
open Go Go.RowKit
set_option linter.unusedVariables false

def szB (z : List Nat) (i : Nat) : Int := 1 + ((z.getD i 0 : Nat) : Int)
def apart1 (z : List Nat) (i : Nat) : Q3 := ⟨szB z i, 2 * (i : Int), 2 * (i : Int) + 1⟩
def alike1 (z : List Nat) (i : Nat) : Q3 := ⟨szB z i, -(i : Int), (i : Int)⟩
def listK (f : Nat → Q3) (k : Nat) : List Q3 := (List.range k).map f
theorem listK_next (f : Nat → Q3) (k : Nat) : listK f (k + 1) = listK f k ++ [f k] := by simp [listK, List.range_succ]
theorem listK_len (f : Nat → Q3) (k : Nat) : (listK f k).length = k := by simp [listK]
theorem listK_at (f : Nat → Q3) {k : Nat} {i : Int} (h0 : 0 ≤ i) (h : i < (listK f k).length) : qAt (listK f k) i = f i.toNat ∧ i.toNat < k := by
  rw [listK_len] at h
  have hk : i.toNat < k := by omega
  refine ⟨?_, hk⟩
  unfold qAt listK
  rw [List.getD_eq_getElem?_getD, List.getElem?_map, List.getElem?_range hk]
  rfl
theorem listK_mem (f : Nat → Q3) {k : Nat} {x : Q3} (h : x ∈ listK f k) : ∃ i, i < k ∧ x = f i := by
  simp only [listK, List.mem_map, List.mem_range] at h
  obtain ⟨i, h, rfl⟩ := h
  exact ⟨i, h, rfl⟩
theorem szB_bd (z : List Nat) (h : ∀ x ∈ z, x < 256) (i : Nat) : 1 ≤ szB z i ∧ szB z i ≤ 256 := by
  unfold szB
  rw [List.getD_eq_getElem?_getD]
  cases hi : z[i]? with
  | none => simp
  | some x =>
    have := h x (List.mem_of_getElem? hi)
    simp; omega
theorem apart_may (z : List Nat) (h : ∀ x ∈ z, x < 256) {k : Nat} (hk : k ≤ 40) : mayL (listK (apart1 z) k) = true := by
  unfold mayL
  rw [listK_len]
  simp only [Bool.and_eq_true, decide_eq_true_eq, List.all_eq_true]
  refine ⟨by omega, fun x hx => ?_⟩
  obtain ⟨i, hi, rfl⟩ := listK_mem _ hx
  have := szB_bd z h i
  unfold okQ apart1
  simp only [decide_eq_true_eq]
  omega
theorem alike_may (z : List Nat) (h : ∀ x ∈ z, x < 256) {k : Nat} (hk : k ≤ 40) : mayL (listK (alike1 z) k) = true := by
  unfold mayL
  rw [listK_len]
  simp only [Bool.and_eq_true, decide_eq_true_eq, List.all_eq_true]
  refine ⟨by omega, fun x hx => ?_⟩
  obtain ⟨i, hi, rfl⟩ := listK_mem _ hx
  have := szB_bd z h i
  unfold okQ alike1
  simp only [decide_eq_true_eq]
  omega
def sumK (z : List Nat) : Nat → Int
  | 0 => 0
  | k + 1 => sumK z k + upI (szB z k)
def mostK (z : List Nat) : Nat → Int
  | 0 => 0
  | k + 1 => if mostK z k < upI (szB z k) then upI (szB z k) else mostK z k
theorem up_bd (z : List Nat) (h : ∀ x ∈ z, x < 256) (i : Nat) : 1 ≤ upI (szB z i) ∧ upI (szB z i) ≤ 260 := by
  have a := szB_bd z h i
  have b := upI_bd a.1
  omega
theorem sumK_bd (z : List Nat) (h : ∀ x ∈ z, x < 256) (k : Nat) : 0 ≤ sumK z k ∧ sumK z k ≤ 260 * k := by
  induction k with
  | zero => simp [sumK]
  | succ k ih =>
    have := up_bd z h k
    rw [sumK]
    push_cast
    omega
theorem mostK_bd (z : List Nat) (h : ∀ x ∈ z, x < 256) (k : Nat) : 0 ≤ mostK z k ∧ mostK z k ≤ 260 := by
  induction k with
  | zero => simp [mostK]
  | succ k ih =>
    have := up_bd z h k
    rw [mostK]
    split <;> omega
theorem sumK_eq (z : List Nat) (k : Nat) : ((listK (alike1 z) k).map fun x => upI x.s).sum = sumK z k := by
  induction k with
  | zero => rfl
  | succ k ih =>
    rw [listK_next, List.map_append, List.sum_append, ih, sumK]
    simp [alike1]
theorem mostK_spec (z : List Nat) (h : ∀ x ∈ z, x < 256) (k : Nat) : (mostK z k = 0 ∨ ∃ x ∈ listK (apart1 z) k, upI x.s = mostK z k) ∧ ∀ x ∈ listK (apart1 z) k, upI x.s ≤ mostK z k := by
  induction k with
  | zero => exact ⟨.inl rfl, fun x hx => by simp [listK] at hx⟩
  | succ k ih =>
    rw [listK_next, mostK]
    have hu : upI (apart1 z k).s = upI (szB z k) := rfl
    split
    · refine ⟨.inr ⟨apart1 z k, by simp, hu⟩, fun x hx => ?_⟩
      rcases List.mem_append.mp hx with hx | hx
      · have := ih.2 x hx; omega
      · obtain rfl : x = apart1 z k := by simpa using hx
        omega
    · refine ⟨?_, fun x hx => ?_⟩
      · rcases ih.1 with h | ⟨x, hx, h⟩
        · exact .inl h
        · exact .inr ⟨x, by simp [hx], h⟩
      · rcases List.mem_append.mp hx with hx | hx
        · exact ih.2 x hx
        · obtain rfl : x = apart1 z k := by simpa using hx
          omega
/-- blocks none of which meet all lie at the beginning -/
theorem one_apart (z : List Nat) (h : ∀ x ∈ z, x < 256) {k : Nat} (hk : k ≤ 40) : (fitP (listK (apart1 z) k)).1 = List.replicate k 0 ∧ (fitP (listK (apart1 z) k)).2.1 = mostK z k := by
  have hl := (may_all (apart_may z h hk)).1
  obtain ⟨h1, h2, h3⟩ := fit_none hl (fun i j hi0 hi hj0 hj hne => by
    obtain ⟨e1, b1⟩ := listK_at (apart1 z) hi0 hi
    obtain ⟨e2, b2⟩ := listK_at (apart1 z) hj0 hj
    rw [e1, e2]
    unfold meetQ apart1
    simp only [decide_eq_false_iff_not]
    omega)
  rw [listK_len] at h1
  refine ⟨h1, ?_⟩
  obtain ⟨g1, g2⟩ := mostK_spec z h k
  have pos := (mostK_bd z h k).1
  rcases h2 with h2 | ⟨x, hx, h2⟩
  · rcases g1 with g1 | ⟨y, hy, g1⟩
    · omega
    · have := h3 y hy
      rw [h2] at this
      omega
  · have a := g2 x hx
    rcases g1 with g1 | ⟨y, hy, g1⟩
    · have := (fit_inv hl).all0
      omega
    · have := h3 y hy
      omega
/-- blocks all of which meet lie one behind the other -/
theorem one_alike (z : List Nat) (h : ∀ x ∈ z, x < 256) {k : Nat} (hk : k ≤ 40) : (fitP (listK (alike1 z) k)).2.1 = sumK z k := by
  have hl := (may_all (alike_may z h hk)).1
  rw [fit_all hl (fun i j hi0 hi hj0 hj => by
    obtain ⟨e1, b1⟩ := listK_at (alike1 z) hi0 hi
    obtain ⟨e2, b2⟩ := listK_at (alike1 z) hj0 hj
    rw [e1, e2]
    unfold meetQ alike1
    simp only [decide_eq_true_eq]
    omega), sumK_eq]
end Go.Proofs.Ytmmhoemddfncmaa
