/- CRC: bytes that are changed one by one, up to four in a row: mathematics alone. -/
import Derived.Test.YtnhopdimhppnmaaPlainL
namespace Go.Proofs.Ytnhopdimhppnmaa
open Go Pl
set_option linter.unusedVariables false

/-- t, with i bytes from place k on changed by bs -/
def chg (t : List Nat) (k : Nat) (bs : List Nat) (i : Nat) : List Nat :=
  (List.range t.length).map fun m => if k ≤ m ∧ m < k + i then (t.getD m 0 + bs.getD (m - k) 0) % 256 else t.getD m 0
theorem chg_length (t : List Nat) (k : Nat) (bs : List Nat) (i : Nat) : (chg t k bs i).length = t.length := by simp [chg]
theorem chg_at {t : List Nat} {k : Nat} {bs : List Nat} {i m : Nat} (h : m < t.length) :
    (chg t k bs i)[m]? = some (if k ≤ m ∧ m < k + i then (t.getD m 0 + bs.getD (m - k) 0) % 256 else t.getD m 0) := by simp [chg, h]
theorem getD_at {t : List Nat} {m : Nat} (h : m < t.length) : t[m]? = some (t.getD m 0) := by simp [List.getD, h]
theorem chg_zero (t : List Nat) (k : Nat) (bs : List Nat) : chg t k bs 0 = t := by
  apply List.ext_getElem?
  intro m
  by_cases h : m < t.length
  · rw [chg_at h, getD_at h, if_neg (by omega)]
  · rw [List.getElem?_eq_none (by rw [chg_length]; omega), List.getElem?_eq_none (by omega)]
theorem chg_next {t : List Nat} {k : Nat} {bs : List Nat} {i : Nat} (h : k + i < t.length) :
    (chg t k bs i).set (k + i) ((t.getD (k + i) 0 + bs.getD i 0) % 256) = chg t k bs (i + 1) := by
  apply List.ext_getElem?
  intro m
  by_cases hm : m < t.length
  · rw [List.getElem?_set, chg_at hm, chg_at hm, chg_length]
    by_cases e : k + i = m
    · subst e
      rw [if_pos rfl, if_pos hm, if_pos (by omega), show k + i - k = i by omega]
    · rw [if_neg e]
      by_cases g : k ≤ m ∧ m < k + i
      · rw [if_pos g, if_pos (by omega)]
      · rw [if_neg g, if_neg (by omega)]
  · rw [List.getElem?_eq_none (by simp [chg_length]; omega), List.getElem?_eq_none (by rw [chg_length]; omega)]
theorem chg_old {t : List Nat} {k : Nat} {bs : List Nat} {i : Nat} (h : k + i < t.length) : (chg t k bs i).getD (k + i) 0 = t.getD (k + i) 0 := by
  rw [List.getD, chg_at h, if_neg (by omega), Option.getD_some]
theorem chg_256 {t : List Nat} {k : Nat} {bs : List Nat} {i : Nat} (h : ∀ x ∈ t, x < 256) : ∀ x ∈ chg t k bs i, x < 256 := by
  intro x hx
  obtain ⟨m, hm, rfl⟩ := List.mem_map.1 hx
  have hm' : m < t.length := by simpa using hm
  split
  · omega
  · apply h
    simp only [List.getD, List.getElem?_eq_getElem hm', Option.getD_some]
    exact List.getElem_mem _
/-- a further byte is changed just where its number is not 0 -/
theorem chg_same {t : List Nat} {k : Nat} {bs : List Nat} {i : Nat} (h : k + i < t.length) (ht : ∀ x ∈ t, x < 256) (hb : bs.getD i 0 < 256) :
    (chg t k bs (i + 1) = t) ↔ (chg t k bs i = t ∧ bs.getD i 0 = 0) := by
  have hx : t.getD (k + i) 0 < 256 := by
    apply ht
    simp only [List.getD, List.getElem?_eq_getElem h, Option.getD_some]
    exact List.getElem_mem _
  constructor
  · intro e
    have at1 : ∀ m, m < t.length → (if k ≤ m ∧ m < k + (i + 1) then (t.getD m 0 + bs.getD (m - k) 0) % 256 else t.getD m 0) = t.getD m 0 := by
      intro m hm
      have := chg_at (k := k) (bs := bs) (i := i + 1) hm
      rw [e, getD_at hm] at this
      exact (Option.some.inj this).symm
    constructor
    · apply List.ext_getElem?
      intro m
      by_cases hm : m < t.length
      · rw [chg_at hm, getD_at hm]
        have := at1 m hm
        by_cases g : k ≤ m ∧ m < k + i
        · rw [if_pos g]; rw [if_pos (by omega)] at this; rw [this]
        · rw [if_neg g]
      · rw [List.getElem?_eq_none (by rw [chg_length]; omega), List.getElem?_eq_none (by omega)]
    · have := at1 (k + i) h
      rw [if_pos (by omega), show k + i - k = i by omega] at this
      omega
  · rintro ⟨e, e0⟩
    rw [← chg_next h, e, e0, Nat.add_zero, Nat.mod_eq_of_lt hx]
    apply List.ext_getElem?
    intro m
    rw [List.getElem?_set]
    by_cases g : k + i = m
    · subst g; rw [if_pos rfl, if_pos h, getD_at h]
    · rw [if_neg g]
/-- P8.3 -/
theorem chg_sum {t : List Nat} {k : Nat} {bs : List Nat} {i : Nat} (ht : ∀ x ∈ t, x < 256) (hi : i ≤ 4) : crcS 0 t = crcS 0 (chg t k bs i) ↔ chg t k bs i = t := by
  constructor
  · intro h
    have hc := chg_256 (k := k) (bs := bs) (i := i) ht
    have e1 : t.take k = (chg t k bs i).take k := by
      apply List.ext_getElem?
      intro m
      simp only [List.getElem?_take]
      split
      · by_cases hm : m < t.length
        · rw [chg_at hm, getD_at hm, if_neg (by omega)]
        · rw [List.getElem?_eq_none (by omega), List.getElem?_eq_none (by rw [chg_length]; omega)]
      · rfl
    have e2 : t.drop (k + 4) = (chg t k bs i).drop (k + 4) := by
      apply List.ext_getElem?
      intro m
      simp only [List.getElem?_drop]
      by_cases hm : k + 4 + m < t.length
      · rw [chg_at hm, getD_at hm, if_neg (by omega)]
      · rw [List.getElem?_eq_none (by omega), List.getElem?_eq_none (by rw [chg_length]; omega)]
    have s : ∀ l : List Nat, l = l.take k ++ (l.drop k).take 4 ++ l.drop (k + 4) := by
      intro l
      rw [List.append_assoc, ← List.drop_drop, List.take_append_drop, List.take_append_drop]
    have a1 : crcS 0 (t.take k ++ (t.drop k).take 4 ++ t.drop (k + 4)) = crcS 0 (t.take k ++ ((chg t k bs i).drop k).take 4 ++ t.drop (k + 4)) := by
      rw [← s t]
      conv => rhs; rw [e1, e2, ← s (chg t k bs i)]
      exact h
    have q := crc_four (fun x hx => ht x (List.mem_of_mem_take hx)) (fun x hx => ht x (List.mem_of_mem_drop (List.mem_of_mem_take hx)))
      (fun x hx => hc x (List.mem_of_mem_drop (List.mem_of_mem_take hx))) (fun x hx => ht x (List.mem_of_mem_drop hx)) (by simp [chg_length]) (by simp; omega) a1
    exact (s (chg t k bs i)).trans (by rw [← e1, ← e2, ← q]; exact (s t).symm)
  · intro h; rw [h]
end Go.Proofs.Ytnhopdimhppnmaa
