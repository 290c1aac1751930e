/- Plain: a buffer's owners, one after another (LiveOver's mathematics). -/
import Derived.Test.YtmifojpmomdmeaaLvC
namespace Go.Proofs.Ytmifojpmomdmeaa
set_option linter.unusedVariables false
variable {m : Lv}
theorem freeK_val : ∀ k, k ≤ m.L.length → ∀ x e, m.freeK k x = some e → (∃ j, j < k ∧ x = m.L.getD j 0) ∧ ∃ j, j < k ∧ e = m.L.getD j 0
  | 0, _, x, e, h => by simp [Lv.freeK] at h
  | k + 1, hk, x, e, h => by
    have ih := freeK_val k (by omega)
    rw [show m.freeK (k + 1) = m.free k (m.freeK k) from rfl] at h
    cases ht : m.takesO k (m.freeK k) with
    | none =>
      rw [free_none ht rfl] at h
      by_cases hx : x = m.L.getD k 0
      · simp only [if_pos hx] at h; cases h
        exact ⟨⟨k, by omega, hx⟩, ⟨k, by omega, rfl⟩⟩
      · simp only [if_neg hx] at h
        obtain ⟨⟨j, h1, h2⟩, ⟨i, h3, h4⟩⟩ := ih x e h
        exact ⟨⟨j, by omega, h2⟩, ⟨i, by omega, h4⟩⟩
    | some r =>
      obtain ⟨_, _, _, ⟨b, hb⟩, _⟩ := takes_spec ht
      rw [free_some ht hb rfl] at h
      by_cases hx : x = m.L.getD k 0
      · simp only [if_pos hx] at h; cases h
        obtain ⟨_, ⟨i, h3, h4⟩⟩ := ih r _ hb
        exact ⟨⟨k, by omega, hx⟩, ⟨i, by omega, h4⟩⟩
      · simp only [if_neg hx] at h
        split at h
        · cases h
        · obtain ⟨⟨j, h1, h2⟩, ⟨i, h3, h4⟩⟩ := ih x e h
          exact ⟨⟨j, by omega, h2⟩, ⟨i, by omega, h4⟩⟩
theorem L_inj (hn : m.L.Nodup) {i j : Nat} (hi : i < m.L.length) (hj : j < m.L.length) (h : m.L.getD i 0 = m.L.getD j 0) : i = j := by
  refine (List.getElem?_inj hi hn).1 ?_
  rw [List.getD, List.getD, List.getElem?_eq_getElem hi, List.getElem?_eq_getElem hj] at h
  rw [List.getElem?_eq_getElem hi, List.getElem?_eq_getElem hj]
  exact congrArg some h
def bufK (m : Lv) (j : Nat) : Nat := m.buf j (m.freeK j)
theorem own_chain (hn : m.L.Nodup) (hs : ∀ i r, i < m.L.length → m.tk (m.L.getD i 0) = true → r ∈ m.ins (m.L.getD i 0) → m.sz r = m.sz (m.L.getD i 0)) : ∀ i, i ≤ m.L.length →
    (∀ x y b, m.freeK i x = some b → m.freeK i y = some b → x = y) ∧
    ∀ j, j < i → ∃ q, j ≤ q ∧ q < i ∧ m.freeK i (m.L.getD q 0) = some (bufK m j) ∧ (j = q ∨ m.to j ≤ (q : Int)) ∧ m.sz (m.L.getD j 0) = m.sz (m.L.getD q 0)
  | 0, _ => ⟨fun x y b h => by simp [Lv.freeK] at h, fun j h => by omega⟩
  | i + 1, hi => by
    obtain ⟨h1, h2⟩ := own_chain hn hs i (by omega)
    have hv := freeK_val (m := m) i (by omega)
    have hne : ∀ q, q < i → m.L.getD q 0 ≠ m.L.getD i 0 := fun q hq e => by have := L_inj hn (by omega) (by omega) e; omega
    have hE : m.freeK (i + 1) = m.free i (m.freeK i) := rfl
    cases ht : m.takesO i (m.freeK i) with
    | none =>
      have hB : bufK m i = m.L.getD i 0 := buf_none ht
      rw [hE, free_none ht rfl]
      refine ⟨fun x y b hx hy => ?_, fun j hj => ?_⟩
      · by_cases ex : x = m.L.getD i 0
        · by_cases ey : y = m.L.getD i 0
          · rw [ex, ey]
          · simp only [if_pos ex] at hx; simp only [if_neg ey] at hy; cases hx
            obtain ⟨_, q, hq, e⟩ := hv y _ hy
            exact absurd e.symm (hne q hq)
        · by_cases ey : y = m.L.getD i 0
          · simp only [if_neg ex] at hx; simp only [if_pos ey] at hy; cases hy
            obtain ⟨_, q, hq, e⟩ := hv x _ hx
            exact absurd e.symm (hne q hq)
          · simp only [if_neg ex] at hx; simp only [if_neg ey] at hy
            exact h1 x y b hx hy
      · by_cases e : j = i
        · subst e
          exact ⟨j, Nat.le_refl _, by omega, by simp only [if_pos]; rw [hB], .inl rfl, rfl⟩
        · obtain ⟨q, a1, a2, a3, a4, a5⟩ := h2 j (by omega)
          exact ⟨q, a1, by omega, by simp only [if_neg (hne q a2)]; exact a3, a4, a5⟩
    | some r =>
      obtain ⟨_, htk, hri, ⟨b, hb⟩, hro, hrl⟩ := takes_spec ht
      have hB : bufK m i = b := buf_some ht hb
      rw [hE, free_some ht hb rfl]
      refine ⟨fun x y c hx hy => ?_, fun j hj => ?_⟩
      · by_cases ex : x = m.L.getD i 0
        · by_cases ey : y = m.L.getD i 0
          · rw [ex, ey]
          · simp only [if_pos ex] at hx; simp only [if_neg ey] at hy; cases hx
            split at hy
            · cases hy
            · next hh => exact absurd (h1 y r _ hy hb) hh
        · by_cases ey : y = m.L.getD i 0
          · simp only [if_neg ex] at hx; simp only [if_pos ey] at hy; cases hy
            split at hx
            · cases hx
            · next hh => exact absurd (h1 x r _ hx hb) hh
          · simp only [if_neg ex] at hx; simp only [if_neg ey] at hy
            split at hx
            · cases hx
            · split at hy
              · cases hy
              · exact h1 x y c hx hy
      · by_cases e : j = i
        · subst e
          exact ⟨j, Nat.le_refl _, by omega, by simp only [if_pos]; rw [hB], .inl rfl, rfl⟩
        · obtain ⟨q, a1, a2, a3, a4, a5⟩ := h2 j (by omega)
          by_cases hq : m.L.getD q 0 = r
          · rw [hq, hb] at a3
            refine ⟨i, by omega, by omega, by simp only [if_pos]; exact a3, .inr ?_, ?_⟩
            · rcases a4 with a4 | a4
              · subst a4
                unfold Lv.to
                rw [hq, if_neg hro, hrl]
                omega
              · omega
            · rw [a5, hq]; exact hs i r (by omega) htk hri
          · exact ⟨q, a1, by omega, by simp only [if_neg (hne q a2), if_neg hq]; exact a3, a4, a5⟩
/-- what lies in one buffer is of one size, and the later one begins no sooner than the earlier one ends -/
theorem over_core (hn : m.L.Nodup) (hs : ∀ i r, i < m.L.length → m.tk (m.L.getD i 0) = true → r ∈ m.ins (m.L.getD i 0) → m.sz r = m.sz (m.L.getD i 0)) {i k : Nat} (hi : i < m.L.length) (hk : k < i) (h : bufK m i = bufK m k) :
    m.to k ≤ (i : Int) ∧ m.sz (m.L.getD i 0) = m.sz (m.L.getD k 0) := by
  obtain ⟨h1, h2⟩ := own_chain hn hs (i + 1) (by omega)
  obtain ⟨q, a1, a2, a3, a4, a5⟩ := h2 k (by omega)
  obtain ⟨p, b1, b2, b3, _⟩ := h2 i (by omega)
  obtain rfl : p = i := by omega
  rw [h] at b3
  obtain rfl := L_inj hn (by omega) (by omega) (h1 _ _ _ a3 b3)
  exact ⟨by rcases a4 with a4 | a4 <;> omega, a5.symm⟩
end Go.Proofs.Ytmifojpmomdmeaa
