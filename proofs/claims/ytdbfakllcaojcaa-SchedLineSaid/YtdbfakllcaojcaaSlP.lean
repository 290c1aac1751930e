/- Plain: a line of clamps, and the order in which they are done. -/
import Derived.Test.YtdbfakllcaojcaaOA
import Derived.Test.YtdbfakllcaojcaaGA
namespace Go.Proofs.Ytdbfakllcaojcaa
set_option linter.unusedVariables false

def chNd (i : Nat) : Nd := ⟨9, i, 0, 0, 0, 0, 0, 0, 0, 0, 0, 0, 0, 0, 0, 0, 0, 0, 0, 0, 0, 0, 0, 0, 0, 0⟩
def s211 : Sh := ⟨2, 1, 1⟩
theorem ch_node (a : Nat) : nodeE [] (chNd a) (List.replicate (a + 1) s211) = (0, s211) := by
  have hg : (List.replicate (a + 1) s211).getD (chNd a).a.toNat default = s211 := by simp [chNd, List.getD]
  have i1 : insOk (chNd a) (List.replicate (a + 1) s211).length = true := by simp [insOk, insN, chNd, hB]; omega
  have i2 : idleN (chNd a) = true := by simp [idleN, chNd, hA, hB, hWin, hPad, hZa, hZb, hZo, hM, hN, hL, hW, hI, hC, hS]
  have i3 : ∀ sb, outN (chNd a) s211 sb = (0, s211) := fun sb => by simp [outN, chNd, hWin, hC]
  have i4 : ∀ sb, weightsE [] (chNd a) s211 sb = 0 := fun sb => by simp [weightsE, chNd, hW, hI]
  have i5 : numbersB [] (chNd a) = true := by simp [numbersB, chNd, smallB, hI]
  have i6 : s211.fit = 0 := by decide
  unfold nodeE
  rw [hg, i3, if_neg (by simp [chNd]), if_neg (by rw [i1]; simp), if_neg (by rw [i2]; simp)]
  simp only [i4, i6]
  rw [if_neg (by simp), if_neg (by simp), if_neg (by simp [chNd]), if_neg (by simp), if_neg (by rw [i5]; simp)]
theorem ch_shapes : ∀ (k a : Nat), shapesE [] ((List.range' a k).map chNd) (List.replicate (a + 1) s211) = (0, List.replicate (a + 1 + k) s211)
  | 0, a => rfl
  | k + 1, a => by
    rw [List.range'_succ, List.map_cons, shapesE, ch_node, if_neg (by simp)]
    have e : List.replicate (a + 1) s211 ++ [s211] = List.replicate (a + 1 + 1) s211 := by rw [List.replicate_succ' (n := a + 1)]
    dsimp only
    rw [e, ch_shapes k (a + 1)]
    congr 2
    omega
theorem ch_graph (n : Nat) (o : Nat) (ho : o ≤ n) : graphE ⟨s211, [], (List.range' 0 n).map chNd, (o : Int)⟩ = (0, List.replicate (n + 1) s211) := by
  have h := ch_shapes n 0
  have h2 : shapesE [] ((List.range' 0 n).map chNd) [s211] = (0, List.replicate (n + 1) s211) := by rw [show n + 1 = 0 + 1 + n by omega]; exact h
  unfold graphE
  dsimp only
  rw [if_neg (by decide), h2, if_neg (by simp), if_neg (by simp; omega)]
/-- each of the order stands behind what it reads -/
theorem order_atL {m : Od} (H : m.Ok) : ∀ k, k ≤ m.todo.length → ∀ i v, (m.order k)[i]? = some v → v ∈ m.todo ∧ v ∉ (m.order k).take i ∧ ∀ x ∈ m.rd v, m.free x = true ∨ x ∈ (m.order k).take i
  | 0, _, i, v, h => by simp [Od.order] at h
  | k + 1, hk, i, v, h => by
    obtain ⟨h1, h2, h3⟩ := order_spec H k (by omega)
    obtain ⟨h4, h5⟩ := next_spec H h1 (by omega)
    unfold Od.order at h ⊢
    by_cases hi : i < k
    · rw [List.getElem?_append_left (by omega)] at h
      obtain ⟨a, b, c⟩ := order_atL H k (by omega) i v h
      rw [List.take_append_of_le_length (by omega)]
      exact ⟨a, b, c⟩
    · rw [List.getElem?_append_right (by omega), h2] at h
      have hik : i = k := by
        refine Decidable.byContradiction fun e => ?_
        rw [List.getElem?_eq_none (by simp; omega)] at h
        simp at h
      subst hik
      simp at h
      subst h
      rw [List.take_append_of_le_length (by omega), List.take_of_length_le (by omega)]
      refine ⟨h4, can_not h5, fun x hx => ?_⟩
      unfold Od.can at h5
      rw [all_once, Bool.and_eq_true, List.all_eq_true] at h5
      have := h5.2 x hx
      unfold Od.there at this
      simpa using this
/-- in a line each is done behind the one ahead -/
theorem line_order {m : Od} (H : m.Ok) {o : Nat} (ho : o ≤ m.N) (hw : ∀ v, m.want v = true ↔ 1 ≤ v ∧ v ≤ o) (hr : ∀ v, 1 ≤ v → v ≤ o → m.rd v = [v - 1]) (hf : ∀ v, 1 ≤ v → v ≤ o → m.free v = false) :
    m.todo.length = o ∧ ∀ i, i < o → (m.order m.todo.length)[i]? = some (i + 1) := by
  have ht : ∀ v, v ∈ m.todo ↔ 1 ≤ v ∧ v ≤ o := fun v => by rw [todo_mem, hw]; exact ⟨fun h => h.2, fun h => ⟨by omega, h⟩⟩
  have hl : m.todo.length = o := by
    have h1 := sub_len m.todo (List.range' 1 o) todo_nodup (fun v hv => by have := (ht v).1 hv; rw [List.mem_range']; exact ⟨v - 1, by omega, by omega⟩)
    have h2 := sub_len (List.range' 1 o) m.todo (List.nodup_range' ..) (fun v hv => by
      rw [List.mem_range'] at hv
      obtain ⟨i, h1, h2⟩ := hv
      exact (ht v).2 (by omega))
    simp at h1 h2
    omega
  refine ⟨hl, ?_⟩
  obtain ⟨_, h2, _⟩ := order_spec H m.todo.length (Nat.le_refl _)
  intro i
  induction i using Nat.strongRecOn with
  | _ i ih =>
    intro hi
    obtain ⟨x, hx⟩ : ∃ x, (m.order m.todo.length)[i]? = some x := ⟨_, List.getElem?_eq_getElem (by omega)⟩
    obtain ⟨h4, h5, h6⟩ := order_atL H m.todo.length (Nat.le_refl _) i x hx
    obtain ⟨x1, x2⟩ := (ht x).1 h4
    have hin : ∀ y, y ∈ (m.order m.todo.length).take i ↔ 1 ≤ y ∧ y ≤ i := by
      intro y
      rw [List.mem_take_iff_getElem]
      constructor
      · rintro ⟨j, hj, rfl⟩
        have hj2 : j < i := by omega
        have := ih j hj2 (by omega)
        rw [List.getElem?_eq_getElem (by omega)] at this
        have := Option.some.inj this
        omega
      · rintro ⟨y1, y2⟩
        have := ih (y - 1) (by omega) (by omega)
        rw [List.getElem?_eq_getElem (by omega)] at this
        exact ⟨y - 1, by omega, by have := Option.some.inj this; omega⟩
    have h7 : ¬ (1 ≤ x ∧ x ≤ i) := fun h => h5 ((hin x).2 h)
    have h8 := h6 (x - 1) (by rw [hr x x1 x2]; simp)
    have : x = i + 1 := by
      rcases h8 with h8 | h8
      · by_cases e : x - 1 = 0
        · omega
        · rw [hf (x - 1) (by omega) (by omega)] at h8; simp at h8
      · have := (hin (x - 1)).1 h8; omega
    rw [hx, this]
end Go.Proofs.Ytdbfakllcaojcaa
