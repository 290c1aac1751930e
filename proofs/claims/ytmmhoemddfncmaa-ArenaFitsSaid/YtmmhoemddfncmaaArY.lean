/- Plain mathematics of the document's Fit. -/
import Derived.Test.YtmmhoemddfncmaaArX
namespace Go.Proofs.Ytmmhoemddfncmaa
open Go Go.RowKit
set_option linter.unusedVariables false

theorem roomsR_good {l : List Q3} (hl : AllQ l) {A : List Int} {i : Int} (hA : ∀ j : Nat, j < l.length → -1 ≤ wA A (j : Int) ∧ wA A (j : Int) ≤ 1000000000) : GoodR (roomsR l A i) ∧ ∀ r ∈ roomsR l A i, r.1 ≤ 1000000000 ∧ r.2 ≤ 1002000000 := by
  have key : ∀ r ∈ roomsR l A i, 0 ≤ r.1 ∧ r.1 < r.2 ∧ r.1 ≤ 1000000000 ∧ r.2 ≤ 1002000000 := by
    intro r hr
    unfold roomsR at hr
    obtain ⟨k, hk, rfl⟩ := List.mem_map.mp hr
    obtain ⟨h1, h2⟩ := List.mem_filter.mp hk
    obtain ⟨k0, k1⟩ := rangeI_mem.1 h1
    simp only [Bool.and_eq_true, decide_eq_true_eq] at h2
    have h4 := hA k.toNat (by omega)
    rw [show ((k.toNat : Nat) : Int) = k by omega] at h4
    have := ok_up (hl k k0 k1)
    simp only
    omega
  exact ⟨fun r hr => ⟨(key r hr).1, (key r hr).2.1⟩, fun r hr => ⟨(key r hr).2.2.1, (key r hr).2.2.2⟩⟩
theorem gaps_bd {l : List Q3} (hl : AllQ l) {A : List Int} {i : Int} (hA : ∀ j : Nat, j < l.length → -1 ≤ wA A (j : Int) ∧ wA A (j : Int) ≤ 1000000000) : ∀ g ∈ gapsR (roomsR l A i), 0 ≤ g.1 ∧ g.1 ≤ 1002000000 ∧ -1 ≤ g.2 ∧ g.2 ≤ 1000000000 := by
  obtain ⟨hg, hb⟩ := roomsR_good (i := i) hl hA
  rintro ⟨e, t⟩ h
  have edge : ∀ {e : Int}, Edge (roomsR l A i) e → 0 ≤ e ∧ e ≤ 1002000000 := by
    rintro e ⟨rfl | ⟨r, hr, rfl⟩, _⟩
    · omega
    · have := hg r hr
      have := hb r hr
      omega
  rcases (gapsR_mem hg).1 h with h2 | ⟨h2, h3⟩
  · have := edge h2.1
    obtain ⟨r, hr, rfl⟩ := h2.2.2.1
    have a := hg r hr
    have c := hb r hr
    simp only
    omega
  · have := edge h2.1
    simp only
    omega
theorem gaps_len (l : List Q3) (A : List Int) (i : Int) : (gapsR (roomsR l A i)).length ≤ l.length + 1 := by
  unfold gapsR
  rw [List.length_map]
  refine Nat.le_trans (List.length_filter_le _ _) ?_
  rw [List.length_cons, List.length_map]
  unfold roomsR
  rw [List.length_map]
  have := List.length_filter_le (fun k => decide (0 ≤ wA A k) && meetQ (qAt l i) (qAt l k)) (rangeI l.length)
  have e : (rangeI l.length).length = l.length := by simp [rangeI]
  omega
theorem both_bd {l : List Q3} (hl : AllQ l) (hn : l.length ≤ 100) {P : List Int} {S : FitS} {s : List Int × Int} (h : Both l P S s) (hP : P.length ≤ 100) (hs : S.2.1 ≤ 104857900) : ∀ j : Nat, j < l.length → -1 ≤ wA s.1 (j : Int) ∧ wA s.1 (j : Int) ≤ 1000000000 := by
  intro j hj
  by_cases hp : (j : Int) ∈ P
  · have a := h.yes _ hp
    have b := h.inv.bd _ hp
    have c := ok_up (hl (j : Int) (by omega) (by omega))
    omega
  · have a := h.no (j : Int) (by omega) (by omega) hp
    omega
theorem both_end {l : List Q3} {s : List Int × Int} (h : Both l (orderC l) (fitP l) s) : s.1 = (fitP l).1 ∧ s.2 = (fitP l).2.1 := by
  refine ⟨?_, h.all⟩
  apply List.ext_getElem
  · rw [h.len, h.inv.len]
  · intro k h1 h2
    have hk : (k : Int) ∈ orderC l := order_mem.2 ⟨by omega, by rw [h.len] at h1; omega⟩
    have a := h.yes _ hk
    unfold wA at a
    rw [List.getD_eq_getElem?_getD, List.getD_eq_getElem?_getD, List.getElem?_eq_getElem (by simpa using h1), List.getElem?_eq_getElem (by simpa using h2)] at a
    simpa using a
theorem both_next {l : List Q3} {k : Nat} {i : Int} {S : FitS} {s : List Int × Int} (h : Both l ((orderC l).take k) S s) (hi : (orderC l)[k]? = some i) : nextR l s.1 = i ∧ i ∉ (orderC l).take k := by
  have hk : k < (orderC l).length := by
    rcases Nat.lt_or_ge k (orderC l).length with g | g
    · exact g
    · rw [List.getElem?_eq_none g] at hi; cases hi
  have e : (orderC l).take k ++ i :: (orderC l).drop (k + 1) = orderC l := by
    rw [List.getElem?_eq_getElem hk] at hi
    rw [← Option.some.inj hi, ← List.drop_eq_getElem_cons hk, List.take_append_drop]
  have hnot : i ∉ (orderC l).take k := by
    intro hp
    have hn := order_nodup l
    rw [← e] at hn
    exact (List.nodup_append.mp hn).2.2 i hp i (by simp) rfl
  refine ⟨next_is (Q := (orderC l).drop (k + 1)) h (by rw [e]; exact (order_spec l).2) (fun j => by rw [e]; exact order_mem) hnot, hnot⟩
theorem both_done {l : List Q3} {S : FitS} {s : List Int × Int} (h : Both l (orderC l) S s) : nextR l s.1 = -1 := next_none h (fun k => order_mem)
theorem place_bd {l : List Q3} (hl : AllQ l) {P : List Int} {S : FitS} (h : InvP l P S) {i : Int} (h0 : 0 ≤ i) (h1 : i < l.length) : 0 ≤ placeP l S i ∧ placeP l S i ≤ S.2.1 := by
  have hb := place_best hl h h0 h1
  have hg := rooms_good hl h i
  exact ⟨hb.nonneg hg, (hb.top hg h.all0 (fun r hr => by
    unfold roomsP at hr
    rw [h.laid] at hr
    obtain ⟨k, hk, rfl⟩ := List.mem_map.mp hr
    exact (h.bd k (List.mem_filter.mp hk).1).2.2)).1⟩
def pickB (s : Int × Int) : Prop := (s.1 = -1 ∨ (0 ≤ s.1 ∧ s.1 ≤ 1002000000)) ∧ -2000000000 ≤ s.2 ∧ s.2 ≤ 2000000000
theorem pick_bd {size : Int} {s : Int × Int} {g : Rm} (h : pickB s) (hg : 0 ≤ g.1 ∧ g.1 ≤ 1002000000 ∧ -1 ≤ g.2 ∧ g.2 ≤ 1000000000) : pickB (pickT size s g) := by
  obtain ⟨h1, h2, h3⟩ := h
  unfold pickB pickT
  split
  · exact ⟨h1, h2, h3⟩
  · split
    · simp only; omega
    · exact ⟨h1, h2, h3⟩
theorem pickE_next {G : List Rm} {m : Nat} {g : Rm} {b : Int} (h : G[m]? = some g) (hb : b < 0) : pickE (G.drop m) b = pickE (G.drop (m + 1)) (if g.2 < 0 then g.1 else b) := by
  have hm : m < G.length := by
    rcases Nat.lt_or_ge m G.length with h' | h'
    · exact h'
    · rw [List.getElem?_eq_none h'] at h; cases h
  rw [List.getElem?_eq_getElem hm] at h
  rw [List.drop_eq_getElem_cons hm, Option.some.inj h, pickE, if_pos hb]
theorem pickE_stop {G : List Rm} {m : Nat} {b : Int} (h : G.length ≤ m) : pickE (G.drop m) b = b := by
  rw [List.drop_eq_nil_of_le h]
  rfl
end Go.Proofs.Ytmmhoemddfncmaa
