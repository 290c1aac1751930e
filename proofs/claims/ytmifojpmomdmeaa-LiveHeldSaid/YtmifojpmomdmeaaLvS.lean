/- A takeover's node keeps the size of what it reads (LiveOver's premise). -/
import Derived.Test.YtmifojpmomdmeaaLvQ
namespace Go.Proofs.Ytmifojpmomdmeaa
set_option linter.unusedVariables false
theorem nodeE_out {C : List Cn} {n : Nd} {l : List Sh} (h : (nodeE C n l).1 = 0) : (nodeE C n l).2 = (outN n (l.getD n.a.toNat default) (l.getD n.b.toNat default)).2 ∧ (outN n (l.getD n.a.toNat default) (l.getD n.b.toNat default)).1 = 0 := by
  unfold nodeE at h ⊢
  generalize outN n (l.getD n.a.toNat default) (l.getD n.b.toNat default) = q at h ⊢
  by_cases h1 : n.op < 1 ∨ 14 < n.op
  · rw [if_pos h1] at h; simp at h
  · rw [if_neg h1] at h ⊢
    by_cases h2 : insOk n l.length = false
    · rw [if_pos h2] at h; simp at h
    · rw [if_neg h2] at h ⊢
      by_cases h3 : idleN n = false
      · rw [if_pos h3] at h; simp at h
      · rw [if_neg h3] at h ⊢
        by_cases h4 : q.1 ≠ 0
        · rw [if_pos h4] at h; exact absurd h h4
        · rw [if_neg h4] at h ⊢
          by_cases h5 : q.2.fit ≠ 0
          · rw [if_pos h5] at h; exact absurd h h5
          · rw [if_neg h5] at h ⊢
            by_cases h6 : n.op = 4 ∧ 4096 < (l.getD n.a.toNat default).size
            · rw [if_pos h6] at h; simp at h
            · rw [if_neg h6] at h ⊢
              by_cases h7 : weightsE C n (l.getD n.a.toNat default) q.2 ≠ 0
              · rw [if_pos h7] at h; exact absurd h h7
              · rw [if_neg h7] at h ⊢
                by_cases h8 : numbersB C n = false
                · rw [if_pos h8] at h; simp at h
                · rw [if_neg h8]
                  exact ⟨rfl, by simpa using h4⟩
theorem shapes_step {C : List Cn} : ∀ (ns : List Nd) (l : List Sh), (shapesE C ns l).1 = 0 → (∀ j, j < l.length → (shapesE C ns l).2[j]? = l[j]?) ∧ ∀ (k : Nat) (n : Nd), ns[k]? = some n →
    ∃ p, (nodeE C n p).1 = 0 ∧ p.length = l.length + k ∧ (∀ j, j < l.length + k → (shapesE C ns l).2[j]? = p[j]?) ∧ (shapesE C ns l).2[l.length + k]? = some (nodeE C n p).2
  | [], l, _ => ⟨fun j _ => rfl, fun k n h => by simp at h⟩
  | m :: r, l, h0 => by
    rw [shapesE] at h0 ⊢
    by_cases e : (nodeE C m l).1 ≠ 0
    · rw [if_pos e] at h0; exact absurd h0 e
    · rw [if_neg e] at h0 ⊢
      obtain ⟨h1, h2⟩ := shapes_step r _ h0
      have hlen : (l ++ [(nodeE C m l).2]).length = l.length + 1 := by simp
      have hpre : ∀ j, j < l.length → (shapesE C r (l ++ [(nodeE C m l).2])).2[j]? = l[j]? := fun j hj => by
        rw [h1 j (by omega), List.getElem?_append_left hj]
      refine ⟨hpre, fun k n hn => ?_⟩
      cases k with
      | zero =>
        obtain rfl : m = n := by simpa using hn
        refine ⟨l, by simpa using e, rfl, hpre, ?_⟩
        rw [Nat.add_zero, h1 _ (by omega), List.getElem?_append_right (Nat.le_refl _)]
        simp
      | succ k =>
        obtain ⟨p, a1, a2, a3, a4⟩ := h2 k n (by simpa using hn)
        rw [hlen] at a2 a3 a4
        exact ⟨p, a1, by omega, fun j hj => a3 j (by omega), by rw [show l.length + (k + 1) = l.length + 1 + k by omega]; exact a4⟩
theorem out_size {n : Nd} {a b : Sh} (h : (outN n a b).1 = 0) (ho : n.op = 9 ∨ n.op = 11 ∨ n.op = 7 ∨ n.op = 8) : (outN n a b).2.size = a.size ∧ (n.op = 7 ∨ n.op = 8 → a = b) := by
  unfold outN at h ⊢
  rcases ho with e | e | e | e <;> simp only [e] at h ⊢ <;> (try simp [hWin, hC] at h ⊢)
  · split at h
    · split at h
      · assumption
      · cases h
    · contradiction
  · exact h
  · exact h
theorem graph_step {g : Gr} (h : (graphE g).1 = 0) {k : Nat} {n : Nd} (hn : g.ns[k]? = some n) :
    ∃ p, (nodeE g.C n p).1 = 0 ∧ p.length = k + 1 ∧ (∀ j, j < k + 1 → (graphE g).2[j]? = p[j]?) ∧ (graphE g).2[k + 1]? = some (nodeE g.C n p).2 := by
  unfold graphE at h ⊢
  by_cases h1 : g.inp.fit ≠ 0
  · rw [if_pos h1] at h; exact absurd h h1
  · rw [if_neg h1] at h ⊢
    by_cases h2 : (shapesE g.C g.ns [g.inp]).1 ≠ 0
    · rw [if_pos h2] at h; exact absurd h h2
    · rw [if_neg h2] at h ⊢
      by_cases h3 : g.out < 0 ∨ (shapesE g.C g.ns [g.inp]).2.length ≤ g.out
      · rw [if_pos h3] at h; simp at h
      · rw [if_neg h3]
        obtain ⟨p, a1, a2, a3, a4⟩ := (shapes_step g.ns [g.inp] (by simpa using h2)).2 k n hn
        rw [List.length_singleton] at a2 a3 a4
        exact ⟨p, a1, by omega, fun j hj => a3 j (by omega), by rw [show k + 1 = 1 + k by omega]; exact a4⟩
theorem take_size {g : GrQ} {over : Bool} (he : (graphE g.gr).1 = 0) (i r : Nat) (hi : i < (lvM g over).L.length) (ht : (lvM g over).tk ((lvM g over).L.getD i 0) = true) (hr : r ∈ (lvM g over).ins ((lvM g over).L.getD i 0)) :
    (lvM g over).sz r = (lvM g over).sz ((lvM g over).L.getD i 0) := by
  obtain ⟨v1, v2⟩ : 1 ≤ (lvM g over).L.getD i 0 ∧ (lvM g over).L.getD i 0 ≤ g.ns.length := (ord_mem he).2 _ (getD_mem hi)
  generalize (lvM g over).L.getD i 0 = v at *
  obtain ⟨k, rfl⟩ : ∃ k, v = k + 1 := ⟨v - 1, by omega⟩
  obtain ⟨n, hn⟩ : ∃ n, g.ns[k]? = some n := ⟨_, List.getElem?_eq_getElem (by omega)⟩
  have ht2 := of_decide_eq_true (show decide (opF g.ns (k + 1 - 1) = 9 ∨ opF g.ns (k + 1 - 1) = 11 ∨ opF g.ns (k + 1 - 1) = 7 ∨ opF g.ns (k + 1 - 1) = 8) = true from ht)
  rw [Nat.add_sub_cancel, opF_at hn] at ht2
  have hr2 : r ∈ (if k + 1 = 0 then [] else insF g.ns (k + 1 - 1)) := hr
  rw [if_neg (by omega), Nat.add_sub_cancel, insF_at hn] at hr2
  obtain ⟨z, hz, rfl⟩ := List.mem_map.1 hr2
  obtain ⟨z0, z1⟩ := graph_ahead he k n hn z hz
  obtain ⟨gd, el⟩ := graph_ok he
  obtain ⟨p, a1, a2, a3, a4⟩ := graph_step he (show g.gr.ns[k]? = some n from hn)
  obtain ⟨b1, b2⟩ := nodeE_out a1
  obtain ⟨c1, c2⟩ := out_size b2 ht2
  have el2 : (graphE g.gr).2.length = g.ns.length + 1 := el
  have hg : ∀ j, j < g.ns.length + 1 → sizeG ((graphE g.gr).2.getD j default) = ((graphE g.gr).2.getD j default).size := fun j hj => by
    refine size_good (gd _ ?_)
    rw [List.getD, List.getElem?_eq_getElem (by omega)]
    exact List.getElem_mem (by omega)
  show sizeG ((graphE g.gr).2.getD z.toNat default) = sizeG ((graphE g.gr).2.getD (k + 1) default)
  rw [hg _ (by omega), hg _ (by omega)]
  have e1 : (graphE g.gr).2.getD (k + 1) default = (nodeE g.gr.C n p).2 := by rw [List.getD, a4]; rfl
  have e2 : (graphE g.gr).2.getD z.toNat default = p.getD z.toNat default := by rw [List.getD, List.getD, a3 _ (by omega)]
  rw [e1, e2, b1, c1]
  have hzz : z = n.a ∨ (z = n.b ∧ (n.op = 7 ∨ n.op = 8)) := by
    unfold insN hB at hz
    rcases ht2 with e | e | e | e <;> simp [e] at hz ⊢ <;> omega
  rcases hzz with rfl | ⟨rfl, h7⟩
  · rfl
  · rw [c2 h7]
end Go.Proofs.Ytmifojpmomdmeaa
