/- Plain mathematics of blocks: the program's places and the document's are the same; what is known of them. -/
import Derived.Test.YtmmhoemddfncmaaArQ
namespace Go.Proofs.Ytmmhoemddfncmaa
open Go Go.RowKit
set_option linter.unusedVariables false

theorem wA_set {W : List Int} {i k b : Int} (hi : 0 ≤ i) (hi2 : i < W.length) (hk : 0 ≤ k) : wA (W.set i.toNat b) k = if k = i then b else wA W k := by
  unfold wA
  by_cases h : k = i
  · subst h
    rw [if_pos rfl, List.getD_eq_getElem?_getD, List.getElem?_set_self (by omega)]
    rfl
  · rw [if_neg h, List.getD_eq_getElem?_getD, List.getElem?_set_ne (by omega), List.getD_eq_getElem?_getD]
def AllQ (l : List Q3) : Prop := ∀ k : Int, 0 ≤ k → k < l.length → okQ (qAt l k) = true
theorem qAt_mem {l : List Q3} {k : Int} (h0 : 0 ≤ k) (h : k < l.length) : qAt l k ∈ l := by
  unfold qAt
  rw [List.getD_eq_getElem?_getD, List.getElem?_eq_getElem (by omega)]
  exact List.getElem_mem _
theorem may_all {l : List Q3} (h : mayL l = true) : AllQ l ∧ l.length ≤ 100 := by
  unfold mayL at h
  simp only [Bool.and_eq_true, decide_eq_true_eq, List.all_eq_true] at h
  exact ⟨fun k h0 h1 => h.2 _ (qAt_mem h0 h1), h.1⟩
theorem ok_up {x : Q3} (h : okQ x = true) : 1 ≤ x.s ∧ x.s ≤ upI x.s ∧ upI x.s ≤ x.s + 3 ∧ upI x.s % 4 = 0 ∧ x.f ≤ x.t ∧ 0 < upI x.s ∧ upI x.s ≤ 1048579 := by
  unfold okQ at h
  simp only [decide_eq_true_eq] at h
  have := upI_bd h.1
  omega

/-- what is known where the blocks P are laid -/
structure InvP (l : List Q3) (P : List Int) (S : FitS) : Prop where
  laid : S.2.2 = P
  len : S.1.length = l.length
  inn : ∀ k ∈ P, 0 ≤ k ∧ k < l.length
  nd : P.Nodup
  all0 : 0 ≤ S.2.1
  bd : ∀ k ∈ P, 0 ≤ wA S.1 k ∧ wA S.1 k % 4 = 0 ∧ wA S.1 k + upI (qAt l k).s ≤ S.2.1
  apart : ∀ k ∈ P, ∀ j ∈ P, k ≠ j → meetQ (qAt l k) (qAt l j) = true → wA S.1 k + upI (qAt l k).s ≤ wA S.1 j ∨ wA S.1 j + upI (qAt l j).s ≤ wA S.1 k
  sum : S.2.1 ≤ (P.map fun k => upI (qAt l k).s).sum
theorem rooms_good {l : List Q3} (hl : AllQ l) {P : List Int} {S : FitS} (h : InvP l P S) (i : Int) : GoodR (roomsP l S.1 S.2.2 i) := by
  intro r hr
  unfold roomsP at hr
  simp only [List.mem_map, List.mem_filter] at hr
  obtain ⟨k, ⟨hk, _⟩, rfl⟩ := hr
  rw [h.laid] at hk
  have a := h.bd k hk
  have b := ok_up (hl k (h.inn k hk).1 (h.inn k hk).2)
  simp only
  omega
theorem place_best {l : List Q3} (hl : AllQ l) {P : List Int} {S : FitS} (h : InvP l P S) {i : Int} (h0 : 0 ≤ i) (h1 : i < l.length) : Best (roomsP l S.1 S.2.2 i) (upI (qAt l i).s) (placeP l S i) :=
  gapS_best (ok_up (hl i h0 h1)).2.2.2.2.2.1 (rooms_good hl h i)
theorem inv_start (l : List Q3) : InvP l [] (startP l) :=
  ⟨rfl, by simp [startP], by simp, List.nodup_nil, by simp [startP], by simp, by simp, by simp [startP]⟩
theorem inv_step {l : List Q3} (hl : AllQ l) {P : List Int} {S : FitS} (h : InvP l P S) {i : Int} (h0 : 0 ≤ i) (h1 : i < l.length) (hi : i ∉ P) : InvP l (P ++ [i]) (stepP l S i) := by
  have hb := place_best hl h h0 h1
  have hg := rooms_good hl h i
  have hq := ok_up (hl i h0 h1)
  have mem : ∀ {r : Rm}, r ∈ roomsP l S.1 S.2.2 i ↔ ∃ k ∈ P, meetQ (qAt l i) (qAt l k) = true ∧ r = (wA S.1 k, wA S.1 k + upI (qAt l k).s) := by
    intro r
    unfold roomsP
    rw [h.laid]
    simp only [List.mem_map, List.mem_filter]
    constructor
    · rintro ⟨k, ⟨a, b⟩, rfl⟩; exact ⟨k, a, b, rfl⟩
    · rintro ⟨k, a, b, rfl⟩; exact ⟨k, ⟨a, b⟩, rfl⟩
  have hle := h.len
  have ws : ∀ {k : Int}, 0 ≤ k → wA (stepP l S i).1 k = if k = i then placeP l S i else wA S.1 k := fun hk => wA_set h0 (by rw [hle]; exact h1) hk
  have hne : ∀ k ∈ P, k ≠ i := fun k hk e => hi (e ▸ hk)
  have htop := hb.top hg h.all0 (fun r hr => by obtain ⟨k, hk, _, rfl⟩ := mem.1 hr; exact (h.bd k hk).2.2)
  have hb0 := hb.nonneg hg
  have hfree := hb.free
  have h4 : placeP l S i % 4 = 0 := by
    have e : Edge (roomsP l S.1 S.2.2 i) (placeP l S i) := by
      rcases hb with ⟨t, g, _⟩ | ⟨_, g⟩
      · exact g.1
      · exact g.1
    rcases e.1 with e | ⟨r, hr, e⟩
    · rw [e]; rfl
    · obtain ⟨k, hk, _, rfl⟩ := mem.1 hr
      have a := h.bd k hk
      have b := ok_up (hl k (h.inn k hk).1 (h.inn k hk).2)
      simp only at e
      omega
  have e21 : (stepP l S i).2.1 = max S.2.1 (placeP l S i + upI (qAt l i).s) := rfl
  refine ⟨?_, ?_, ?_, ?_, ?_, ?_, ?_, ?_⟩
  · show S.2.2 ++ [i] = P ++ [i]
    rw [h.laid]
  · show (S.1.set _ _).length = _
    rw [List.length_set]; exact hle
  · intro k hk
    rcases List.mem_append.mp hk with hk | hk
    · exact h.inn k hk
    · obtain rfl : k = i := by simpa using hk
      exact ⟨h0, h1⟩
  · rw [List.nodup_append]
    exact ⟨h.nd, by simp, fun a ha b hb => by obtain rfl : b = i := by simpa using hb
                                              exact hne a ha⟩
  · have := h.all0
    rw [e21]; omega
  · intro k hk
    rcases List.mem_append.mp hk with hk | hk
    · rw [ws (h.inn k hk).1, if_neg (hne k hk), e21]
      have := h.bd k hk
      omega
    · obtain rfl : k = i := by simpa using hk
      rw [ws h0, if_pos rfl, e21]
      exact ⟨hb0, h4, by omega⟩
  · have key : ∀ k ∈ P, meetQ (qAt l i) (qAt l k) = true → wA S.1 k + upI (qAt l k).s ≤ placeP l S i ∨ placeP l S i + upI (qAt l i).s ≤ wA S.1 k := by
      intro k hk hm
      have := hfree _ (mem.2 ⟨k, hk, hm, rfl⟩)
      simp only at this
      omega
    intro k hk0 j hj0 hkj hm
    rcases List.mem_append.mp hk0 with hk | hk
    · rcases List.mem_append.mp hj0 with hj | hj
      · rw [ws (h.inn k hk).1, ws (h.inn j hj).1, if_neg (hne k hk), if_neg (hne j hj)]
        exact h.apart k hk j hj hkj hm
      · obtain rfl : j = i := by simpa using hj
        rw [ws (h.inn k hk).1, ws h0, if_neg (hne k hk), if_pos rfl]
        exact key k hk (by rw [meetQ_comm]; exact hm)
    · obtain rfl : k = i := by simpa using hk
      rcases List.mem_append.mp hj0 with hj | hj
      · rw [ws (h.inn j hj).1, ws h0, if_neg (hne j hj), if_pos rfl]
        exact (key j hj hm).symm
      · obtain rfl : j = k := by simpa using hj
        exact absurd rfl hkj
  · rw [e21, List.map_append, List.sum_append]
    have := h.sum
    simp only [List.map_cons, List.map_nil, List.sum_cons, List.sum_nil]
    omega
theorem inv_fold {l : List Q3} (hl : AllQ l) : ∀ (Q P : List Int) (S : FitS), InvP l P S → (∀ k ∈ Q, 0 ≤ k ∧ k < l.length) → (P ++ Q).Nodup → InvP l (P ++ Q) (Q.foldl (stepP l) S)
  | [], P, S, h, _, _ => by simpa using h
  | i :: Q, P, S, h, hq, hn => by
    have e : P ++ i :: Q = (P ++ [i]) ++ Q := by simp
    have hi : i ∉ P := fun hp => (List.nodup_append.mp hn).2.2 i hp i (by simp) rfl
    rw [e] at hn ⊢
    exact inv_fold hl Q (P ++ [i]) _ (inv_step hl h (hq i (by simp)).1 (hq i (by simp)).2 hi) (fun k hk => hq k (by simp [hk])) hn
theorem range_nodup (n : Nat) : (rangeI n).Nodup := (rangeI_rising n).imp fun h => by omega
theorem order_nodup (l : List Q3) : (orderC l).Nodup := (order_spec l).1.nodup_iff.mpr (range_nodup _)
theorem fit_inv {l : List Q3} (hl : AllQ l) : InvP l (orderC l) (fitP l) := by
  have h := inv_fold hl (orderC l) [] (startP l) (inv_start l) (fun k hk => order_mem.1 hk) (by simpa using order_nodup l)
  rw [List.nil_append] at h
  exact h

/-! ### the document's -/
def nextT (l : List Q3) (A : List Int) (b i : Int) : Int := if wA A i < 0 ∧ (b < 0 ∨ aheadQ l i b = true) then i else b
def nextR (l : List Q3) (A : List Int) : Int := (rangeI l.length).foldl (nextT l A) (-1)
def placeR (l : List Q3) (A : List Int) (i : Int) : Int := pickR (upI (qAt l i).s) (gapsR (roomsR l A i))
def stepR (l : List Q3) (s : List Int × Int) (i : Int) : List Int × Int := (s.1.set i.toNat (placeR l s.1 i), max s.2 (placeR l s.1 i + upI (qAt l i).s))
def fitR (l : List Q3) : Nat → List Int × Int → List Int × Int
  | 0, s => s
  | f + 1, s => if nextR l s.1 < 0 then s else fitR l f (stepR l s (nextR l s.1))
theorem next_fold {l : List Q3} {A : List Int} : ∀ (Q P : List Int) (b : Int), (∀ k ∈ P ++ Q, 0 ≤ k) → (P ++ Q).Pairwise (· < ·) →
    ((b = -1 ∧ ∀ k ∈ P, ¬ wA A k < 0) ∨ (b ∈ P ∧ wA A b < 0 ∧ ∀ k ∈ P, wA A k < 0 → k ≠ b → aheadQ l b k = true)) →
    ((Q.foldl (nextT l A) b = -1 ∧ ∀ k ∈ P ++ Q, ¬ wA A k < 0) ∨ (Q.foldl (nextT l A) b ∈ P ++ Q ∧ wA A (Q.foldl (nextT l A) b) < 0 ∧ ∀ k ∈ P ++ Q, wA A k < 0 → k ≠ Q.foldl (nextT l A) b → aheadQ l (Q.foldl (nextT l A) b) k = true))
  | [], P, b, _, _, h => by simpa using h
  | i :: Q, P, b, hp, hr, h => by
    have e : P ++ i :: Q = (P ++ [i]) ++ Q := by simp
    have hb0 : b < 0 → b = -1 := by
      intro hb
      rcases h with ⟨h, _⟩ | ⟨h, _⟩
      · exact h
      · have := hp b (by simp [h]); omega
    have hlt := (List.pairwise_append.mp hr).2.2
    rw [e] at hp hr ⊢
    rw [List.foldl_cons]
    refine next_fold Q (P ++ [i]) _ hp hr ?_
    have hi0 := hp i (by simp)
    unfold nextT
    by_cases hc : wA A i < 0 ∧ (b < 0 ∨ aheadQ l i b = true)
    · rw [if_pos hc]
      refine .inr ⟨by simp, hc.1, fun k hk hw hne => ?_⟩
      rcases List.mem_append.mp hk with hk | hk
      · rcases h with ⟨h1, h2⟩ | ⟨h1, h2, h3⟩
        · exact absurd hw (h2 k hk)
        · have hab : aheadQ l i b = true := by
            rcases hc.2 with h | h
            · have := hp b (by simp [h1]); omega
            · exact h
          by_cases hkb : k = b
          · rw [hkb]; exact hab
          · exact ahead_trn l _ _ _ hab (h3 k hk hw hkb)
      · exact absurd (by simpa using hk) hne
    · rw [if_neg hc]
      rcases h with ⟨h1, h2⟩ | ⟨h1, h2, h3⟩
      · refine .inl ⟨h1, fun k hk => ?_⟩
        rcases List.mem_append.mp hk with hk | hk
        · exact h2 k hk
        · obtain rfl : k = i := by simpa using hk
          exact fun hw => hc ⟨hw, .inl (by omega)⟩
      · refine .inr ⟨by simp [h1], h2, fun k hk hw hne => ?_⟩
        rcases List.mem_append.mp hk with hk | hk
        · exact h3 k hk hw hne
        · obtain rfl : k = i := by simpa using hk
          have hna : ¬ aheadQ l k b = true := fun ha => hc ⟨hw, .inr ha⟩
          rcases ahead_tot (l := l) hne with h | h
          · exact absurd h hna
          · exact h
theorem next_spec (l : List Q3) (A : List Int) : (nextR l A = -1 ∧ ∀ k : Int, 0 ≤ k → k < l.length → ¬ wA A k < 0) ∨ ((0 ≤ nextR l A ∧ nextR l A < l.length) ∧ wA A (nextR l A) < 0 ∧ ∀ k : Int, 0 ≤ k → k < l.length → wA A k < 0 → k ≠ nextR l A → aheadQ l (nextR l A) k = true) := by
  have h := next_fold (l := l) (A := A) (rangeI l.length) [] (-1) (fun k hk => (rangeI_mem.1 (by simpa using hk)).1) (by simpa using rangeI_rising _) (.inl ⟨rfl, by simp⟩)
  simp only [List.nil_append] at h
  rcases h with ⟨h1, h2⟩ | ⟨h1, h2, h3⟩
  · exact .inl ⟨h1, fun k h0 hl => h2 k (rangeI_mem.2 ⟨h0, hl⟩)⟩
  · exact .inr ⟨rangeI_mem.1 h1, h2, fun k h0 hl => h3 k (rangeI_mem.2 ⟨h0, hl⟩)⟩
/-- the program's and the document's stand together -/
structure Both (l : List Q3) (P : List Int) (S : FitS) (s : List Int × Int) : Prop where
  inv : InvP l P S
  all : s.2 = S.2.1
  len : s.1.length = l.length
  yes : ∀ k ∈ P, wA s.1 k = wA S.1 k
  no : ∀ k : Int, 0 ≤ k → k < l.length → k ∉ P → wA s.1 k = -1
theorem both_start (l : List Q3) : Both l [] (startP l) (List.replicate l.length (-1), 0) :=
  ⟨inv_start l, rfl, by simp, by simp, fun k h0 h1 _ => by
    unfold wA
    rw [List.getD_eq_getElem?_getD, List.getElem?_replicate, if_pos (by omega)]
    rfl⟩
theorem both_place {l : List Q3} (hl : AllQ l) {P : List Int} {S : FitS} {s : List Int × Int} (h : Both l P S s) {i : Int} (h0 : 0 ≤ i) (h1 : i < l.length) : placeR l s.1 i = placeP l S i := by
  have hg := rooms_good hl h.inv i
  have mm : ∀ r, r ∈ roomsR l s.1 i ↔ r ∈ roomsP l S.1 S.2.2 i := by
    intro r
    unfold roomsR roomsP
    rw [h.inv.laid]
    simp only [List.mem_map, List.mem_filter, Bool.and_eq_true, decide_eq_true_eq, rangeI_mem]
    constructor
    · rintro ⟨k, ⟨⟨a0, a1⟩, a2, a3⟩, rfl⟩
      have hk : k ∈ P := by
        by_cases hk : k ∈ P
        · exact hk
        · have := h.no k a0 a1 hk; omega
      exact ⟨k, ⟨hk, a3⟩, by rw [h.yes k hk]⟩
    · rintro ⟨k, ⟨hk, a3⟩, rfl⟩
      have a := h.inv.inn k hk
      exact ⟨k, ⟨a, by rw [h.yes k hk]; exact (h.inv.bd k hk).1, a3⟩, by rw [h.yes k hk]⟩
  have hs := (ok_up (hl i h0 h1)).2.2.2.2.2.1
  exact ((pick_best hs (fun r hr => hg r ((mm r).1 hr))).perm mm).same hg (place_best hl h.inv h0 h1)
theorem both_step {l : List Q3} (hl : AllQ l) {P : List Int} {S : FitS} {s : List Int × Int} (h : Both l P S s) {i : Int} (h0 : 0 ≤ i) (h1 : i < l.length) (hi : i ∉ P) : Both l (P ++ [i]) (stepP l S i) (stepR l s i) := by
  have e := both_place hl h h0 h1
  have hle := h.inv.len
  have w1 : ∀ {k : Int}, 0 ≤ k → wA (stepP l S i).1 k = if k = i then placeP l S i else wA S.1 k := fun hk => wA_set h0 (by rw [hle]; exact h1) hk
  have w2 : ∀ {k : Int}, 0 ≤ k → wA (stepR l s i).1 k = if k = i then placeR l s.1 i else wA s.1 k := fun hk => wA_set h0 (by rw [h.len]; exact h1) hk
  refine ⟨inv_step hl h.inv h0 h1 hi, ?_, ?_, ?_, ?_⟩
  · show max s.2 (placeR l s.1 i + _) = max S.2.1 (placeP l S i + _)
    rw [e, h.all]
  · show (s.1.set _ _).length = _
    rw [List.length_set]; exact h.len
  · intro k hk
    rcases List.mem_append.mp hk with hk | hk
    · have a := h.inv.inn k hk
      rw [w1 a.1, w2 a.1, e, h.yes k hk]
    · obtain rfl : k = i := by simpa using hk
      rw [w1 h0, w2 h0, e, if_pos rfl, if_pos rfl]
  · intro k a0 a1 hk
    have hki : k ≠ i := fun e => hk (by simp [e])
    have hkP : k ∉ P := fun e => hk (by simp [e])
    rw [w2 a0, if_neg hki]
    exact h.no k a0 a1 hkP
/-- the next one of the document's is the next one in the order -/
theorem next_is {l : List Q3} {P Q : List Int} {i : Int} {S : FitS} {s : List Int × Int} (h : Both l P S s) (hs : Srt (aheadQ l) (P ++ i :: Q)) (hm : ∀ k, k ∈ P ++ i :: Q ↔ 0 ≤ k ∧ k < l.length) (hi : i ∉ P) : nextR l s.1 = i := by
  have ib := (hm i).1 (by simp)
  have iw := h.no i ib.1 ib.2 hi
  rcases next_spec l s.1 with ⟨h1, h2⟩ | ⟨⟨n0, n1⟩, n2, n3⟩
  · exact absurd (by omega) (h2 i ib.1 ib.2)
  · by_cases hne : nextR l s.1 = i
    · exact hne
    · have a := n3 i ib.1 ib.2 (by omega) (fun e => hne e.symm)
      have hin : nextR l s.1 ∈ P ++ i :: Q := (hm _).2 ⟨n0, n1⟩
      rcases List.mem_append.mp hin with hp | hq
      · have := h.yes _ hp
        have := h.inv.bd _ hp
        omega
      · rcases List.mem_cons.mp hq with hq | hq
        · exact absurd hq hne
        · have b := (List.pairwise_cons.mp (List.pairwise_append.mp hs).2.1).1 _ hq
          exact absurd a (ahead_asym b)
theorem next_none {l : List Q3} {P : List Int} {S : FitS} {s : List Int × Int} (h : Both l P S s) (hm : ∀ k, k ∈ P ↔ 0 ≤ k ∧ k < l.length) : nextR l s.1 = -1 := by
  rcases next_spec l s.1 with ⟨h1, h2⟩ | ⟨⟨n0, n1⟩, n2, n3⟩
  · exact h1
  · have hp := (hm _).2 ⟨n0, n1⟩
    have := h.yes _ hp
    have := h.inv.bd _ hp
    omega
theorem both_fold {l : List Q3} (hl : AllQ l) : ∀ (Q P : List Int) (S : FitS) (s : List Int × Int) (f : Nat), Both l P S s → Srt (aheadQ l) (P ++ Q) → (P ++ Q).Nodup → (∀ k, k ∈ P ++ Q ↔ 0 ≤ k ∧ k < l.length) → Q.length < f → Both l (P ++ Q) (Q.foldl (stepP l) S) (fitR l f s)
  | [], P, S, s, f, h, hs, hn, hm, hf => by
    obtain ⟨f, rfl⟩ : ∃ g, f = g + 1 := ⟨f - 1, by omega⟩
    rw [List.append_nil] at hm ⊢
    rw [fitR, next_none h hm, if_pos (by omega)]
    exact h
  | i :: Q, P, S, s, f, h, hs, hn, hm, hf => by
    obtain ⟨f, rfl⟩ : ∃ g, f = g + 1 := ⟨f - 1, by omega⟩
    have hi : i ∉ P := fun hp => (List.nodup_append.mp hn).2.2 i hp i (by simp) rfl
    have ib := (hm i).1 (by simp)
    have e : P ++ i :: Q = (P ++ [i]) ++ Q := by simp
    rw [fitR, next_is h hs hm hi, if_neg (by omega)]
    rw [e] at hs hn hm ⊢
    exact both_fold hl Q (P ++ [i]) _ _ f (both_step hl h ib.1 ib.2 hi) hs hn hm (by simpa using hf)
theorem fit_both {l : List Q3} (hl : AllQ l) : Both l (orderC l) (fitP l) (fitR l (l.length + 1) (List.replicate l.length (-1), 0)) := by
  have h := both_fold hl (orderC l) [] (startP l) (List.replicate l.length (-1), 0) (l.length + 1) (both_start l) (by simpa using (order_spec l).2) (by simpa using order_nodup l) (fun k => by simpa using order_mem) (by rw [order_len]; omega)
  rw [List.nil_append] at h
  exact h
theorem fit_eq {l : List Q3} (hl : AllQ l) : fitR l (l.length + 1) (List.replicate l.length (-1), 0) = ((fitP l).1, (fitP l).2.1) := by
  have h := fit_both hl
  refine Prod.ext ?_ h.all
  apply List.ext_getElem
  · rw [h.len, h.inv.len]
  · intro k h1 h2
    have hk : (k : Int) ∈ orderC l := order_mem.2 ⟨by omega, by rw [h.len] at h1; omega⟩
    have a := h.yes _ hk
    unfold wA at a
    rw [List.getD_eq_getElem?_getD, List.getD_eq_getElem?_getD, List.getElem?_eq_getElem (by simpa using h1), List.getElem?_eq_getElem (by simpa using h2)] at a
    simpa using a

/-! ### how many bytes -/
theorem sum_perm {a b : List Int} (h : a.Perm b) : a.sum = b.sum := by
  induction h with
  | nil => rfl
  | cons x _ ih => simp [ih]
  | swap x y l => simp; omega
  | trans _ _ h1 h2 => exact h1.trans h2
theorem pack_sorted : ∀ (R : List Rm) (lo N : Int), Rising R → (∀ r ∈ R, lo ≤ r.1 ∧ r.1 < r.2 ∧ r.2 ≤ N) → lo ≤ N → R.Pairwise (fun a b => a.2 ≤ b.1 ∨ b.2 ≤ a.1) → (R.map fun r => r.2 - r.1).sum ≤ N - lo
  | [], lo, N, _, _, h, _ => by simp; omega
  | r :: R, lo, N, hr, hb, h, hd => by
    have h1 := List.pairwise_cons.mp hr
    have h2 := List.pairwise_cons.mp hd
    have b := hb r (by simp)
    have := pack_sorted R r.2 N h1.2 (fun q hq => by
      have a := h1.1 q hq
      have c := h2.1 q hq
      have d := hb q (by simp [hq])
      omega) b.2.2 h2.2
    simp only [List.map_cons, List.sum_cons]
    omega
theorem pack {R : List Rm} {N : Int} (hN : 0 ≤ N) (hb : ∀ r ∈ R, 0 ≤ r.1 ∧ r.1 < r.2 ∧ r.2 ≤ N) (hd : R.Pairwise fun a b => a.2 ≤ b.1 ∨ b.2 ≤ a.1) : (R.map fun r => r.2 - r.1).sum ≤ N := by
  have hp := List.mergeSort_perm R fun a b => decide (a.1 ≤ b.1)
  have := pack_sorted (R.mergeSort fun a b => decide (a.1 ≤ b.1)) 0 N (ms_rising R) (fun r hr => hb r ((ms_mem R r).1 hr)) hN (hp.symm.pairwise hd (fun h => h.symm))
  rw [sum_perm (hp.map _)] at this
  omega
def heldAt (l : List Q3) (T : Int) : List Q3 := l.filter fun x => decide (x.f ≤ T ∧ T ≤ x.t)
theorem map_range (l : List Q3) : (rangeI l.length).map (qAt l) = l := by
  unfold rangeI
  apply List.ext_getElem
  · simp
  · intro k h1 h2
    simp [qAt, List.getD_eq_getElem?_getD]
    rw [List.getElem?_eq_getElem (by simpa using h2)]
    rfl
theorem held_le {l : List Q3} (hl : AllQ l) (T : Int) : ((heldAt l T).map fun x => upI x.s).sum ≤ (fitP l).2.1 := by
  have h := fit_inv hl
  have e : heldAt l T = ((rangeI l.length).filter fun k => decide ((qAt l k).f ≤ T ∧ T ≤ (qAt l k).t)).map (qAt l) := by
    unfold heldAt
    conv => lhs; rw [← map_range l]
    rw [List.filter_map]
    rfl
  rw [e, List.map_map]
  generalize hI : (rangeI l.length).filter (fun k => decide ((qAt l k).f ≤ T ∧ T ≤ (qAt l k).t)) = I
  have hm : ∀ k ∈ I, (0 ≤ k ∧ k < l.length) ∧ (qAt l k).f ≤ T ∧ T ≤ (qAt l k).t := by
    intro k hk
    rw [← hI] at hk
    simp only [List.mem_filter, rangeI_mem, decide_eq_true_eq] at hk
    exact hk
  have hn : I.Nodup := by rw [← hI]; exact (range_nodup _).filter _
  have := pack (R := I.map fun k => (wA (fitP l).1 k, wA (fitP l).1 k + upI (qAt l k).s)) h.all0 (by
    intro r hr
    obtain ⟨k, hk, rfl⟩ := List.mem_map.mp hr
    have a := hm k hk
    have b := h.bd k (order_mem.2 a.1)
    have c := ok_up (hl k a.1.1 a.1.2)
    simp only
    omega) (by
    rw [List.pairwise_map]
    refine List.Pairwise.imp_of_mem (fun {a b} ha hb hne => ?_) hn
    have a1 := hm a ha
    have b1 := hm b hb
    exact h.apart a (order_mem.2 a1.1) b (order_mem.2 b1.1) hne (by unfold meetQ; simp; omega))
  rw [List.map_map] at this
  refine Int.le_trans (Int.le_of_eq ?_) this
  congr 1
  apply List.map_congr_left
  intro k _
  simp only [Function.comp]
  omega
theorem all_sum {l : List Q3} : ((orderC l).map fun k => upI (qAt l k).s).sum = (l.map fun x => upI x.s).sum := by
  rw [sum_perm ((order_spec l).1.map _)]
  conv => rhs; rw [← map_range l]
  rw [List.map_map]
  rfl
theorem fit_sum {l : List Q3} (hl : AllQ l) : (fitP l).2.1 ≤ (l.map fun x => upI x.s).sum := by rw [← all_sum]; exact (fit_inv hl).sum

/-! ### blocks none of which meet, and blocks all of which meet -/
theorem gapS_nil (size : Int) : gapS size [] = 0 := by simp [gapS, gapL, gapO]
theorem none_fold {l : List Q3} (hd : ∀ i k : Int, 0 ≤ i → i < l.length → 0 ≤ k → k < l.length → i ≠ k → meetQ (qAt l i) (qAt l k) = false) : ∀ (Q P : List Int) (S : FitS), InvP l P S → AllQ l → (∀ k ∈ Q, 0 ≤ k ∧ k < l.length) → (P ++ Q).Nodup →
    (∀ k : Int, 0 ≤ k → k < l.length → wA S.1 k = 0) → (S.2.1 = 0 ∨ ∃ k ∈ P, upI (qAt l k).s = S.2.1) →
    (∀ k : Int, 0 ≤ k → k < l.length → wA (Q.foldl (stepP l) S).1 k = 0) ∧ ((Q.foldl (stepP l) S).2.1 = 0 ∨ ∃ k ∈ P ++ Q, upI (qAt l k).s = (Q.foldl (stepP l) S).2.1)
  | [], P, S, h, _, _, _, h1, h2 => by simpa using ⟨h1, h2⟩
  | i :: Q, P, S, h, hl, hq, hn, h1, h2 => by
    have hi : i ∉ P := fun hp => (List.nodup_append.mp hn).2.2 i hp i (by simp) rfl
    have ib := hq i (by simp)
    have e0 : roomsP l S.1 S.2.2 i = [] := by
      unfold roomsP
      rw [h.laid, List.map_eq_nil_iff, List.filter_eq_nil_iff]
      intro k hk
      have a := h.inn k hk
      rw [hd i k ib.1 ib.2 a.1 a.2 (fun e => hi (e ▸ hk))]
      simp
    have ep : placeP l S i = 0 := by unfold placeP; rw [e0, gapS_nil]
    have e : P ++ i :: Q = (P ++ [i]) ++ Q := by simp
    rw [e] at hn ⊢
    rw [List.foldl_cons]
    refine none_fold hd Q (P ++ [i]) _ (inv_step hl h ib.1 ib.2 hi) hl (fun k hk => hq k (by simp [hk])) hn ?_ ?_
    · intro k h0 hk
      show wA (S.1.set i.toNat (placeP l S i)) k = 0
      rw [wA_set ib.1 (by rw [h.len]; exact ib.2) h0, ep, h1 k h0 hk]
      split <;> rfl
    · have : (stepP l S i).2.1 = max S.2.1 (upI (qAt l i).s) := by show max S.2.1 (placeP l S i + _) = _; rw [ep, Int.zero_add]
      rw [this]
      by_cases hm : S.2.1 ≤ upI (qAt l i).s
      · exact .inr ⟨i, by simp, by omega⟩
      · rcases h2 with h2 | ⟨k, hk, h2⟩
        · have := (ok_up (hl i ib.1 ib.2)).2.2.2.2.2.1
          omega
        · exact .inr ⟨k, by simp [hk], by omega⟩
theorem fit_none {l : List Q3} (hl : AllQ l) (hd : ∀ i k : Int, 0 ≤ i → i < l.length → 0 ≤ k → k < l.length → i ≠ k → meetQ (qAt l i) (qAt l k) = false) :
    (fitP l).1 = List.replicate l.length 0 ∧ ((fitP l).2.1 = 0 ∨ ∃ x ∈ l, upI x.s = (fitP l).2.1) ∧ ∀ x ∈ l, upI x.s ≤ (fitP l).2.1 := by
  have h := fit_inv hl
  obtain ⟨h1, h2⟩ := none_fold hd (orderC l) [] (startP l) (inv_start l) hl (fun k hk => order_mem.1 hk) (by simpa using order_nodup l) (fun k h0 hk => by
    show wA (List.replicate l.length 0) k = 0
    unfold wA
    rw [List.getD_eq_getElem?_getD, List.getElem?_replicate]
    split <;> rfl) (.inl rfl)
  change ∀ k : Int, 0 ≤ k → k < l.length → wA (fitP l).1 k = 0 at h1
  refine ⟨?_, ?_, ?_⟩
  · apply List.ext_getElem
    · rw [h.len]; simp
    · intro k a b
      have := h1 k (by omega) (by rw [h.len] at a; omega)
      unfold wA at this
      rw [List.getD_eq_getElem?_getD, List.getElem?_eq_getElem (by simpa using a)] at this
      simpa using this
  · rcases h2 with h2 | ⟨k, hk, h2⟩
    · exact .inl h2
    · have a := order_mem.1 (by simpa using hk)
      exact .inr ⟨_, qAt_mem a.1 a.2, h2⟩
  · intro x hx
    rw [← map_range l] at hx
    obtain ⟨k, hk, rfl⟩ := List.mem_map.mp hx
    have a := h.bd k (order_mem.2 (rangeI_mem.1 hk))
    omega
/-- the rooms cover all that is taken -/
theorem all_fold {l : List Q3} (hd : ∀ i k : Int, 0 ≤ i → i < l.length → 0 ≤ k → k < l.length → meetQ (qAt l i) (qAt l k) = true) : ∀ (Q P : List Int) (S : FitS), InvP l P S → AllQ l → (∀ k ∈ Q, 0 ≤ k ∧ k < l.length) → (P ++ Q).Nodup →
    S.2.1 = (P.map fun k => upI (qAt l k).s).sum → (∀ e, 0 ≤ e → e < S.2.1 → ∃ k ∈ P, wA S.1 k ≤ e ∧ e < wA S.1 k + upI (qAt l k).s) →
    (Q.foldl (stepP l) S).2.1 = ((P ++ Q).map fun k => upI (qAt l k).s).sum
  | [], P, S, h, _, _, _, h1, h2 => by simpa using h1
  | i :: Q, P, S, h, hl, hq, hn, h1, h2 => by
    have hi : i ∉ P := fun hp => (List.nodup_append.mp hn).2.2 i hp i (by simp) rfl
    have ib := hq i (by simp)
    have up := (ok_up (hl i ib.1 ib.2)).2.2.2.2.2.1
    have mem : ∀ {k : Int}, k ∈ P → (wA S.1 k, wA S.1 k + upI (qAt l k).s) ∈ roomsP l S.1 S.2.2 i := by
      intro k hk
      unfold roomsP
      rw [h.laid]
      exact List.mem_map.mpr ⟨k, List.mem_filter.mpr ⟨hk, hd i k ib.1 ib.2 (h.inn k hk).1 (h.inn k hk).2⟩, rfl⟩
    have ep : placeP l S i = S.2.1 := by
      have hb := place_best hl h ib.1 ib.2
      have hg := rooms_good hl h i
      have ht : ∀ r ∈ roomsP l S.1 S.2.2 i, r.2 ≤ S.2.1 := fun r hr => by
        unfold roomsP at hr
        rw [h.laid] at hr
        obtain ⟨k, hk, rfl⟩ := List.mem_map.mp hr
        exact (h.bd k (List.mem_filter.mp hk).1).2.2
      obtain ⟨t1, t2⟩ := hb.top hg h.all0 ht
      have b0 := hb.nonneg hg
      have ed : Edge (roomsP l S.1 S.2.2 i) (placeP l S i) := by
        rcases hb with ⟨t, g, _⟩ | ⟨_, g⟩
        · exact g.1
        · exact g.1
      rcases Int.lt_or_le (placeP l S i) S.2.1 with hlt | hge
      · obtain ⟨k, hk, a, b⟩ := h2 _ b0 hlt
        exact absurd ⟨a, b⟩ (ed.2 _ (mem hk))
      · omega
    have e : P ++ i :: Q = (P ++ [i]) ++ Q := by simp
    rw [e] at hn ⊢
    rw [List.foldl_cons]
    have e21 : (stepP l S i).2.1 = S.2.1 + upI (qAt l i).s := by show max S.2.1 (placeP l S i + _) = _; rw [ep]; omega
    have ws : ∀ {k : Int}, 0 ≤ k → wA (stepP l S i).1 k = if k = i then placeP l S i else wA S.1 k := fun hk => wA_set ib.1 (by rw [h.len]; exact ib.2) hk
    refine all_fold hd Q (P ++ [i]) _ (inv_step hl h ib.1 ib.2 hi) hl (fun k hk => hq k (by simp [hk])) hn ?_ ?_
    · rw [e21, List.map_append, List.sum_append, ← h1]
      simp
    · intro x hx0 hx
      rw [e21] at hx
      by_cases hlt : x < S.2.1
      · obtain ⟨k, hk, a, b⟩ := h2 x hx0 hlt
        refine ⟨k, by simp [hk], ?_⟩
        rw [ws (h.inn k hk).1, if_neg (fun (e : k = i) => hi (e ▸ hk))]
        exact ⟨a, b⟩
      · refine ⟨i, by simp, ?_⟩
        rw [ws ib.1, if_pos rfl, ep]
        omega
theorem fit_all {l : List Q3} (hl : AllQ l) (hd : ∀ i k : Int, 0 ≤ i → i < l.length → 0 ≤ k → k < l.length → meetQ (qAt l i) (qAt l k) = true) : (fitP l).2.1 = (l.map fun x => upI x.s).sum := by
  have := all_fold hd (orderC l) [] (startP l) (inv_start l) hl (fun k hk => order_mem.1 hk) (by simpa using order_nodup l) (by simp [startP]) (fun e h0 h1 => by simp only [startP] at h1; omega)
  rw [← all_sum]
  rw [List.nil_append] at this
  exact this
end Go.Proofs.Ytmmhoemddfncmaa
