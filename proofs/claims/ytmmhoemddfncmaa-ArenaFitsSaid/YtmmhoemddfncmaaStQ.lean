/- Plain mathematics of Go's stable sort: symMerge merges, and the whole sorts. -/
import Derived.Test.YtmmhoemddfncmaaStP
namespace Go.Proofs.Ytmmhoemddfncmaa
set_option linter.unusedVariables false
variable {lt lt2 : Int → Int → Bool}

theorem getD_a {L A R : List Int} {k d : Nat} (h : k < A.length) (hd : L.length + k = d) : (L ++ (A ++ R)).getD d 0 = A.getD k 0 := by
  subst hd
  simp only [List.getD_eq_getElem?_getD]
  rw [List.getElem?_append_right (by omega), Nat.add_sub_cancel_left, List.getElem?_append_left h]
theorem getD_b {L A B R : List Int} {k d : Nat} (h : k < B.length) (hd : L.length + A.length + k = d) : (L ++ (A ++ (B ++ R))).getD d 0 = B.getD k 0 := by
  rw [← List.append_assoc]
  exact getD_a h (by simp; omega)
theorem take_le {B : List Int} (hs : Srt lt2 B) {k : Nat} (hk : k ≤ B.length) {y : Int} (hy : y ∈ B.take k) : y = B.getD (k - 1) 0 ∨ lt2 y (B.getD (k - 1) 0) = true := by
  obtain ⟨i, hi, rfl⟩ := List.getElem_of_mem hy
  simp at hi
  rw [List.getElem_take]
  have hd : B.getD (k - 1) 0 = B[k - 1]'(by omega) := by simp [List.getD_eq_getElem?_getD, List.getElem?_eq_getElem (show k - 1 < B.length by omega)]
  rw [hd]
  by_cases h : i = k - 1
  · subst h; exact .inl rfl
  · exact .inr (List.pairwise_iff_getElem.mp hs i (k - 1) (by omega) (by omega) (by omega))
theorem drop_ge {B : List Int} (hs : Srt lt2 B) {k : Nat} {y : Int} (hy : y ∈ B.drop k) : y = B.getD k 0 ∨ lt2 (B.getD k 0) y = true := by
  obtain ⟨i, hi, rfl⟩ := List.getElem_of_mem hy
  simp at hi
  rw [List.getElem_drop]
  have hd : B.getD k 0 = B[k]'(by omega) := by simp [List.getD_eq_getElem?_getD, List.getElem?_eq_getElem (show k < B.length by omega)]
  rw [hd]
  by_cases h : i = 0
  · subst h; exact .inl rfl
  · exact .inr (List.pairwise_iff_getElem.mp hs k (k + i) (by omega) (by omega) (by omega))
theorem mem_getD {A : List Int} {k : Nat} (h : k < A.length) : A.getD k 0 ∈ A := by
  simp [List.getD_eq_getElem?_getD, List.getElem?_eq_getElem h]
/-- what is at most u comes ahead of what is at least v -/
theorem le_lt (ht : Trn lt2) {y z u v : Int} (h1 : y = u ∨ lt2 y u = true) (h2 : z = v ∨ lt2 v z = true) (h : lt2 u v = true) : lt2 y z = true := by
  rcases h1 with rfl | h1
  · rcases h2 with rfl | h2
    · exact h
    · exact ht _ _ _ h h2
  · rcases h2 with rfl | h2
    · exact ht _ _ _ h1 h
    · exact ht _ _ _ (ht _ _ _ h1 h) h2

theorem sym_one (ht : Trn lt2) {a m b : Nat} (L B R : List Int) (x : Int) (ha : L.length = a) (hm : m = a + 1) (hb : m + B.length = b) (hs : Srt lt2 B) (hc : Cross lt lt2 [x] B) :
    ∃ C, upS a (bsS (fun h => lt ((L ++ ([x] ++ (B ++ R))).getD h 0) ((L ++ ([x] ++ (B ++ R))).getD a 0)) m b - 1 - a) (L ++ ([x] ++ (B ++ R))) = L ++ (C ++ R) ∧ C.Perm ([x] ++ B) ∧ Srt lt2 C := by
  have gx : (L ++ ([x] ++ (B ++ R))).getD a 0 = x := getD_a (k := 0) (by simp) (by omega)
  obtain ⟨h1, h2, h3, h4⟩ := bs_spec (fun h => lt ((L ++ ([x] ++ (B ++ R))).getD h 0) ((L ++ ([x] ++ (B ++ R))).getD a 0)) m b (by omega)
  generalize bsS (fun h => lt ((L ++ ([x] ++ (B ++ R))).getD h 0) ((L ++ ([x] ++ (B ++ R))).getD a 0)) m b = i at *
  simp only [gx] at h3 h4
  have hB : B = B.take (i - m) ++ B.drop (i - m) := (List.take_append_drop _ _).symm
  have hl : (B.take (i - m)).length = i - 1 - a := by simp; omega
  refine ⟨B.take (i - m) ++ x :: B.drop (i - m), ?_, ?_, ?_⟩
  · have := up_lists (a := a) L (B.take (i - m)) (B.drop (i - m) ++ R) x ha
    rw [hl, ← List.append_assoc (B.take (i - m)), ← hB] at this
    simpa using this
  · refine List.perm_middle.trans ?_
    rw [← hB]
    exact List.Perm.refl _
  · have hs2 := hs
    rw [hB] at hs2
    obtain ⟨k1, k2, k3⟩ := List.pairwise_append.mp hs2
    refine List.pairwise_append.mpr ⟨k1, List.pairwise_cons.mpr ⟨fun y hy => ?_, k2⟩, fun u hu v hv => ?_⟩
    · have hlt : i < b := by
        have := List.length_pos_of_mem hy
        simp at this; omega
      have h4 := h4 hlt
      rw [getD_b (k := i - m) (by omega) (by simp; omega)] at h4
      exact le_lt ht (.inl rfl) (drop_ge hs hy) ((hc x (by simp) _ (mem_getD (by omega))).2 h4)
    · have hgt : m < i := by
        have := List.length_pos_of_mem hu
        simp at this; omega
      have h3 := h3 hgt
      rw [getD_b (k := i - m - 1) (by omega) (by simp; omega)] at h3
      have hux : lt2 u x = true := le_lt ht (take_le hs (by omega) hu) (.inl rfl) ((hc x (by simp) _ (mem_getD (by omega))).1 h3)
      simp at hv
      rcases hv with rfl | hv
      · exact hux
      · exact k3 u hu v hv

theorem sym_last (ht : Trn lt2) {a m : Nat} (L A R : List Int) (y : Int) (ha : L.length = a) (hm : a + A.length = m) (hs : Srt lt2 A) (hc : Cross lt lt2 A [y]) :
    ∃ C, dnS m (m - bsS (fun h => !lt ((L ++ (A ++ ([y] ++ R))).getD m 0) ((L ++ (A ++ ([y] ++ R))).getD h 0)) a m) (L ++ (A ++ ([y] ++ R))) = L ++ (C ++ R) ∧ C.Perm (A ++ [y]) ∧ Srt lt2 C := by
  have gx : (L ++ (A ++ ([y] ++ R))).getD m 0 = y := getD_b (k := 0) (by simp) (by omega)
  obtain ⟨h1, h2, h3, h4⟩ := bs_spec (fun h => !lt ((L ++ (A ++ ([y] ++ R))).getD m 0) ((L ++ (A ++ ([y] ++ R))).getD h 0)) a m (by omega)
  generalize bsS (fun h => !lt ((L ++ (A ++ ([y] ++ R))).getD m 0) ((L ++ (A ++ ([y] ++ R))).getD h 0)) a m = i at *
  simp only [gx] at h3 h4
  have hA : A = A.take (i - a) ++ A.drop (i - a) := (List.take_append_drop _ _).symm
  have hl : (A.drop (i - a)).length = m - i := by simp; omega
  refine ⟨A.take (i - a) ++ y :: A.drop (i - a), ?_, ?_, ?_⟩
  · have := dn_lists (m := m) (L ++ A.take (i - a)) (A.drop (i - a)) R y (by simp; omega)
    rw [hl, List.append_assoc L, ← List.append_assoc (A.take (i - a)), ← hA] at this
    simpa using this
  · have p1 : (A.take (i - a) ++ y :: A.drop (i - a)).Perm (y :: (A.take (i - a) ++ A.drop (i - a))) := List.perm_middle
    rw [← hA] at p1
    exact p1.trans (List.perm_append_singleton y A).symm
  · have hs2 := hs
    rw [hA] at hs2
    obtain ⟨k1, k2, k3⟩ := List.pairwise_append.mp hs2
    refine List.pairwise_append.mpr ⟨k1, List.pairwise_cons.mpr ⟨fun z hz => ?_, k2⟩, fun u hu v hv => ?_⟩
    · have hlt : i < m := by
        have := List.length_pos_of_mem hz
        simp at this; omega
      have h4 := h4 hlt
      rw [getD_a (k := i - a) (by omega) (by omega)] at h4
      exact le_lt ht (.inl rfl) (drop_ge hs hz) ((hc _ (mem_getD (by omega)) y (by simp)).1 (by simpa using h4))
    · have hgt : a < i := by
        have := List.length_pos_of_mem hu
        simp at this; omega
      have h3 := h3 hgt
      rw [getD_a (k := i - a - 1) (by omega) (by omega)] at h3
      have hux : lt2 u y = true := le_lt ht (take_le hs (by omega) hu) (.inl rfl) ((hc _ (mem_getD (by omega)) y (by simp)).2 (by simpa using h3))
      simp at hv
      rcases hv with rfl | hv
      · exact hux
      · exact k3 u hu v hv

theorem sym_spec (ht : Trn lt2) : ∀ (f a m b : Nat) (L A B R : List Int), L.length = a → a + A.length = m → m + B.length = b → A ≠ [] → B ≠ [] → A.length + B.length ≤ f → Srt lt2 A → Srt lt2 B → Cross lt lt2 A B →
    ∃ C, symS lt f a m b (L ++ (A ++ (B ++ R))) = L ++ (C ++ R) ∧ C.Perm (A ++ B) ∧ Srt lt2 C
  | 0, a, m, b, L, A, B, R, ha, hm, hb, hA, hB, hf, _, _, _ => by
    have := List.length_pos_iff.mpr hA
    omega
  | f + 1, a, m, b, L, A, B, R, ha, hm, hb, hA, hB, hf, hsA, hsB, hc => by
    have lA := List.length_pos_iff.mpr hA
    have lB := List.length_pos_iff.mpr hB
    rw [symS]
    by_cases h1 : m = a + 1
    · rw [if_pos h1]
      obtain ⟨x, rfl⟩ := List.length_eq_one_iff.mp (show A.length = 1 by omega)
      exact sym_one ht L B R x ha h1 hb hsB hc
    rw [if_neg h1]
    by_cases h2 : b = m + 1
    · rw [if_pos h2]
      obtain ⟨y, rfl⟩ := List.length_eq_one_iff.mp (show B.length = 1 by omega)
      exact sym_last ht L A R y ha hm hsA hc
    rw [if_neg h2]
    unfold symT stS s0S r0S x1S x2S
    obtain ⟨mid, hmid⟩ : ∃ k, k = (a + b) / 2 := ⟨_, rfl⟩
    rw [← hmid]
    obtain ⟨n, hn⟩ : ∃ k, k = mid + m := ⟨_, rfl⟩
    rw [← hn]
    obtain ⟨s0, hs0⟩ : ∃ k, k = (if mid < m then n - b else a) := ⟨_, rfl⟩
    obtain ⟨r0, hr0⟩ : ∃ k, k = (if mid < m then mid else m) := ⟨_, rfl⟩
    rw [← hs0, ← hr0]
    have hsr : a ≤ s0 ∧ s0 ≤ r0 ∧ r0 ≤ m ∧ n ≤ s0 + b ∧ m + r0 ≤ n ∧ (s0 = a ∨ s0 + b = n) ∧ (r0 = m ∨ m + r0 = n) := by
      rw [hs0, hr0]
      split <;> omega
    clear hs0 hr0
    obtain ⟨q1, q2, q3, q4, q5, q6, q7⟩ := hsr
    obtain ⟨b1, b2, b3, b4⟩ := bs_spec (fun c => !lt ((L ++ (A ++ (B ++ R))).getD (n - 1 - c) 0) ((L ++ (A ++ (B ++ R))).getD c 0)) s0 r0 q2
    generalize bsS (fun c => !lt ((L ++ (A ++ (B ++ R))).getD (n - 1 - c) 0) ((L ++ (A ++ (B ++ R))).getD c 0)) s0 r0 = st at *
    obtain ⟨en, hen⟩ : ∃ k, k = n - st := ⟨_, rfl⟩
    rw [← hen]
    have hA2 : A = A.take (st - a) ++ A.drop (st - a) := (List.take_append_drop _ _).symm
    have hB2 : B = B.take (en - m) ++ B.drop (en - m) := (List.take_append_drop _ _).symm
    obtain ⟨A1, hA1⟩ : ∃ l, l = A.take (st - a) := ⟨_, rfl⟩
    obtain ⟨A2, hA22⟩ : ∃ l, l = A.drop (st - a) := ⟨_, rfl⟩
    obtain ⟨B1, hB1⟩ : ∃ l, l = B.take (en - m) := ⟨_, rfl⟩
    obtain ⟨B2, hB22⟩ : ∃ l, l = B.drop (en - m) := ⟨_, rfl⟩
    have lA1 : A1.length = st - a := by rw [hA1]; simp; omega
    have lA2 : A2.length = m - st := by rw [hA22]; simp; omega
    have lB1 : B1.length = en - m := by rw [hB1]; simp; omega
    have lB2 : B2.length = b - en := by rw [hB22]; simp; omega
    -- the four orders
    have oAB : ∀ u ∈ A1, ∀ v ∈ B2, lt2 u v = true := by
      intro u hu v hv
      have l1 := List.length_pos_of_mem hu
      have l2 := List.length_pos_of_mem hv
      have h3 := b3 (by omega)
      rw [show n - 1 - (st - 1) = en by omega, getD_b (k := en - m) (by omega) (by omega), getD_a (k := st - a - 1) (by omega) (by omega)] at h3
      have := (hc _ (mem_getD (k := st - a - 1) (by omega)) _ (mem_getD (k := en - m) (by omega))).2 (by simpa using h3)
      rw [hA1] at hu
      rw [hB22] at hv
      exact le_lt ht (take_le hsA (by omega) hu) (drop_ge hsB hv) this
    have oBA : ∀ u ∈ B1, ∀ v ∈ A2, lt2 u v = true := by
      intro u hu v hv
      have l1 := List.length_pos_of_mem hu
      have l2 := List.length_pos_of_mem hv
      have h4 := b4 (by omega)
      rw [getD_b (k := en - m - 1) (by omega) (by omega), getD_a (k := st - a) (by omega) (by omega)] at h4
      have := (hc _ (mem_getD (k := st - a) (by omega)) _ (mem_getD (k := en - m - 1) (by omega))).1 (by simpa using h4)
      rw [hB1] at hu
      rw [hA22] at hv
      exact le_lt ht (take_le hsB (by omega) hu) (drop_ge hsA hv) this
    rw [← hA1, ← hA22] at hA2
    rw [← hB1, ← hB22] at hB2
    clear b3 b4 hA1 hA22 hB1 hB22
    subst hA2
    subst hB2
    obtain ⟨sA1, sA2, sA12⟩ := List.pairwise_append.mp hsA
    obtain ⟨sB1, sB2, sB12⟩ := List.pairwise_append.mp hsB
    have e1 : (if st < m ∧ m < en then rotT st m en (L ++ (A1 ++ A2 ++ (B1 ++ B2 ++ R))) else L ++ (A1 ++ A2 ++ (B1 ++ B2 ++ R))) = L ++ (A1 ++ (B1 ++ (A2 ++ (B2 ++ R)))) := by
      by_cases h : st < m ∧ m < en
      · rw [if_pos h]
        have := rot_lists (a := st) (m := m) (b := en) (L ++ A1) A2 B1 (B2 ++ R) (by simp; omega) (by omega) (by omega)
        simpa using this
      · rw [if_neg h]
        by_cases h' : st < m
        · have : B1 = [] := List.eq_nil_of_length_eq_zero (by omega)
          subst this; simp
        · have : A2 = [] := List.eq_nil_of_length_eq_zero (by omega)
          subst this; simp
    rw [e1]
    have e2 : ∃ C1, (if a < st ∧ st < mid then symS lt f a st mid (L ++ (A1 ++ (B1 ++ (A2 ++ (B2 ++ R))))) else L ++ (A1 ++ (B1 ++ (A2 ++ (B2 ++ R))))) = L ++ (C1 ++ (A2 ++ (B2 ++ R))) ∧ C1.Perm (A1 ++ B1) ∧ Srt lt2 C1 := by
      by_cases h : a < st ∧ st < mid
      · rw [if_pos h]
        exact sym_spec ht f a st mid L A1 B1 (A2 ++ (B2 ++ R)) ha (by omega) (by omega) (by intro h0; simp [h0] at lA1; omega) (by intro h0; simp [h0] at lB1; omega) (by omega) sA1 sB1 (hc.sub (by simp +contextual) (by simp +contextual))
      · rw [if_neg h]
        by_cases h' : a < st
        · have : B1 = [] := List.eq_nil_of_length_eq_zero (by omega)
          subst this
          exact ⟨A1, by simp, by simp, sA1⟩
        · have : A1 = [] := List.eq_nil_of_length_eq_zero (by omega)
          subst this
          exact ⟨B1, by simp, by simp, sB1⟩
    obtain ⟨C1, e2, p1, s1⟩ := e2
    rw [e2]
    have lC1 := p1.length_eq
    simp only [List.length_append] at lC1
    have e3 : ∃ C2, (if mid < en ∧ en < b then symS lt f mid en b (L ++ (C1 ++ (A2 ++ (B2 ++ R)))) else L ++ (C1 ++ (A2 ++ (B2 ++ R)))) = L ++ (C1 ++ (C2 ++ R)) ∧ C2.Perm (A2 ++ B2) ∧ Srt lt2 C2 := by
      by_cases h : mid < en ∧ en < b
      · rw [if_pos h]
        have := sym_spec ht f mid en b (L ++ C1) A2 B2 R (by simp; omega) (by omega) (by omega) (by intro h0; simp [h0] at lA2; omega) (by intro h0; simp [h0] at lB2; omega) (by simp at hf; omega) sA2 sB2 (hc.sub (by simp +contextual) (by simp +contextual))
        simpa using this
      · rw [if_neg h]
        by_cases h' : mid < en
        · have : B2 = [] := List.eq_nil_of_length_eq_zero (by omega)
          subst this
          exact ⟨A2, by simp, by simp, sA2⟩
        · have : A2 = [] := List.eq_nil_of_length_eq_zero (by omega)
          subst this
          exact ⟨B2, by simp, by simp, sB2⟩
    obtain ⟨C2, e3, p2, s2⟩ := e3
    rw [e3]
    refine ⟨C1 ++ C2, by simp, ?_, List.pairwise_append.mpr ⟨s1, s2, fun u hu v hv => ?_⟩⟩
    · refine (p1.append p2).trans ?_
      simp only [List.append_assoc]
      refine List.Perm.append_left A1 ?_
      rw [← List.append_assoc, ← List.append_assoc]
      exact List.Perm.append_right B2 List.perm_append_comm
    · have hu := p1.mem_iff.mp hu
      have hv := p2.mem_iff.mp hv
      rw [List.mem_append] at hu hv
      rcases hu with hu | hu <;> rcases hv with hv | hv
      · exact sA12 u hu v hv
      · exact oAB u hu v hv
      · exact oBA u hu v hv
      · exact sB12 u hu v hv

/-! ### blocks -/
inductive SBlk (lt lt2 : Int → Int → Bool) (s : Nat) : List Int → Prop
  | last (B : List Int) (h : B.length ≤ s) (hs : Srt lt2 B) : SBlk lt lt2 s B
  | cons (B l : List Int) (h : B.length = s) (hs : Srt lt2 B) (hc : Cross lt lt2 B l) (hl : SBlk lt lt2 s l) : SBlk lt lt2 s (B ++ l)
theorem SBlk.le {s : Nat} {l : List Int} (h : SBlk lt lt2 s l) (hl : l.length ≤ s) : Srt lt2 l := by
  cases h with
  | last _ _ hs => exact hs
  | cons B l h hs hc hl2 =>
    have : l = [] := List.eq_nil_of_length_eq_zero (by simp at hl; omega)
    subst this
    simpa using hs
theorem SBlk.cut {s : Nat} {l : List Int} (h : SBlk lt lt2 s l) (hl : s ≤ l.length) : ∃ B l', l = B ++ l' ∧ B.length = s ∧ Srt lt2 B ∧ Cross lt lt2 B l' ∧ SBlk lt lt2 s l' := by
  cases h with
  | last _ h hs => exact ⟨l, [], by simp, by omega, hs, fun x _ y hy => by simp at hy, .last [] (by simp) (by simp [Srt])⟩
  | cons B l h hs hc hl2 => exact ⟨B, l, rfl, h, hs, hc, hl2⟩
theorem Cross.left {A B C : List Int} (h1 : Cross lt lt2 A C) (h2 : Cross lt lt2 B C) : Cross lt lt2 (A ++ B) C := by
  intro x hx y hy
  rw [List.mem_append] at hx
  rcases hx with hx | hx
  · exact h1 x hx y hy
  · exact h2 x hx y hy

theorem blk_spec (ht : Trn lt2) : ∀ (f n a : Nat) (L l : List Int), L.length = a → a + l.length = n → l.length ≤ f → CrossIn lt lt2 l →
    ∃ l', blkS lt n f a (L ++ l) = L ++ l' ∧ l'.Perm l ∧ SBlk lt lt2 20 l'
  | 0, n, a, L, l, ha, hn, hf, hc => by
    obtain rfl := List.eq_nil_of_length_eq_zero (by omega : l.length = 0)
    exact ⟨[], rfl, .refl _, .last [] (by simp) (by simp [Srt])⟩
  | f + 1, n, a, L, l, ha, hn, hf, hc => by
    rw [blkS]
    by_cases h : a + 20 ≤ n
    · rw [if_pos h]
      obtain ⟨B, R, rfl, hB⟩ : ∃ B R, l = B ++ R ∧ B.length = 20 := ⟨l.take 20, l.drop 20, by simp, by simp; omega⟩
      obtain ⟨c1, c2, c3⟩ := hc.split
      obtain ⟨C, h1, h2, h3⟩ := insS_spec (lt := lt) ht (a := a) (b := a + 20) L B R ha (by omega) c1
      rw [h1]
      have lC := h2.length_eq
      simp at hn hf
      obtain ⟨R', k1, k2, k3⟩ := blk_spec ht f n (a + 20) (L ++ C) R (by simp; omega) (by omega) (by omega) c2
      refine ⟨C ++ R', by simpa using k1, h2.append k2, .cons C R' (by omega) h3 (c3.perm h2 k2) k3⟩
    · rw [if_neg h]
      obtain ⟨C, h1, h2, h3⟩ := insS_spec (lt := lt) ht (a := a) (b := n) L l [] ha hn hc
      simp only [List.append_nil] at h1
      exact ⟨C, h1, h2, .last C (by rw [h2.length_eq]; omega) h3⟩

theorem pass_spec (ht : Trn lt2) {s : Nat} (hs : 1 ≤ s) : ∀ (f n a : Nat) (L l : List Int), L.length = a → a + l.length = n → l.length ≤ f → SBlk lt lt2 s l →
    ∃ l', passS lt n s f a (L ++ l) = L ++ l' ∧ l'.Perm l ∧ SBlk lt lt2 (2 * s) l'
  | 0, n, a, L, l, ha, hn, hf, hc => by
    obtain rfl := List.eq_nil_of_length_eq_zero (by omega : l.length = 0)
    exact ⟨[], rfl, .refl _, .last [] (by simp) (by simp [Srt])⟩
  | f + 1, n, a, L, l, ha, hn, hf, hb => by
    rw [passS]
    by_cases h : a + 2 * s ≤ n
    · rw [if_pos h]
      obtain ⟨B1, l1, rfl, b1, s1, c1, hb1⟩ := hb.cut (by omega)
      obtain ⟨B2, l2, rfl, b2, s2, c2, hb2⟩ := hb1.cut (by simp at hn; omega)
      simp at hn hf
      obtain ⟨C, h1, h2, h3⟩ := sym_spec (lt := lt) ht (2 * s) a (a + s) (a + 2 * s) L B1 B2 l2 ha (by omega) (by omega) (by intro h0; simp [h0] at b1; omega) (by intro h0; simp [h0] at b2; omega) (by omega) s1 s2 (c1.sub (fun _ h => h) (by simp +contextual))
      rw [h1]
      have lC := h2.length_eq
      simp at lC
      obtain ⟨R', k1, k2, k3⟩ := pass_spec ht hs f n (a + 2 * s) (L ++ C) l2 (by simp; omega) (by omega) (by omega) hb2
      refine ⟨C ++ R', by simpa using k1, ?_, .cons C R' (by omega) h3 ?_ k3⟩
      · rw [← List.append_assoc]; exact h2.append k2
      · exact (Cross.left (c1.sub (fun _ h => h) (by simp +contextual)) c2).perm h2 k2
    · rw [if_neg h]
      by_cases h' : a + s < n
      · rw [if_pos h']
        obtain ⟨B1, l1, rfl, b1, s1, c1, hb1⟩ := hb.cut (by omega)
        simp at hn hf
        obtain ⟨C, h1, h2, h3⟩ := sym_spec (lt := lt) ht (2 * s) a (a + s) n L B1 l1 [] ha (by omega) (by omega) (by intro h0; simp [h0] at b1; omega) (by intro h0; simp [h0] at hn; omega) (by omega) s1 (hb1.le (by omega)) c1
        simp only [List.append_nil] at h1
        exact ⟨C, h1, h2, .last C (by rw [h2.length_eq]; simp; omega) h3⟩
      · rw [if_neg h']
        exact ⟨l, rfl, .refl _, .last l (by omega) (hb.le (by omega))⟩

theorem passes_spec (ht : Trn lt2) : ∀ (f s : Nat) (l : List Int), 1 ≤ s → l.length ≤ s + f → SBlk lt lt2 s l →
    (passesS lt l.length f s l).Perm l ∧ Srt lt2 (passesS lt l.length f s l)
  | 0, s, l, hs, hf, hb => ⟨.refl _, hb.le (by omega)⟩
  | f + 1, s, l, hs, hf, hb => by
    rw [passesS]
    by_cases h : s < l.length
    · rw [if_pos h]
      obtain ⟨l', h1, h2, h3⟩ := pass_spec (lt := lt) ht hs l.length l.length 0 [] l rfl (by simp) (Nat.le_refl _) hb
      simp only [List.nil_append] at h1
      rw [h1]
      have e := h2.length_eq
      rw [← e]
      obtain ⟨k1, k2⟩ := passes_spec ht f (2 * s) l' (by omega) (by omega) h3
      exact ⟨k1.trans h2, k2⟩
    · rw [if_neg h]
      exact ⟨.refl _, hb.le (by omega)⟩
/-- Go's stable sort of what lies so that each pair is told right: the same elements, in order -/
theorem stable_spec (ht : Trn lt2) (l : List Int) (hc : CrossIn lt lt2 l) : (stableS lt l).Perm l ∧ Srt lt2 (stableS lt l) := by
  obtain ⟨l', h1, h2, h3⟩ := blk_spec (lt := lt) ht l.length l.length 0 [] l rfl (by simp) (Nat.le_refl _) hc
  simp only [List.nil_append] at h1
  unfold stableS
  rw [h1, ← h2.length_eq]
  obtain ⟨k1, k2⟩ := passes_spec ht l'.length 20 l' (by omega) (by omega) h3
  exact ⟨k1.trans h2, k2⟩
end Go.Proofs.Ytmmhoemddfncmaa
