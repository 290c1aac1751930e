/- Plain: how much is held at most. -/
namespace Go.Proofs.Ytmifojpmomdmeaa
set_option linter.unusedVariables false

/-- any life: value, buffer, size, from, to -/
structure Lg where
  v : Int
  b : Int
  s : Int
  f : Int
  t : Int
def cap (n : Int) : Int := min 1099511627776 n
def heldB (p : Int) (x : Lg) : Bool := decide (x.f ≤ p) && decide (p ≤ x.t)
/-- the greatest size in a buffer -/
def szF (p b : Int) (l : List Lg) : Int := l.foldl (fun a x => if heldB p x && decide (x.b = b) then max a x.s else a) 0
/-- all buffers, each once -/
def allB (l : List Lg) : List Int := l.foldl (fun K x => if x.b ∈ K then K else K ++ [x.b]) []
def keyF (p : Int) (l : List Lg) : List Int := allB (l.filter (heldB p))
def sumG (g : Int → Int) : List Int → Int
  | [] => 0
  | b :: r => g b + sumG g r
def heldF (l : List Lg) (p : Int) : Int := cap (sumG (fun b => cap (szF p b l)) (allB l))
def peakK (l : List Lg) : List Lg → Int → Int
  | [], a => a
  | x :: r, a => peakK l r (if x.f ≤ x.t then max a (heldF l x.f) else a)
def peakF (l : List Lg) : Int := peakK l l 0

theorem cap_le {a b : Int} (h : a ≤ b) : cap a ≤ cap b := by unfold cap; omega
theorem cap_add {a b : Int} (hb : 0 ≤ b) : cap (cap a + b) = cap (a + b) := by unfold cap; omega
theorem cap_nn {a : Int} (h : 0 ≤ a) : 0 ≤ cap a := by unfold cap; omega
theorem cap_max (a : Int) : cap a ≤ 1099511627776 := by unfold cap; omega
theorem cap_zero : cap 0 = 0 := by unfold cap; omega
theorem allB_snoc (l : List Lg) (x : Lg) : allB (l ++ [x]) = if x.b ∈ allB l then allB l else allB l ++ [x.b] := by unfold allB; rw [List.foldl_append]; rfl
theorem szF_snoc (p b : Int) (l : List Lg) (x : Lg) : szF p b (l ++ [x]) = if heldB p x && decide (x.b = b) then max (szF p b l) x.s else szF p b l := by simp [szF]
theorem keyF_snoc (p : Int) (l : List Lg) (x : Lg) : keyF p (l ++ [x]) = if heldB p x then (if x.b ∈ keyF p l then keyF p l else keyF p l ++ [x.b]) else keyF p l := by
  unfold keyF
  rw [List.filter_append]
  by_cases h : heldB p x
  · rw [if_pos h, List.filter_cons_of_pos h, List.filter_nil, allB_snoc]
  · rw [if_neg h, List.filter_cons_of_neg h, List.filter_nil, List.append_nil]
/-- lists from their ends -/
theorem snoc_ind {P : List Lg → Prop} (h0 : P []) (h1 : ∀ l x, P l → P (l ++ [x])) (l : List Lg) : P l := by
  have h : ∀ r : List Lg, P r.reverse := fun r => by
    induction r with
    | nil => exact h0
    | cons x r ih => rw [List.reverse_cons]; exact h1 _ _ ih
  rw [← List.reverse_reverse l]
  exact h _
theorem mem_allB (l : List Lg) (b : Int) : b ∈ allB l ↔ ∃ x ∈ l, x.b = b := by
  induction l using snoc_ind with
  | h0 => simp [allB]
  | h1 l x ih =>
    rw [allB_snoc]
    split
    · next h =>
      rw [ih]
      constructor
      · rintro ⟨y, hy, e⟩; exact ⟨y, by simp [hy], e⟩
      · rintro ⟨y, hy, e⟩
        rcases List.mem_append.1 hy with hy | hy
        · exact ⟨y, hy, e⟩
        · obtain rfl : y = x := by simpa using hy
          rw [e, ih] at h
          exact h
    · rw [List.mem_append, ih]
      constructor
      · rintro (⟨y, hy, e⟩ | h)
        · exact ⟨y, by simp [hy], e⟩
        · exact ⟨x, by simp, by simpa using (List.mem_singleton.1 h).symm⟩
      · rintro ⟨y, hy, e⟩
        rcases List.mem_append.1 hy with hy | hy
        · exact .inl ⟨y, hy, e⟩
        · obtain rfl : y = x := by simpa using hy
          exact .inr (by simp [e])
theorem allB_nodup (l : List Lg) : (allB l).Nodup := by
  induction l using snoc_ind with
  | h0 => simp [allB]
  | h1 l x ih =>
    rw [allB_snoc]
    split
    · exact ih
    · next h =>
      rw [List.nodup_append]
      exact ⟨ih, by simp, fun a ha b hb e => h (by rw [List.mem_singleton.1 hb] at e; exact e ▸ ha)⟩
theorem keyF_sub {p : Int} {l : List Lg} {b : Int} (h : b ∈ keyF p l) : b ∈ allB l := by
  obtain ⟨x, hx, e⟩ := (mem_allB _ _).1 h
  exact (mem_allB _ _).2 ⟨x, (List.mem_filter.1 hx).1, e⟩
theorem szF_nn (p b : Int) (l : List Lg) : 0 ≤ szF p b l := by
  induction l using snoc_ind with
  | h0 => simp [szF]
  | h1 l x ih => rw [szF_snoc]; split <;> omega
theorem szF_ge {p b : Int} {l : List Lg} {x : Lg} (hx : x ∈ l) (hh : heldB p x = true) (hb : x.b = b) : x.s ≤ szF p b l := by
  induction l using snoc_ind with
  | h0 => simp at hx
  | h1 l y ih =>
    rw [szF_snoc]
    rcases List.mem_append.1 hx with h | h
    · have := ih h
      split <;> omega
    · obtain rfl : x = y := by simpa using h
      rw [if_pos (by simp [hh, hb])]
      omega
theorem szF_or (p b : Int) (l : List Lg) : szF p b l = 0 ∨ ∃ x ∈ l, heldB p x = true ∧ x.b = b ∧ x.s = szF p b l := by
  induction l using snoc_ind with
  | h0 => exact .inl rfl
  | h1 l y ih =>
    rw [szF_snoc]
    split
    · next h =>
      simp only [Bool.and_eq_true, decide_eq_true_eq] at h
      by_cases hm : szF p b l ≤ y.s
      · exact .inr ⟨y, by simp, h.1, h.2, by omega⟩
      · rw [show max (szF p b l) y.s = szF p b l by omega]
        rcases ih with e | ⟨x, hx, h2⟩
        · exact .inl e
        · exact .inr ⟨x, by simp [hx], h2⟩
    · rcases ih with e | ⟨x, hx, h2⟩
      · exact .inl e
      · exact .inr ⟨x, by simp [hx], h2⟩
theorem szF_none {p b : Int} {l : List Lg} (h : b ∉ keyF p l) : szF p b l = 0 := by
  rcases szF_or p b l with e | ⟨x, hx, h1, h2, _⟩
  · exact e
  · exact absurd ((mem_allB _ _).2 ⟨x, List.mem_filter.2 ⟨hx, h1⟩, h2⟩) h
theorem sumG_erase (g : Int → Int) {x : Int} : ∀ {R : List Int}, x ∈ R → sumG g R = g x + sumG g (R.erase x)
  | [], h => by simp at h
  | y :: r, h => by
    by_cases e : y = x
    · subst e; simp [sumG]
    · rw [List.erase_cons_tail (by simp [e])]
      have := sumG_erase g (x := x) (R := r) (by simpa [Ne.symm e] using h)
      unfold sumG
      omega
theorem sumG_zero {g : Int → Int} : ∀ {R : List Int}, (∀ b ∈ R, g b = 0) → sumG g R = 0
  | [], _ => rfl
  | y :: r, h => by
    have := sumG_zero (g := g) (R := r) (fun b hb => h b (by simp [hb]))
    have := h y (by simp)
    unfold sumG
    omega
theorem sumG_nn {g : Int → Int} : ∀ {R : List Int}, (∀ b ∈ R, 0 ≤ g b) → 0 ≤ sumG g R
  | [], _ => by simp [sumG]
  | y :: r, h => by
    have := sumG_nn (g := g) (R := r) (fun b hb => h b (by simp [hb]))
    have := h y (by simp)
    unfold sumG
    omega
theorem sumG_mono {g h : Int → Int} : ∀ {R : List Int}, (∀ b ∈ R, g b ≤ h b) → sumG g R ≤ sumG h R
  | [], _ => Int.le_refl _
  | y :: r, e => by
    have := sumG_mono (g := g) (h := h) (R := r) (fun b hb => e b (by simp [hb]))
    have := e y (by simp)
    unfold sumG
    omega
theorem sumG_add (g h : Int → Int) : ∀ R : List Int, sumG (fun b => g b + h b) R = sumG g R + sumG h R
  | [] => rfl
  | y :: r => by
    have := sumG_add g h r
    unfold sumG
    omega
theorem sumG_same {g h : Int → Int} : ∀ {R : List Int}, (∀ b ∈ R, g b = h b) → sumG g R = sumG h R
  | [], _ => rfl
  | y :: r, e => by
    have := sumG_same (g := g) (h := h) (R := r) (fun b hb => e b (by simp [hb]))
    have := e y (by simp)
    unfold sumG
    omega
theorem sumG_sub {g : Int → Int} : ∀ {K R : List Int}, K.Nodup → R.Nodup → (∀ b ∈ K, b ∈ R) → (∀ b ∈ R, b ∉ K → g b = 0) → sumG g K = sumG g R
  | [], R, _, _, _, h => (sumG_zero (fun b hb => h b hb (by simp))).symm
  | y :: r, R, hk, hr, hs, h => by
    obtain ⟨hy, hk2⟩ := List.nodup_cons.1 hk
    rw [sumG_erase g (hs y (by simp))]
    have := sumG_sub (g := g) (K := r) (R := R.erase y) hk2 (hr.erase y) (fun b hb => (List.mem_erase_of_ne (fun e : b = y => hy (by rw [← e]; exact hb))).2 (hs b (by simp [hb]))) (fun b hb hn => by
      have hby : b ≠ y := fun e => by subst e; exact (hr.not_mem_erase) hb
      exact h b (List.mem_of_mem_erase hb) (by simp [hby, hn]))
    show g y + sumG g r = _
    omega
theorem sumG_one {x c : Int} : ∀ {K : List Int}, K.Nodup → x ∈ K → sumG (fun b => if x = b then c else 0) K = c
  | [], _, h => by simp at h
  | y :: r, hk, h => by
    obtain ⟨hy, hk2⟩ := List.nodup_cons.1 hk
    unfold sumG
    by_cases e : x = y
    · subst e
      rw [sumG_zero (fun b hb => if_neg (fun e : x = b => hy (by rw [e]; exact hb)))]
      simp
    · rw [if_neg e, sumG_one hk2 (by simpa [e] using h)]
      omega
/-- what a map's entries sum up to is what all buffers do -/
theorem heldF_keys (l : List Lg) (p : Int) : cap (sumG (fun b => cap (szF p b l)) (keyF p l)) = heldF l p := by
  unfold heldF
  rw [sumG_sub (K := keyF p l) (allB_nodup _) (allB_nodup l) (fun b hb => keyF_sub hb) (fun b _ hn => by rw [szF_none hn, cap_zero])]
theorem heldF_nn (l : List Lg) (p : Int) : 0 ≤ heldF l p := cap_nn (sumG_nn (fun b _ => cap_nn (szF_nn _ _ _)))
theorem szF_mono {p q : Int} {l : List Lg} (h : ∀ x ∈ l, heldB p x = true → heldB q x = true) (b : Int) : szF p b l ≤ szF q b l := by
  rcases szF_or p b l with e | ⟨x, hx, h1, h2, h3⟩
  · rw [e]; exact szF_nn _ _ _
  · rw [← h3]; exact szF_ge hx (h x hx h1) h2
theorem heldF_mono {p q : Int} {l : List Lg} (h : ∀ x ∈ l, heldB p x = true → heldB q x = true) : heldF l p ≤ heldF l q :=
  cap_le (sumG_mono (fun b _ => cap_le (szF_mono h b)))

/-- the greatest of some -/
theorem peakK_ge (l : List Lg) : ∀ (r : List Lg) (a : Int), a ≤ peakK l r a
  | [], a => Int.le_refl _
  | x :: r, a => by
    have := peakK_ge l r (if x.f ≤ x.t then max a (heldF l x.f) else a)
    unfold peakK
    split at this <;> rename_i h <;> simp only [h, if_true, if_false] <;> omega
theorem peakK_mem (l : List Lg) : ∀ (r : List Lg) (a : Int) (x : Lg), x ∈ r → x.f ≤ x.t → heldF l x.f ≤ peakK l r a
  | [], a, x, h, _ => by simp at h
  | y :: r, a, x, h, hx => by
    unfold peakK
    rcases List.mem_cons.1 h with rfl | h
    · rw [if_pos hx]
      have := peakK_ge l r (max a (heldF l x.f))
      omega
    · exact peakK_mem l r _ x h hx
theorem peakK_le (l : List Lg) (c : Int) : ∀ (r : List Lg) (a : Int), a ≤ c → (∀ x ∈ r, x.f ≤ x.t → heldF l x.f ≤ c) → peakK l r a ≤ c
  | [], a, h, _ => h
  | y :: r, a, h, hx => by
    unfold peakK
    refine peakK_le l c r _ ?_ (fun x hm => hx x (by simp [hm]))
    split
    · next e => have := hx y (by simp) e; omega
    · exact h
/-- the place where something is held that begins last: as much is held there -/
theorem last_begin (p : Int) : ∀ l : List Lg, (∀ x ∈ l, heldB p x = false) ∨ ∃ y ∈ l, heldB p y = true ∧ ∀ x ∈ l, heldB p x = true → x.f ≤ y.f
  | [] => .inl (by simp)
  | z :: r => by
    by_cases hz : heldB p z = true
    · rcases last_begin p r with h | ⟨y, hy, h1, h2⟩
      · refine .inr ⟨z, by simp, hz, fun x hx hh => ?_⟩
        rcases List.mem_cons.1 hx with rfl | hx
        · exact Int.le_refl _
        · rw [h x hx] at hh; cases hh
      · by_cases e : z.f ≤ y.f
        · refine .inr ⟨y, by simp [hy], h1, fun x hx hh => ?_⟩
          rcases List.mem_cons.1 hx with rfl | hx
          · exact e
          · exact h2 x hx hh
        · refine .inr ⟨z, by simp, hz, fun x hx hh => ?_⟩
          rcases List.mem_cons.1 hx with rfl | hx
          · exact Int.le_refl _
          · have := h2 x hx hh; omega
    · rcases last_begin p r with h | ⟨y, hy, h1, h2⟩
      · refine .inl (fun x hx => ?_)
        rcases List.mem_cons.1 hx with rfl | hx
        · simpa using hz
        · exact h x hx
      · refine .inr ⟨y, by simp [hy], h1, fun x hx hh => ?_⟩
        rcases List.mem_cons.1 hx with rfl | hx
        · exact absurd hh hz
        · exact h2 x hx hh
theorem peak_any (l : List Lg) (p : Int) : heldF l p ≤ peakF l := by
  rcases last_begin p l with h | ⟨y, hy, h1, h2⟩
  · have : heldF l p = 0 := by
      unfold heldF
      rw [sumG_zero (fun b _ => by
        rw [szF_none, cap_zero]
        intro hm
        obtain ⟨x, hx, _⟩ := (mem_allB _ _).1 hm
        obtain ⟨hx1, hx2⟩ := List.mem_filter.1 hx
        rw [h x hx1] at hx2
        cases hx2), cap_zero]
    rw [this]
    exact peakK_ge l l 0
  · have hyy : y.f ≤ p ∧ p ≤ y.t := by simpa [heldB] using h1
    refine Int.le_trans (heldF_mono (q := y.f) fun x hx hh => ?_) (peakK_mem l l 0 y hy (by omega))
    have := h2 x hx hh
    have hxx : x.f ≤ p ∧ p ≤ x.t := by simpa [heldB] using hh
    simp only [heldB, Bool.and_eq_true, decide_eq_true_eq]
    omega

/-- the document's: of one buffer the first greatest one counts -/
def atL (l : List Lg) (k : Nat) : Lg := l.getD k ⟨0, 0, 0, 0, 0⟩
def worse (l : List Lg) (p : Int) (k j : Nat) : Bool := heldB p (atL l j) && decide ((atL l j).b = (atL l k).b) && (decide ((atL l j).s > (atL l k).s) || (decide ((atL l j).s = (atL l k).s) && decide (j < k)))
def firstK (l : List Lg) (p : Int) (k : Nat) : Nat → Bool
  | 0 => true
  | j + 1 => firstK l p k j && !worse l p k j
def outK (l : List Lg) (p : Int) (k : Nat) : Bool := decide ((atL l k).f > p) || decide ((atL l k).t < p) || decide ((atL l k).s < 0)
def dsumK (l : List Lg) (p : Int) : Nat → Int
  | 0 => 0
  | k + 1 => if outK l p k then dsumK l p k else if firstK l p k l.length then cap (dsumK l p k + cap (atL l k).s) else dsumK l p k
def dpeakK (l : List Lg) : Nat → Int
  | 0 => 0
  | i + 1 => max (dpeakK l i) (dsumK l (atL l i).f l.length)
def sumN (φ : Nat → Int) : Nat → Int
  | 0 => 0
  | k + 1 => sumN φ k + φ k
def selK (l : List Lg) (p : Int) (k : Nat) : Bool := !outK l p k && firstK l p k l.length
def phiK (l : List Lg) (p : Int) (k : Nat) : Int := if selK l p k then cap (atL l k).s else 0
theorem phiK_nn (l : List Lg) (p : Int) (k : Nat) : 0 ≤ phiK l p k := by
  unfold phiK
  split
  · next h =>
    refine cap_nn ?_
    unfold selK outK at h
    simp at h
    omega
  · exact Int.le_refl _
theorem sumN_nn {φ : Nat → Int} (h : ∀ k, 0 ≤ φ k) : ∀ n, 0 ≤ sumN φ n
  | 0 => by simp [sumN]
  | n + 1 => by have := sumN_nn h n; have := h n; unfold sumN; omega
theorem dsumK_eq (l : List Lg) (p : Int) : ∀ n, dsumK l p n = cap (sumN (phiK l p) n)
  | 0 => by simp [dsumK, sumN, cap_zero]
  | n + 1 => by
    have ih := dsumK_eq l p n
    have h0 := sumN_nn (phiK_nn l p) n
    unfold dsumK sumN
    by_cases h1 : outK l p n = true
    · rw [if_pos h1, ih]
      unfold phiK selK
      rw [h1]
      simp
    · by_cases h2 : firstK l p n l.length = true
      · have h3 : 0 ≤ (atL l n).s := by unfold outK at h1; simp at h1; omega
        rw [if_neg h1, if_pos h2, ih, cap_add (cap_nn h3)]
        unfold phiK selK
        rw [h2]
        simp [h1]
      · rw [if_neg h1, if_neg h2, ih]
        unfold phiK selK
        simp [h2]
theorem sumN_zero {φ : Nat → Int} : ∀ n, (∀ k, k < n → φ k = 0) → sumN φ n = 0
  | 0, _ => rfl
  | n + 1, h => by have := sumN_zero n (fun k hk => h k (by omega)); have := h n (by omega); unfold sumN; omega
theorem sumN_one {φ : Nat → Int} {k0 : Nat} : ∀ n, k0 < n → (∀ k, k < n → k ≠ k0 → φ k = 0) → sumN φ n = φ k0
  | 0, h, _ => by omega
  | n + 1, h, hz => by
    unfold sumN
    by_cases e : k0 = n
    · subst e
      rw [sumN_zero k0 (fun k hk => hz k (by omega) (by omega))]
      omega
    · rw [sumN_one n (by omega) (fun k hk => hz k (by omega)), hz n (by omega) (by omega)]
      omega
theorem sumN_by {φ : Nat → Int} {β : Nat → Int} {K : List Int} (hK : K.Nodup) : ∀ n, (∀ k, k < n → β k ∈ K) → sumN φ n = sumG (fun b => sumN (fun k => if β k = b then φ k else 0) n) K
  | 0, _ => (sumG_zero (fun b _ => rfl)).symm
  | n + 1, h => by
    show sumN φ n + φ n = sumG (fun b => sumN (fun k => if β k = b then φ k else 0) n + (if β n = b then φ n else 0)) K
    rw [sumG_add, sumG_one hK (h n (by omega)), sumN_by hK n (fun k hk => h k (by omega))]
theorem firstK_iff (l : List Lg) (p : Int) (k : Nat) : ∀ n, firstK l p k n = true ↔ ∀ j, j < n → worse l p k j = false
  | 0 => by simp [firstK]
  | n + 1 => by
    unfold firstK
    rw [Bool.and_eq_true, firstK_iff l p k n]
    constructor
    · rintro ⟨h1, h2⟩ j hj
      by_cases e : j = n
      · subst e; simpa using h2
      · exact h1 j (by omega)
    · intro h
      exact ⟨fun j hj => h j (by omega), by simp [h n (by omega)]⟩
theorem least {P : Nat → Prop} : ∀ n, P n → ∃ k, k ≤ n ∧ P k ∧ ∀ j, j < k → ¬ P j
  | n, h => by
    by_cases e : ∃ j, j < n ∧ P j
    · obtain ⟨j, hj, hp⟩ := e
      obtain ⟨k, h1, h2, h3⟩ := least j hp
      exact ⟨k, by omega, h2, h3⟩
    · exact ⟨n, Nat.le_refl _, h, fun j hj hp => e ⟨j, hj, hp⟩⟩
termination_by n => n
theorem atL_mem {l : List Lg} {k : Nat} (h : k < l.length) : atL l k ∈ l := by
  unfold atL; rw [List.getD, List.getElem?_eq_getElem h]; exact List.getElem_mem h
theorem mem_atL {l : List Lg} {x : Lg} (h : x ∈ l) : ∃ k, k < l.length ∧ atL l k = x := by
  obtain ⟨k, hk⟩ := List.getElem?_of_mem h
  exact ⟨k, (List.getElem?_eq_some_iff.1 hk).1, by unfold atL; rw [List.getD, hk]; rfl⟩
theorem one_buffer (l : List Lg) (p b : Int) : sumN (fun k => if (atL l k).b = b then phiK l p k else 0) l.length = cap (szF p b l) := by
  have hsel : ∀ k, k < l.length → selK l p k = true → (atL l k).b = b → heldB p (atL l k) = true ∧ (atL l k).s = szF p b l ∧ ∀ j, j < l.length → worse l p k j = false := fun k hk hs hb => by
    unfold selK at hs
    simp only [Bool.and_eq_true, Bool.not_eq_true', firstK_iff] at hs
    obtain ⟨h1, h2⟩ := hs
    unfold outK at h1
    simp at h1
    have hh : heldB p (atL l k) = true := by simp only [heldB, Bool.and_eq_true, decide_eq_true_eq]; omega
    refine ⟨hh, ?_, h2⟩
    have hge := szF_ge (atL_mem hk) hh hb
    rcases szF_or p b l with e | ⟨x, hx, a1, a2, a3⟩
    · omega
    · obtain ⟨j, hj, rfl⟩ := mem_atL hx
      have := h2 j hj
      unfold worse at this
      rw [a1, a2, hb] at this
      simp at this
      omega
  by_cases h : ∃ k, k < l.length ∧ selK l p k = true ∧ (atL l k).b = b
  · obtain ⟨k, hk, hs, hb⟩ := h
    obtain ⟨h1, h2, h3⟩ := hsel k hk hs hb
    rw [sumN_one (k0 := k) _ hk]
    · show (if (atL l k).b = b then phiK l p k else 0) = _
      rw [if_pos hb]; unfold phiK; rw [if_pos hs, h2]
    · intro j hj hne
      show (if (atL l j).b = b then phiK l p j else 0) = 0
      by_cases hbj : (atL l j).b = b
      · rw [if_pos hbj]
        unfold phiK
        by_cases hsj : selK l p j = true
        · obtain ⟨g1, g2, g3⟩ := hsel j hj hsj hbj
          have e1 := h3 j hj
          have e2 := g3 k hk
          unfold worse at e1 e2
          rw [g1, hbj, hb, h2, g2] at e1
          rw [h1, hbj, hb, h2, g2] at e2
          simp at e1 e2
          omega
        · rw [if_neg hsj]
      · rw [if_neg hbj]
  · rw [sumN_zero]
    · have h0 : szF p b l = 0 := by
        rcases szF_or p b l with e | ⟨x, hx, a1, a2, a3⟩
        · exact e
        · obtain ⟨j, hj, rfl⟩ := mem_atL hx
          obtain ⟨k, hk1, ⟨b1, b2, b3⟩, hk3⟩ := least (P := fun j => heldB p (atL l j) = true ∧ (atL l j).b = b ∧ (atL l j).s = szF p b l) j ⟨a1, a2, a3⟩
          refine absurd ⟨k, by omega, ?_, b2⟩ h
          have hnn := szF_nn p b l
          unfold selK
          rw [Bool.and_eq_true, firstK_iff]
          refine ⟨?_, fun i hi => ?_⟩
          · simp only [heldB, Bool.and_eq_true, decide_eq_true_eq] at b1
            simp only [outK, Bool.not_eq_true', Bool.or_eq_false_iff, decide_eq_false_iff_not]
            omega
          · cases hw : worse l p k i with
            | false => rfl
            | true =>
              exfalso
              unfold worse at hw
              simp only [Bool.and_eq_true, Bool.or_eq_true, decide_eq_true_eq] at hw
              obtain ⟨⟨w1, w2⟩, w3⟩ := hw
              have := szF_ge (atL_mem hi) w1 (w2.trans b2)
              rcases w3 with w3 | ⟨w3, w4⟩
              · omega
              · exact hk3 i w4 ⟨w1, w2.trans b2, by omega⟩
      rw [h0, cap_zero]
    · intro j hj
      show (if (atL l j).b = b then phiK l p j else 0) = 0
      by_cases hbj : (atL l j).b = b
      · rw [if_pos hbj]
        unfold phiK
        by_cases hsj : selK l p j = true
        · exact absurd ⟨j, hj, hsj, hbj⟩ h
        · rw [if_neg hsj]
      · rw [if_neg hbj]
theorem dsum_held (l : List Lg) (p : Int) : dsumK l p l.length = heldF l p := by
  rw [dsumK_eq]
  unfold heldF
  rw [sumN_by (β := fun k => (atL l k).b) (allB_nodup l) _ (fun k hk => (mem_allB _ _).2 ⟨_, atL_mem hk, rfl⟩), sumG_same (fun b _ => one_buffer l p b)]
theorem dpeakK_ge (l : List Lg) : ∀ n i, i < n → heldF l (atL l i).f ≤ dpeakK l n
  | 0, i, h => by omega
  | n + 1, i, h => by
    unfold dpeakK
    rw [dsum_held]
    by_cases e : i = n
    · subst e; omega
    · have := dpeakK_ge l n i (by omega); omega
theorem dpeakK_nn (l : List Lg) : ∀ n, 0 ≤ dpeakK l n
  | 0 => by simp [dpeakK]
  | n + 1 => by have := dpeakK_nn l n; unfold dpeakK; omega
theorem dpeakK_le (l : List Lg) : ∀ n, dpeakK l n ≤ peakF l
  | 0 => peakK_ge l l 0
  | n + 1 => by
    have := dpeakK_le l n
    have := peak_any l (atL l n).f
    unfold dpeakK
    rw [dsum_held]
    omega
/-- both are the same -/
theorem peak_same (l : List Lg) : dpeakK l l.length = peakF l := by
  refine Int.le_antisymm (dpeakK_le l _) (peakK_le l _ l 0 (dpeakK_nn l _) fun x hx _ => ?_)
  obtain ⟨k, hk, rfl⟩ := mem_atL hx
  exact dpeakK_ge l _ k hk
/-- with buffers of their own no less is held -/
theorem held_less {l k : List Lg} (hlen : l.length = k.length) (hb : ∀ i j, i < k.length → j < k.length → (atL k i).b = (atL k j).b → i = j) (h : ∀ i, i < l.length → (atL l i).s = (atL k i).s ∧ (atL l i).f = (atL k i).f ∧ (atL l i).t = (atL k i).t) (p : Int) : heldF l p ≤ heldF k p := by
  have hh : ∀ i, i < l.length → heldB p (atL l i) = heldB p (atL k i) := fun i hi => by
    obtain ⟨_, h2, h3⟩ := h i hi
    unfold heldB
    rw [h2, h3]
  -- each element's share
  have hs : ∀ i, 0 ≤ (if heldB p (atL k i) then cap (max 0 (atL k i).s) else 0) := fun i => by
    split
    · exact cap_nn (by omega)
    · exact Int.le_refl _
  have e1 : sumG (fun b => cap (szF p b k)) (allB k) = sumN (fun i => if heldB p (atL k i) then cap (max 0 (atL k i).s) else 0) k.length := by
    rw [sumN_by (β := fun i => (atL k i).b) (allB_nodup k) _ (fun i hi => (mem_allB _ _).2 ⟨_, atL_mem hi, rfl⟩)]
    refine sumG_same fun b hbm => ?_
    obtain ⟨x, hx, rfl⟩ := (mem_allB _ _).1 hbm
    obtain ⟨i, hi, rfl⟩ := mem_atL hx
    rw [sumN_one (k0 := i) _ hi]
    · show _ = (if (atL k i).b = (atL k i).b then _ else _)
      rw [if_pos rfl]
      by_cases hp : heldB p (atL k i) = true
      · rw [if_pos hp]
        have g1 := szF_ge (atL_mem hi) hp rfl
        have g2 := szF_nn p (atL k i).b k
        rcases szF_or p (atL k i).b k with e | ⟨y, hy, y1, y2, y3⟩
        · rw [e] at g1 ⊢; rw [show max 0 (atL k i).s = 0 by omega]
        · obtain ⟨j, hj, rfl⟩ := mem_atL hy
          obtain rfl := hb j i hj hi y2
          rw [← y3, show max 0 (atL k j).s = (atL k j).s by omega]
      · rw [if_neg hp]
        rcases szF_or p (atL k i).b k with e | ⟨y, hy, y1, y2, y3⟩
        · rw [e, cap_zero]
        · obtain ⟨j, hj, rfl⟩ := mem_atL hy
          obtain rfl := hb j i hj hi y2
          exact absurd y1 hp
    · intro j hj hne
      exact if_neg (fun e => hne (hb j i hj hi e))
  have e2 : sumG (fun b => cap (szF p b l)) (allB l) ≤ sumN (fun i => if heldB p (atL k i) then cap (max 0 (atL k i).s) else 0) l.length := by
    rw [sumN_by (β := fun i => (atL l i).b) (allB_nodup l) _ (fun i hi => (mem_allB _ _).2 ⟨_, atL_mem hi, rfl⟩)]
    refine sumG_mono fun b hbm => ?_
    rcases szF_or p b l with e | ⟨y, hy, y1, y2, y3⟩
    · rw [e, cap_zero]
      refine sumN_nn (fun i => ?_) _
      split
      · exact hs i
      · exact Int.le_refl _
    · obtain ⟨j, hj, rfl⟩ := mem_atL hy
      have g : ∀ (φ : Nat → Int), (∀ i, 0 ≤ φ i) → ∀ n, j < n → φ j ≤ sumN φ n := fun φ hφ n => by
        induction n with
        | zero => intro h; omega
        | succ n ih =>
          intro hn
          have := hφ n
          have h0 := sumN_nn hφ n
          unfold sumN
          by_cases e : j = n
          · subst e; omega
          · have := ih (by omega); omega
      refine Int.le_trans ?_ (g _ (fun i => ?_) _ hj)
      · rw [if_pos y2, ← hh j hj, if_pos y1, ← y3, (h j hj).1]
        exact cap_le (by omega)
      · split
        · exact hs i
        · exact Int.le_refl _
  unfold heldF
  rw [e1, ← hlen]
  exact cap_le e2
theorem peak_less {l k : List Lg} (hlen : l.length = k.length) (hb : ∀ i j, i < k.length → j < k.length → (atL k i).b = (atL k j).b → i = j) (h : ∀ i, i < l.length → (atL l i).s = (atL k i).s ∧ (atL l i).f = (atL k i).f ∧ (atL l i).t = (atL k i).t) : peakF l ≤ peakF k := by
  refine peakK_le l _ l 0 (peakK_ge k k 0) fun x hx hxt => ?_
  obtain ⟨i, hi, rfl⟩ := mem_atL hx
  exact Int.le_trans (held_less hlen hb h _) (peak_any k _)
end Go.Proofs.Ytmifojpmomdmeaa
