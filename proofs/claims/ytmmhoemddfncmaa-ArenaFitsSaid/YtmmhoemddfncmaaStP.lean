/- Plain mathematics of Go's stable sort (insertion in blocks, then symMerge), as functions on lists of integers. -/
import Derived.Lib.Hide
namespace Go.Proofs.Ytmmhoemddfncmaa
set_option linter.unusedVariables false

/-- data[i], data[j] = data[j], data[i] -/
def sw (i j : Nat) (xs : List Int) : List Int := (xs.set i (xs.getD j 0)).set j (xs.getD i 0)
def swR : Nat → Nat → Nat → List Int → List Int
  | _, _, 0, xs => xs
  | a, b, n + 1, xs => swR (a + 1) (b + 1) n (sw a b xs)
def insI (lt : Int → Int → Bool) (a : Nat) : Nat → List Int → List Int
  | 0, xs => xs
  | j + 1, xs => if a < j + 1 ∧ lt (xs.getD (j + 1) 0) (xs.getD j 0) = true then insI lt a j (sw (j + 1) j xs) else xs
def insO (lt : Int → Int → Bool) (a : Nat) : Nat → Nat → List Int → List Int
  | _, 0, xs => xs
  | i, n + 1, xs => insO lt a (i + 1) n (insI lt a i xs)
def insS (lt : Int → Int → Bool) (a b : Nat) (xs : List Int) : List Int := insO lt a (a + 1) (b - (a + 1)) xs
def bsS (p : Nat → Bool) (i j : Nat) : Nat := if i < j then (if p ((i + j) / 2) = true then bsS p ((i + j) / 2 + 1) j else bsS p i ((i + j) / 2)) else i
termination_by j - i
def upS : Nat → Nat → List Int → List Int
  | _, 0, xs => xs
  | k, n + 1, xs => upS (k + 1) n (sw k (k + 1) xs)
def dnS : Nat → Nat → List Int → List Int
  | _, 0, xs => xs
  | k, n + 1, xs => dnS (k - 1) n (sw k (k - 1) xs)
def rotT (a m b : Nat) (xs : List Int) : List Int := xs.take a ++ ((xs.drop m).take (b - m) ++ ((xs.drop a).take (m - a) ++ xs.drop b))
/-- where symMerge's search begins, ends, and what it finds -/
def s0S (a m b mid : Nat) : Nat := if mid < m then mid + m - b else a
def r0S (m mid : Nat) : Nat := if mid < m then mid else m
def stS (lt : Int → Int → Bool) (a m b mid : Nat) (xs : List Int) : Nat := bsS (fun c => !lt (xs.getD (mid + m - 1 - c) 0) (xs.getD c 0)) (s0S a m b mid) (r0S m mid)
def x1S (m st en : Nat) (xs : List Int) : List Int := if st < m ∧ m < en then rotT st m en xs else xs
def x2S (g : Nat → Nat → Nat → List Int → List Int) (a st mid : Nat) (xs : List Int) : List Int := if a < st ∧ st < mid then g a st mid xs else xs
def symT (g : Nat → Nat → Nat → List Int → List Int) (a m b mid st : Nat) (xs : List Int) : List Int := x2S g mid (mid + m - st) b (x2S g a st mid (x1S m st (mid + m - st) xs))
def symS (lt : Int → Int → Bool) : Nat → Nat → Nat → Nat → List Int → List Int
  | 0, _, _, _, xs => xs
  | f + 1, a, m, b, xs =>
    if m = a + 1 then upS a (bsS (fun h => lt (xs.getD h 0) (xs.getD a 0)) m b - 1 - a) xs
    else if b = m + 1 then dnS m (m - bsS (fun h => !lt (xs.getD m 0) (xs.getD h 0)) a m) xs
    else symT (symS lt f) a m b ((a + b) / 2) (stS lt a m b ((a + b) / 2) xs) xs
def blkS (lt : Int → Int → Bool) (n : Nat) : Nat → Nat → List Int → List Int
  | 0, _, xs => xs
  | f + 1, a, xs => if a + 20 ≤ n then blkS lt n f (a + 20) (insS lt a (a + 20) xs) else insS lt a n xs
def passS (lt : Int → Int → Bool) (n s : Nat) : Nat → Nat → List Int → List Int
  | 0, _, xs => xs
  | f + 1, a, xs => if a + 2 * s ≤ n then passS lt n s f (a + 2 * s) (symS lt (2 * s) a (a + s) (a + 2 * s) xs) else if a + s < n then symS lt (2 * s) a (a + s) n xs else xs
def passesS (lt : Int → Int → Bool) (n : Nat) : Nat → Nat → List Int → List Int
  | 0, _, xs => xs
  | f + 1, s, xs => if s < n then passesS lt n f (2 * s) (passS lt n s n 0 xs) else xs
def stableS (lt : Int → Int → Bool) (xs : List Int) : List Int := passesS lt xs.length xs.length 20 (blkS lt xs.length xs.length 0 xs)

/-! ### lengths -/
@[simp] theorem sw_len (i j : Nat) (xs : List Int) : (sw i j xs).length = xs.length := by simp [sw]
@[simp] theorem swR_len (a b n : Nat) (xs : List Int) : (swR a b n xs).length = xs.length := by
  induction n generalizing a b xs with
  | zero => rfl
  | succ n ih => simp [swR, ih]
@[simp] theorem insI_len (lt) (a j : Nat) (xs : List Int) : (insI lt a j xs).length = xs.length := by
  induction j generalizing xs with
  | zero => rfl
  | succ n ih => unfold insI; split <;> simp [ih]
@[simp] theorem insO_len (lt) (a i n : Nat) (xs : List Int) : (insO lt a i n xs).length = xs.length := by
  induction n generalizing i xs with
  | zero => rfl
  | succ n ih => simp [insO, ih]
@[simp] theorem insS_len (lt) (a b : Nat) (xs : List Int) : (insS lt a b xs).length = xs.length := by simp [insS]
@[simp] theorem upS_len (k n : Nat) (xs : List Int) : (upS k n xs).length = xs.length := by
  induction n generalizing k xs with
  | zero => rfl
  | succ n ih => simp [upS, ih]
@[simp] theorem dnS_len (k n : Nat) (xs : List Int) : (dnS k n xs).length = xs.length := by
  induction n generalizing k xs with
  | zero => rfl
  | succ n ih => simp [dnS, ih]
theorem rotT_len {a m b : Nat} {xs : List Int} (h1 : a ≤ m) (h2 : m ≤ b) (h3 : b ≤ xs.length) : (rotT a m b xs).length = xs.length := by
  simp [rotT]; omega

/-! ### binary search -/
theorem bs_spec (p : Nat → Bool) (i j : Nat) (h : i ≤ j) : i ≤ bsS p i j ∧ bsS p i j ≤ j ∧ (i < bsS p i j → p (bsS p i j - 1) = true) ∧ (bsS p i j < j → p (bsS p i j) = false) := by
  induction hn : j - i using Nat.strongRecOn generalizing i j with
  | _ n ih =>
    rw [bsS]
    by_cases hij : i < j
    · rw [if_pos hij]
      by_cases hp : p ((i + j) / 2) = true
      · rw [if_pos hp]
        obtain ⟨h1, h2, h3, h4⟩ := ih (j - ((i + j) / 2 + 1)) (by omega) ((i + j) / 2 + 1) j (by omega) rfl
        refine ⟨by omega, h2, fun _ => ?_, h4⟩
        by_cases he : (i + j) / 2 + 1 < bsS p ((i + j) / 2 + 1) j
        · exact h3 he
        · have : bsS p ((i + j) / 2 + 1) j - 1 = (i + j) / 2 := by omega
          rw [this]; exact hp
      · rw [if_neg hp]
        obtain ⟨h1, h2, h3, h4⟩ := ih ((i + j) / 2 - i) (by omega) i ((i + j) / 2) (by omega) rfl
        refine ⟨h1, by omega, h3, fun hlt => ?_⟩
        by_cases he : bsS p i ((i + j) / 2) < (i + j) / 2
        · exact h4 he
        · have : bsS p i ((i + j) / 2) = (i + j) / 2 := by omega
          rw [this]; simpa using hp
    · rw [if_neg hij]
      exact ⟨Nat.le_refl _, h, fun h => by omega, fun h => by omega⟩

/-! ### swaps of what lies side by side, and further -/
theorem getD_mid (L R : List Int) (x d : Int) : (L ++ x :: R).getD L.length d = x := by
  rw [List.getD_eq_getElem?_getD, List.getElem?_append_right (Nat.le_refl _)]; simp
theorem set_mid (L R : List Int) (x y : Int) : (L ++ x :: R).set L.length y = L ++ y :: R := by
  rw [List.set_append_right _ _ (Nat.le_refl _)]; simp
theorem getD_far (L M R : List Int) (x y d : Int) : (L ++ x :: (M ++ y :: R)).getD (L.length + 1 + M.length) d = y := by
  rw [show L ++ x :: (M ++ y :: R) = (L ++ x :: M) ++ y :: R by simp, show L.length + 1 + M.length = (L ++ x :: M).length by simp; omega, getD_mid]
theorem set_far (L M R : List Int) (x y z : Int) : (L ++ x :: (M ++ y :: R)).set (L.length + 1 + M.length) z = L ++ x :: (M ++ z :: R) := by
  rw [show L ++ x :: (M ++ y :: R) = (L ++ x :: M) ++ y :: R by simp, show L.length + 1 + M.length = (L ++ x :: M).length by simp; omega, set_mid]; simp
theorem sw_far {i j : Nat} (L M R : List Int) (x y : Int) (hi : L.length = i) (hj : L.length + 1 + M.length = j) : sw i j (L ++ x :: (M ++ y :: R)) = L ++ y :: (M ++ x :: R) := by
  subst hi; subst hj
  unfold sw
  rw [getD_mid, getD_far, set_mid, set_far]
theorem sw_rev {i j : Nat} (L M R : List Int) (x y : Int) (hi : L.length = i) (hj : L.length + 1 + M.length = j) : sw j i (L ++ x :: (M ++ y :: R)) = L ++ y :: (M ++ x :: R) := by
  subst hi; subst hj
  unfold sw
  rw [getD_mid, getD_far, set_far, set_mid]
theorem sw_next {i : Nat} (L R : List Int) (x y : Int) (hi : L.length = i) : sw i (i + 1) (L ++ x :: y :: R) = L ++ y :: x :: R := sw_far L [] R x y hi (by simp [hi])
theorem sw_prev {i : Nat} (L R : List Int) (x y : Int) (hi : L.length = i) : sw (i + 1) i (L ++ x :: y :: R) = L ++ y :: x :: R := sw_rev L [] R x y hi (by simp [hi])

theorem swR_blocks {a b n : Nat} (L A M B R : List Int) (ha : L.length = a) (hA : A.length = n) (hB : B.length = n) (hb : a + n + M.length = b) :
    swR a b n (L ++ (A ++ (M ++ (B ++ R)))) = L ++ (B ++ (M ++ (A ++ R))) := by
  induction n generalizing a b L A M B with
  | zero =>
    obtain rfl := List.eq_nil_of_length_eq_zero hA
    obtain rfl := List.eq_nil_of_length_eq_zero hB
    rfl
  | succ n ih =>
    obtain ⟨x, A, rfl⟩ : ∃ x A', A = x :: A' := by cases A with | nil => simp at hA | cons x A => exact ⟨x, A, rfl⟩
    obtain ⟨y, B, rfl⟩ : ∃ x A', B = x :: A' := by cases B with | nil => simp at hB | cons x A => exact ⟨x, A, rfl⟩
    simp only [List.length_cons, Nat.add_right_cancel_iff] at hA hB
    unfold swR
    rw [show L ++ (x :: A ++ (M ++ (y :: B ++ R))) = L ++ x :: ((A ++ M) ++ y :: (B ++ R)) by simp, sw_far L (A ++ M) (B ++ R) x y ha (by simp; omega)]
    have := ih (a := a + 1) (b := b + 1) (L ++ [y]) A (M ++ [x]) B (by simp [ha]) hA hB (by simp; omega)
    simp only [List.append_assoc, List.cons_append, List.nil_append] at this ⊢
    exact this

theorem rot_lists {a m b : Nat} (L U V R : List Int) (ha : L.length = a) (hm : a + U.length = m) (hb : m + V.length = b) : rotT a m b (L ++ (U ++ (V ++ R))) = L ++ (V ++ (U ++ R)) := by
  subst ha; subst hm; subst hb
  unfold rotT
  have e1 : (L ++ (U ++ (V ++ R))).take L.length = L := by simp
  have e2 : (L ++ (U ++ (V ++ R))).drop L.length = U ++ (V ++ R) := by simp
  have e3 : (L ++ (U ++ (V ++ R))).drop (L.length + U.length) = V ++ R := by
    rw [← List.append_assoc, ← List.length_append, List.drop_left]
  have e4 : (L ++ (U ++ (V ++ R))).drop (L.length + U.length + V.length) = R := by
    rw [← List.append_assoc, ← List.append_assoc, ← List.length_append, ← List.length_append, List.drop_left]
  rw [e1, e2, e3, e4]
  simp

/-- where a rotation stands: i before m, j from m on are still to be turned -/
def RotAt (m i j : Nat) (xs T : List Int) : Prop := ∃ L U V R, U.length = i ∧ V.length = j ∧ L.length + i = m ∧ xs = L ++ (U ++ (V ++ R)) ∧ T = L ++ (V ++ (U ++ R))
theorem rot_start {a m b : Nat} {xs : List Int} (h1 : a ≤ m) (h2 : m ≤ b) (h3 : b ≤ xs.length) : RotAt m (m - a) (b - m) xs (rotT a m b xs) := by
  refine ⟨xs.take a, (xs.drop a).take (m - a), (xs.drop m).take (b - m), xs.drop b, by simp; omega, by simp; omega, by simp; omega, ?_, ?_⟩
  · have e1 : xs = xs.take a ++ xs.drop a := (List.take_append_drop a xs).symm
    have e2 : xs.drop a = (xs.drop a).take (m - a) ++ xs.drop m := by
      have := (List.take_append_drop (m - a) (xs.drop a)).symm
      rw [List.drop_drop, show a + (m - a) = m by omega] at this
      exact this
    have e3 : xs.drop m = (xs.drop m).take (b - m) ++ xs.drop b := by
      have := (List.take_append_drop (b - m) (xs.drop m)).symm
      rw [List.drop_drop, show m + (b - m) = b by omega] at this
      exact this
    rw [← e3, ← e2, ← e1]
  · rfl
theorem rot_more {m i j : Nat} {xs T : List Int} (h : RotAt m i j xs T) (hj : j < i) : RotAt m (i - j) j (swR (m - i) m j xs) T := by
  obtain ⟨L, U, V, R, hU, hV, hL, rfl, rfl⟩ := h
  obtain ⟨U1, U2, rfl, h1⟩ : ∃ U1 U2, U = U1 ++ U2 ∧ U1.length = j := ⟨U.take j, U.drop j, by simp, by simp; omega⟩
  simp at hU
  refine ⟨L ++ V, U2, U1, R, by omega, h1, by simp; omega, ?_, by simp⟩
  have := swR_blocks (a := m - i) (b := m) (n := j) L U1 U2 V R (by omega) h1 hV (by omega)
  simp only [List.append_assoc] at this ⊢
  exact this
theorem rot_less {m i j : Nat} {xs T : List Int} (h : RotAt m i j xs T) (hj : i < j) : RotAt m i (j - i) (swR (m - i) (m + j - i) i xs) T := by
  obtain ⟨L, U, V, R, hU, hV, hL, rfl, rfl⟩ := h
  obtain ⟨V1, V2, rfl, h1⟩ : ∃ U1 U2, V = U1 ++ U2 ∧ U1.length = j - i := ⟨V.take (j - i), V.drop (j - i), by simp, by simp; omega⟩
  simp at hV
  refine ⟨L, V2, V1, U ++ R, by omega, h1, by omega, ?_, by simp⟩
  have := swR_blocks (a := m - i) (b := m + j - i) (n := i) L U V1 V2 R (by omega) hU (by omega) (by omega)
  simp only [List.append_assoc] at this ⊢
  exact this
theorem rot_end {m i : Nat} {xs T : List Int} (h : RotAt m i i xs T) : swR (m - i) m i xs = T := by
  obtain ⟨L, U, V, R, hU, hV, hL, rfl, rfl⟩ := h
  have := swR_blocks (a := m - i) (b := m) (n := i) L U [] V R (by omega) hU hV (by simp; omega)
  simpa using this

/-! ### moving one element -/
theorem up_lists {a : Nat} (L B R : List Int) (x : Int) (ha : L.length = a) : upS a B.length (L ++ x :: (B ++ R)) = L ++ (B ++ x :: R) := by
  induction B generalizing a L with
  | nil => rfl
  | cons y B ih =>
    rw [List.length_cons, upS, List.cons_append, sw_next L _ x y ha]
    have := ih (a := a + 1) (L ++ [y]) (by simp [ha])
    simpa using this
theorem dn_lists {m : Nat} (L B R : List Int) (x : Int) (hm : L.length + B.length = m) : dnS m B.length (L ++ (B ++ x :: R)) = L ++ x :: (B ++ R) := by
  induction hn : B.length generalizing m B R with
  | zero => obtain rfl := List.eq_nil_of_length_eq_zero hn; rfl
  | succ n ih =>
    obtain ⟨B, y, rfl⟩ : ∃ B' y, B = B' ++ [y] := ⟨B.dropLast, B.getLast (by intro h; simp [h] at hn), (List.dropLast_concat_getLast _).symm⟩
    simp at hn hm
    unfold dnS
    obtain ⟨k, rfl⟩ : ∃ k, m = k + 1 := ⟨m - 1, by omega⟩
    rw [Nat.add_sub_cancel, show L ++ (B ++ [y] ++ x :: R) = (L ++ B) ++ y :: x :: R by simp, sw_prev (L ++ B) R y x (by simp; omega)]
    have := ih (m := k) B (y :: R) (by omega) hn
    simp only [List.append_assoc, List.cons_append, List.nil_append] at this ⊢
    exact this

/-! ### insertion -/
variable {lt lt2 : Int → Int → Bool}
/-- of x ∈ A that lay ahead of y ∈ B: the comparison tells which is first -/
def Cross (lt lt2 : Int → Int → Bool) (A B : List Int) : Prop := ∀ x ∈ A, ∀ y ∈ B, (lt y x = true → lt2 y x = true) ∧ (lt y x = false → lt2 x y = true)
def Srt (lt2 : Int → Int → Bool) (l : List Int) : Prop := l.Pairwise fun x y => lt2 x y = true
def Trn (lt2 : Int → Int → Bool) : Prop := ∀ x y z, lt2 x y = true → lt2 y z = true → lt2 x z = true

theorem insI_spec (ht : Trn lt2) {a j : Nat} (L S R : List Int) (x : Int) (ha : L.length = a) (hj : a + S.length = j) (hs : Srt lt2 S) (hc : Cross lt lt2 S [x]) :
    ∃ C, insI lt a j (L ++ (S ++ x :: R)) = L ++ (C ++ R) ∧ C.Perm (S ++ [x]) ∧ Srt lt2 C := by
  induction hn : S.length generalizing j S R with
  | zero =>
    obtain rfl := List.eq_nil_of_length_eq_zero hn
    refine ⟨[x], ?_, List.Perm.refl _, by simp [Srt]⟩
    cases j with
    | zero => rfl
    | succ j => unfold insI; rw [if_neg (by simp at hj; omega)]; simp
  | succ n ih =>
    obtain ⟨S, y, rfl⟩ : ∃ B' y, S = B' ++ [y] := ⟨S.dropLast, S.getLast (by intro h; simp [h] at hn), (List.dropLast_concat_getLast _).symm⟩
    simp at hn hj
    obtain ⟨k, rfl⟩ : ∃ k, j = k + 1 := ⟨j - 1, by omega⟩
    have hk : (L ++ S).length = k := by simp; omega
    have e1 : L ++ (S ++ [y] ++ x :: R) = (L ++ S) ++ y :: x :: R := by simp
    have g1 : ((L ++ S) ++ y :: x :: R).getD (k + 1) 0 = x := by
      have := getD_far (L ++ S) [] R y x 0
      simpa [hk] using this
    have g2 : ((L ++ S) ++ y :: x :: R).getD k 0 = y := by
      have := getD_mid (L ++ S) (x :: R) y 0
      rwa [hk] at this
    obtain ⟨c1, c2⟩ := hc y (by simp) x (by simp)
    have hs' := List.pairwise_append.mp hs
    unfold insI
    rw [e1, g1, g2]
    cases hl : lt x y with
    | true =>
      rw [if_pos ⟨by omega, rfl⟩, sw_prev (L ++ S) R y x hk]
      obtain ⟨C, h1, h2, h3⟩ := ih (j := k) S (y :: R) (by omega) hs'.1 (fun z hz => hc z (by simp [hz])) hn
      refine ⟨C ++ [y], by rw [List.append_assoc, h1]; simp, ?_, ?_⟩
      · refine (h2.append_right [y]).trans ?_
        simp only [List.append_assoc, List.cons_append, List.nil_append]
        exact List.Perm.append_left S (List.Perm.swap y x [])
      · refine List.pairwise_append.mpr ⟨h3, by simp, fun u hu v hv => ?_⟩
        simp at hv; subst hv
        have := h2.mem_iff.mp hu
        simp at this
        rcases this with hu | rfl
        · exact hs'.2.2 u hu v (by simp)
        · exact c1 hl
    | false =>
      rw [if_neg (by simp)]
      refine ⟨S ++ [y] ++ [x], by simp, List.Perm.refl _, List.pairwise_append.mpr ⟨hs, by simp, fun u hu v hv => ?_⟩⟩
      simp at hv; subst hv
      have hyx := c2 hl
      simp at hu
      rcases hu with hu | rfl
      · exact ht _ _ _ (hs'.2.2 u hu y (by simp)) hyx
      · exact hyx

/-- each pair that lies so is told right -/
def CrossIn (lt lt2 : Int → Int → Bool) (l : List Int) : Prop := l.Pairwise fun x y => (lt y x = true → lt2 y x = true) ∧ (lt y x = false → lt2 x y = true)
theorem CrossIn.split {A B : List Int} (h : CrossIn lt lt2 (A ++ B)) : CrossIn lt lt2 A ∧ CrossIn lt lt2 B ∧ Cross lt lt2 A B := by
  obtain ⟨h1, h2, h3⟩ := List.pairwise_append.mp h
  exact ⟨h1, h2, h3⟩
theorem Cross.perm {A A' B B' : List Int} (h : Cross lt lt2 A B) (hA : A'.Perm A) (hB : B'.Perm B) : Cross lt lt2 A' B' :=
  fun x hx y hy => h x (hA.mem_iff.mp hx) y (hB.mem_iff.mp hy)
theorem Cross.sub {A A' B B' : List Int} (h : Cross lt lt2 A B) (hA : ∀ x ∈ A', x ∈ A) (hB : ∀ x ∈ B', x ∈ B) : Cross lt lt2 A' B' :=
  fun x hx y hy => h x (hA x hx) y (hB y hy)

theorem insO_spec (ht : Trn lt2) {a i n : Nat} (L S B R : List Int) (ha : L.length = a) (hi : a + S.length = i) (hn : B.length = n) (hs : Srt lt2 S) (hc : Cross lt lt2 S B) (hb : CrossIn lt lt2 B) :
    ∃ C, insO lt a i n (L ++ (S ++ (B ++ R))) = L ++ (C ++ R) ∧ C.Perm (S ++ B) ∧ Srt lt2 C := by
  induction n generalizing i S B with
  | zero =>
    obtain rfl := List.eq_nil_of_length_eq_zero hn
    exact ⟨S, rfl, by simp, hs⟩
  | succ n ih =>
    obtain ⟨x, B, rfl⟩ : ∃ x A', B = x :: A' := by cases B with | nil => simp at hn | cons x A => exact ⟨x, A, rfl⟩
    obtain ⟨C, h1, h2, h3⟩ := insI_spec (lt := lt) ht L S (B ++ R) x ha hi hs (fun u hu v hv => by simp at hv; subst hv; exact hc u hu v (by simp))
    unfold insO
    rw [List.cons_append, h1]
    have hb' := List.pairwise_cons.mp hb
    obtain ⟨D, k1, k2, k3⟩ := ih (i := i + 1) C B (by rw [h2.length_eq]; simp; omega) (by simpa using hn) h3 (fun u hu v hv => by
      have := h2.mem_iff.mp hu
      simp at this
      rcases this with hu | rfl
      · exact hc u hu v (by simp [hv])
      · exact hb'.1 v hv) hb'.2
    refine ⟨D, k1, k2.trans ?_, k3⟩
    refine (h2.append_right B).trans ?_
    simp
theorem insS_spec (ht : Trn lt2) {a b : Nat} (L B R : List Int) (ha : L.length = a) (hb : a + B.length = b) (hc : CrossIn lt lt2 B) :
    ∃ C, insS lt a b (L ++ (B ++ R)) = L ++ (C ++ R) ∧ C.Perm B ∧ Srt lt2 C := by
  cases B with
  | nil =>
    refine ⟨[], ?_, List.Perm.refl _, by simp [Srt]⟩
    unfold insS
    rw [show b - (a + 1) = 0 by simp at hb; omega]
    rfl
  | cons x B =>
    have hc' := List.pairwise_cons.mp hc
    obtain ⟨C, h1, h2, h3⟩ := insO_spec (lt := lt) ht (a := a) (i := a + 1) (n := b - (a + 1)) L [x] B R ha (by simp) (by simp at hb; omega) (by simp [Srt]) (fun u hu v hv => by simp at hu; subst hu; exact hc'.1 v hv) hc'.2
    exact ⟨C, by unfold insS; simpa using h1, by simpa using h2, h3⟩
end Go.Proofs.Ytmmhoemddfncmaa
