/- Plain mathematics of homes: places in the sorted row are how many are ahead. -/
import Derived.Test.YtolohbegdjnjnaaStQ
namespace Go.Proofs.Ytolohbegdjnjnaa
set_option linter.unusedVariables false

def wAt (W : List Int) (x : Int) : Int := W.getD x.toNat 0
def fW (W : List Int) (x y : Int) : Int := wAt W y - wAt W x
def lt1 (W : List Int) (x y : Int) : Bool := decide (fW W x y < 0)
/-- x lies ahead of y: it weighs more, or as much and is the lesser one -/
def lt2W (W : List Int) (x y : Int) : Bool := decide (wAt W y < wAt W x) || (wAt W x == wAt W y && decide (x < y))
theorem lt2_iff {W : List Int} {x y : Int} : lt2W W x y = true ↔ wAt W y < wAt W x ∨ (wAt W x = wAt W y ∧ x < y) := by simp [lt2W]
theorem lt2_trn (W : List Int) : Trn (lt2W W) := by
  intro x y z h1 h2
  rw [lt2_iff] at *
  omega
theorem lt2_asym {W : List Int} {x y : Int} (h : lt2W W x y = true) : lt2W W y x = false := by
  cases h' : lt2W W y x with
  | false => rfl
  | true => rw [lt2_iff] at *; omega
theorem lt2_irr (W : List Int) (x : Int) : lt2W W x x = false := by
  cases h' : lt2W W x x with
  | false => rfl
  | true => rw [lt2_iff] at *; omega
theorem cross_rising (W : List Int) {l : List Int} (h : l.Pairwise (· < ·)) : CrossIn (lt1 W) (lt2W W) l := by
  refine h.imp ?_
  intro x y hxy
  constructor
  · intro h1
    have h1 : fW W y x < 0 := of_decide_eq_true h1
    unfold fW at h1
    rw [lt2_iff]; omega
  · intro h1
    have h1 : ¬ fW W y x < 0 := of_decide_eq_false h1
    unfold fW at h1
    rw [lt2_iff]; omega
def aheadW (W : List Int) (l : List Int) (v : Int) : Nat := l.countP fun k => lt2W W k v
theorem ahead_full {W V : List Int} {v : Int} : aheadW W V v = V.countP fun k => lt2W W k v := rfl
theorem ahead_perm (W : List Int) {l l' : List Int} (h : l'.Perm l) (v : Int) : aheadW W l' v = aheadW W l v := h.countP_eq _
theorem ahead_at (W : List Int) {P Q : List Int} {v : Int} (h : Srt (lt2W W) (P ++ v :: Q)) : aheadW W (P ++ v :: Q) v = P.length := by
  obtain ⟨h1, h2, h3⟩ := List.pairwise_append.mp h
  have h4 := List.pairwise_cons.mp h2
  unfold aheadW
  rw [List.countP_append, List.countP_cons]
  have e1 : P.countP (fun k => lt2W W k v) = P.length := List.countP_eq_length.mpr fun a ha => h3 a ha v (by simp)
  have e2 : Q.countP (fun k => lt2W W k v) = 0 := List.countP_eq_zero.mpr fun a ha => by rw [lt2_asym (h4.1 a ha)]; simp
  rw [e1, e2, lt2_irr]
  simp

/-- a variable's home is laid: in a register, or in a slot -/
def layH (a : Nat) (H : List Int) (v : Int) : List Int := if a < 20 then H.set (v.toNat * 2) (5 + (a : Int)) else H.set (v.toNat * 2 + 1) ((a : Int) - 20)
def homesR : List Int → Nat → List Int → List Int
  | [], _, H => H
  | v :: l, i, H => homesR l (i + 1) (layH i H v)
def homesD (W V : List Int) : List Int → List Int → List Int
  | [], H => H
  | v :: l, H => homesD W V l (layH (aheadW W V v) H v)
theorem homesD_foldl (W V l H : List Int) : homesD W V l H = l.foldl (fun H v => layH (aheadW W V v) H v) H := by
  induction l generalizing H with
  | nil => rfl
  | cons v l ih => simp [homesD, ih]
theorem homesR_eq (W : List Int) (Q : List Int) : ∀ (P H : List Int), Srt (lt2W W) (P ++ Q) → homesR Q P.length H = homesD W (P ++ Q) Q H := by
  induction Q with
  | nil => intro P H _; rfl
  | cons v Q ih =>
    intro P H h
    rw [homesR, homesD, ahead_at W h]
    have := ih (P ++ [v]) (layH P.length H v) (by simpa using h)
    simp only [List.length_append, List.length_cons, List.length_nil, List.append_assoc, List.cons_append, List.nil_append] at this
    exact this
theorem layH_comm {a b : Nat} {x y : Int} (H : List Int) (h : x.toNat ≠ y.toNat) : layH a (layH b H y) x = layH b (layH a H x) y := by
  unfold layH
  split <;> split <;> exact List.set_comm _ _ (by omega)
/-- the same homes, in whichever order they are laid -/
theorem homes_perm (W V : List Int) {l l' : List Int} (h : l'.Perm l) (hpos : ∀ v ∈ l, 0 ≤ v) (H : List Int) : homesD W V l' H = homesD W V l H := by
  rw [homesD_foldl, homesD_foldl]
  refine List.Perm.foldl_eq' h (fun x hx y hy z => ?_) H
  by_cases e : x = y
  · subst e; rfl
  · have p1 := hpos x (h.mem_iff.mp hx)
    have p2 := hpos y (h.mem_iff.mp hy)
    exact (layH_comm z (by omega)).symm
theorem homesD_congr (W : List Int) {V V' : List Int} (h : ∀ v, aheadW W V v = aheadW W V' v) (l H : List Int) : homesD W V l H = homesD W V' l H := by
  rw [homesD_foldl, homesD_foldl]
  simp only [h]
/-- what the program lays is what the document lays -/
theorem homes_same (W : List Int) {l : List Int} (hr : l.Pairwise (· < ·)) (hpos : ∀ v ∈ l, 0 ≤ v) (H : List Int) : homesR (stableS (lt1 W) l) 0 H = homesD W l l H := by
  obtain ⟨h1, h2⟩ := stable_spec (lt := lt1 W) (lt2_trn W) l (cross_rising W hr)
  have := homesR_eq W (stableS (lt1 W) l) [] H h2
  simp only [List.nil_append, List.length_nil] at this
  rw [this, homes_perm W _ h1 hpos, homesD_congr W (fun v => ahead_perm W h1 v)]

/-! ### how many slots -/
def slotsD (W V : List Int) : List Int → Nat → Nat
  | [], n => n
  | v :: l, n => slotsD W V l (if aheadW W V v < 20 then n else n + 1)
theorem slotsD_count (W V l : List Int) (n : Nat) : slotsD W V l n = n + l.countP fun v => decide (20 ≤ aheadW W V v) := by
  induction l generalizing n with
  | nil => rfl
  | cons v l ih =>
    rw [slotsD, ih, List.countP_cons]
    by_cases h : aheadW W V v < 20
    · rw [if_pos h, if_neg (by simp; omega)]; omega
    · rw [if_neg h, if_pos (by simp; omega)]; omega
theorem count_sorted (W : List Int) (Q : List Int) : ∀ (P : List Int), Srt (lt2W W) (P ++ Q) → Q.countP (fun v => decide (20 ≤ aheadW W (P ++ Q) v)) = Q.length - (20 - P.length) := by
  induction Q with
  | nil => intro P _; simp
  | cons v Q ih =>
    intro P h
    have := ih (P ++ [v]) (by simpa using h)
    simp only [List.length_append, List.length_cons, List.length_nil, List.append_assoc, List.cons_append, List.nil_append] at this
    rw [List.countP_cons, this, ahead_at W h, List.length_cons]
    by_cases hp : 20 ≤ P.length
    · rw [if_pos (by simpa using hp)]; omega
    · rw [if_neg (by simpa using hp)]; omega
theorem slots_same (W : List Int) {l : List Int} (hr : l.Pairwise (· < ·)) : slotsD W l l 0 = l.length - 20 := by
  obtain ⟨h1, h2⟩ := stable_spec (lt := lt1 W) (lt2_trn W) l (cross_rising W hr)
  have := count_sorted W (stableS (lt1 W) l) [] h2
  simp only [List.nil_append, List.length_nil] at this
  rw [slotsD_count, ← h1.countP_eq]
  have e : (stableS (lt1 W) l).countP (fun v => decide (20 ≤ aheadW W l v)) = (stableS (lt1 W) l).countP (fun v => decide (20 ≤ aheadW W (stableS (lt1 W) l) v)) := by
    simp only [ahead_perm W h1]
  rw [e, this, h1.length_eq]
  omega

/-! ### where each lies -/
theorem layH_len (a : Nat) (H : List Int) (v : Int) : (layH a H v).length = H.length := by unfold layH; split <;> simp
theorem homesD_len (W V l H : List Int) : (homesD W V l H).length = H.length := by
  induction l generalizing H with
  | nil => rfl
  | cons v l ih => rw [homesD, ih, layH_len]
theorem homesR_len (l : List Int) (i : Nat) (H : List Int) : (homesR l i H).length = H.length := by
  induction l generalizing i H with
  | nil => rfl
  | cons v l ih => rw [homesR, ih, layH_len]
theorem homesD_reg (W V : List Int) (l : List Int) : ∀ (H : List Int) (k : Nat), k * 2 + 1 < H.length → (∀ v ∈ l, 0 ≤ v) →
    (homesD W V l H).getD (k * 2) 0 = (if (k : Int) ∈ l ∧ aheadW W V k < 20 then 5 + (aheadW W V k : Int) else H.getD (k * 2) 0) ∧
    (homesD W V l H).getD (k * 2 + 1) 0 = (if (k : Int) ∈ l ∧ ¬ aheadW W V k < 20 then (aheadW W V k : Int) - 20 else H.getD (k * 2 + 1) 0) := by
  induction l with
  | nil => intro H k _ _; simp [homesD]
  | cons v l ih =>
    intro H k hk hp
    obtain ⟨h1, h2⟩ := ih (layH (aheadW W V v) H v) k (by rw [layH_len]; exact hk) (fun u hu => hp u (by simp [hu]))
    have hv := hp v (by simp)
    rw [homesD, h1, h2]
    by_cases e : (k : Int) = v
    · subst e
      unfold layH
      simp only [Int.toNat_natCast, List.mem_cons, true_or, true_and]
      by_cases ha : aheadW W V (k : Int) < 20
      · simp only [ha, if_true, and_true, not_true, and_false, if_false]
        refine ⟨?_, ?_⟩
        · split
          · rfl
          · simp only [List.getD_eq_getElem?_getD]
            rw [List.getElem?_set_self (by omega)]; rfl
        · simp only [List.getD_eq_getElem?_getD]
          rw [List.getElem?_set_ne (by omega)]
      · simp only [ha, if_false, and_false, not_false_eq_true, and_true, if_true]
        refine ⟨?_, ?_⟩
        · simp only [List.getD_eq_getElem?_getD]
          rw [List.getElem?_set_ne (by omega)]
        · split
          · rfl
          · simp only [List.getD_eq_getElem?_getD]
            rw [List.getElem?_set_self (by omega)]; rfl
    · have e' : ¬ v.toNat = k := by omega
      have q1 : (layH (aheadW W V v) H v).getD (k * 2) 0 = H.getD (k * 2) 0 := by
        unfold layH
        simp only [List.getD_eq_getElem?_getD]
        split
        · rw [List.getElem?_set_ne (by omega)]
        · rw [List.getElem?_set_ne (by omega)]
      have q2 : (layH (aheadW W V v) H v).getD (k * 2 + 1) 0 = H.getD (k * 2 + 1) 0 := by
        unfold layH
        simp only [List.getD_eq_getElem?_getD]
        split
        · rw [List.getElem?_set_ne (by omega)]
        · rw [List.getElem?_set_ne (by omega)]
      rw [q1, q2]
      simp [List.mem_cons, e]
/-- no two variables have as many ahead -/
theorem ahead_inj (W : List Int) {l : List Int} (hr : l.Pairwise (· < ·)) {u v : Int} (hu : u ∈ l) (hv : v ∈ l) (h : aheadW W l u = aheadW W l v) : u = v := by
  obtain ⟨h1, h2⟩ := stable_spec (lt := lt1 W) (lt2_trn W) l (cross_rising W hr)
  rw [← ahead_perm W h1, ← ahead_perm W h1] at h
  have hu := h1.mem_iff.mpr hu
  have hv := h1.mem_iff.mpr hv
  generalize stableS (lt1 W) l = s at *
  obtain ⟨P, Q, rfl⟩ := List.append_of_mem hu
  rw [ahead_at W h2] at h
  obtain ⟨P', Q', e⟩ := List.append_of_mem hv
  have h3 := h2
  rw [e] at h3 h
  rw [ahead_at W h3] at h
  have := (List.append_inj e h).2
  simp at this
  exact this.1
theorem ahead_lt (W : List Int) {l : List Int} {v : Int} (hv : v ∈ l) : aheadW W l v < l.length := by
  unfold aheadW
  refine Nat.lt_of_le_of_ne (List.countP_le_length) fun h => ?_
  have := List.countP_eq_length.mp h v hv
  rw [lt2_irr] at this
  cases this
end Go.Proofs.Ytolohbegdjnjnaa
