/- Memory, plain: what was written last at an address; numbers out of bytes; bytes out of numbers. -/
import Init
namespace Go.Proofs.Ytghclbeoabkgcaa

/-- the byte that was written last at an address, or 0 -/
def atL (l : List (Nat × Nat)) (a : Nat) : Nat := l.foldl (fun v x => if x.1 = a then x.2 else v) 0
theorem atL_nil (a : Nat) : atL [] a = 0 := rfl
theorem atL_snoc (l : List (Nat × Nat)) (x : Nat × Nat) (a : Nat) : atL (l ++ [x]) a = if x.1 = a then x.2 else atL l a := by
  simp [atL, List.foldl_append]
/-- bytes that are written from an address on -/
def writes (a : Nat) : List Nat → List (Nat × Nat)
  | [] => []
  | b :: t => (a, b) :: writes (a + 1) t
theorem writes_length (a : Nat) (bs : List Nat) : (writes a bs).length = bs.length := by
  induction bs generalizing a with
  | nil => rfl
  | cons b t ih => simp [writes, ih]
theorem writes_snoc (a : Nat) (bs : List Nat) (b : Nat) : writes a (bs ++ [b]) = writes a bs ++ [(a + bs.length, b)] := by
  induction bs generalizing a with
  | nil => simp [writes]
  | cons c t ih => simp only [List.cons_append, writes, ih, List.length_cons]; rw [show a + 1 + t.length = a + (t.length + 1) by omega]
theorem atL_writes (l : List (Nat × Nat)) (a : Nat) (bs : List Nat) (x : Nat) :
    atL (l ++ writes a bs) x = if a ≤ x ∧ x < a + bs.length then bs.getD (x - a) 0 else atL l x := by
  induction bs generalizing a l with
  | nil => simp [writes]; intro h1 h2; omega
  | cons b t ih =>
    have e : l ++ writes a (b :: t) = (l ++ [(a, b)]) ++ writes (a + 1) t := by simp [writes]
    rw [e, ih, atL_snoc]
    by_cases h : a = x
    · subst h
      rw [if_neg (by omega), if_pos rfl, if_pos (by simp only [List.length_cons]; omega), Nat.sub_self]
      rfl
    · by_cases h1 : a + 1 ≤ x ∧ x < a + 1 + t.length
      · rw [if_pos h1, if_pos (by simp only [List.length_cons]; omega), show x - a = (x - (a + 1)) + 1 by omega]
        rfl
      · rw [if_neg h1, if_neg h, if_neg (by simp only [List.length_cons]; omega)]
/-- some bytes of a row are other ones -/
def setB (l : List Nat) (o : Nat) (bs : List Nat) : List Nat := l.take o ++ bs ++ l.drop (o + bs.length)
theorem setB_length (l : List Nat) (o : Nat) (bs : List Nat) (h : o + bs.length ≤ l.length) : (setB l o bs).length = l.length := by
  simp [setB]; omega
theorem setB_getD (l : List Nat) (o : Nat) (bs : List Nat) (h : o + bs.length ≤ l.length) (i : Nat) :
    (setB l o bs).getD i 0 = if o ≤ i ∧ i < o + bs.length then bs.getD (i - o) 0 else l.getD i 0 := by
  have hl : (l.take o).length = o := by simp; omega
  simp only [setB, List.getD_eq_getElem?_getD]
  by_cases h1 : i < o
  · rw [if_neg (by omega), List.append_assoc, List.getElem?_append_left (by omega), List.getElem?_take, if_pos h1]
  · by_cases h2 : i < o + bs.length
    · rw [if_pos (by omega), List.append_assoc, List.getElem?_append_right (by omega), hl, List.getElem?_append_left (by omega)]
    · rw [if_neg (by omega), List.getElem?_append_right (by simp; omega)]
      simp only [List.length_append, hl, List.getElem?_drop]
      rw [show o + bs.length + (i - (o + bs.length)) = i by omega]
theorem setB_all {l : List Nat} {o : Nat} {bs : List Nat} (h : ∀ x ∈ l, x < 256) (k : ∀ x ∈ bs, x < 256) : ∀ x ∈ setB l o bs, x < 256 := by
  intro x hx
  simp only [setB, List.mem_append] at hx
  rcases hx with (hx | hx) | hx
  · exact h x (List.mem_of_mem_take hx)
  · exact k x hx
  · exact h x (List.mem_of_mem_drop hx)

/-- two banks, and what was written of them -/
def Agree (f r : Nat) (Fb Rb : List Nat) (L : List (Nat × Nat)) : Prop :=
  (∀ i, i < Fb.length → atL L (f + i) = Fb.getD i 0) ∧ (∀ i, i < Rb.length → atL L (r + i) = Rb.getD i 0)
theorem agree_ram {f r : Nat} {Fb Rb : List Nat} {L : List (Nat × Nat)} (h : Agree f r Fb Rb L) (hd : f + Fb.length ≤ r ∨ r + Rb.length ≤ f) (o : Nat) (bs : List Nat) (ho : o + bs.length ≤ Rb.length) :
    Agree f r Fb (setB Rb o bs) (L ++ writes (r + o) bs) := by
  constructor
  · intro i hi
    rw [atL_writes, if_neg (by omega)]
    exact h.1 i hi
  · intro i hi
    rw [setB_length _ _ _ ho] at hi
    rw [atL_writes, setB_getD _ _ _ ho]
    by_cases hb : o ≤ i ∧ i < o + bs.length
    · rw [if_pos (by omega), if_pos hb, show r + i - (r + o) = i - o by omega]
    · rw [if_neg (by omega), if_neg hb]
      exact h.2 i hi
theorem agree_flash {f r : Nat} {Fb Rb : List Nat} {L : List (Nat × Nat)} (h : Agree f r Fb Rb L) (hd : f + Fb.length ≤ r ∨ r + Rb.length ≤ f) (o : Nat) (bs : List Nat) (ho : o + bs.length ≤ Fb.length) :
    Agree f r (setB Fb o bs) Rb (L ++ writes (f + o) bs) := by
  constructor
  · intro i hi
    rw [setB_length _ _ _ ho] at hi
    rw [atL_writes, setB_getD _ _ _ ho]
    by_cases hb : o ≤ i ∧ i < o + bs.length
    · rw [if_pos (by omega), if_pos hb, show f + i - (f + o) = i - o by omega]
    · rw [if_neg (by omega), if_neg hb]
      exact h.1 i hi
  · intro i hi
    rw [atL_writes, if_neg (by omega)]
    exact h.2 i hi
/-- bytes as a number -/
def numB : List Nat → Nat
  | [] => 0
  | b :: t => b + 256 * numB t
/-- so many bytes as a number, as they were written -/
def wordL (L : List (Nat × Nat)) (a : Nat) : Nat → Nat
  | 0 => 0
  | n + 1 => atL L a + 256 * wordL L (a + 1) n
/-- the lowest bytes of a number -/
def lowB : Nat → Nat → List Nat
  | 0, _ => []
  | n + 1, w => w % 256 :: lowB n (w / 256)
theorem lowB_length (n w : Nat) : (lowB n w).length = n := by
  induction n generalizing w with
  | zero => rfl
  | succ n ih => simp [lowB, ih]
theorem lowB_lt (n w : Nat) : ∀ x ∈ lowB n w, x < 256 := by
  induction n generalizing w with
  | zero => intro x hx; simp [lowB] at hx
  | succ n ih =>
    intro x hx
    simp only [lowB, List.mem_cons] at hx
    rcases hx with rfl | hx
    · omega
    · exact ih _ _ hx
theorem word_of {l : List Nat} {L : List (Nat × Nat)} {a o : Nat} (n : Nat) (h : ∀ i, i < l.length → atL L (a + i) = l.getD i 0) (ho : o + n ≤ l.length) :
    wordL L (a + o) n = numB ((l.drop o).take n) := by
  induction n generalizing o with
  | zero => simp [wordL, numB]
  | succ n ih =>
    have hlt : o < l.length := by omega
    rw [List.drop_eq_getElem_cons hlt, List.take_succ_cons]
    simp only [wordL, numB]
    rw [h o hlt, show a + o + 1 = a + (o + 1) by omega, ih (by omega)]
    simp [List.getD, List.getElem?_eq_getElem hlt]
end Go.Proofs.Ytghclbeoabkgcaa
