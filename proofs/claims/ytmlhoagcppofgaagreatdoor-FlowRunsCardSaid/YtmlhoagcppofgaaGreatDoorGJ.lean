/- Memory, plain: what was written last at an address; numbers out of bytes; bytes out of numbers. -/
import Init
import Derived.Test.YtmlhoagcppofgaaGreatDoorProg
import Derived.WalkSpells
import Derived.WalkSmall
import Derived.Handy
import Derived.Lib.Hide
import Derived.BigQuiet
import Derived.OwnWalk
import Derived.Laws.StructEq
import Derived.Deep.QuietTactic
import Derived.Deep.OwnRows
import Derived.Deep.RegionHeld3
import Derived.Laws.BitsAllLaws
import Derived.Laws.CopyOwn
namespace Go.Proofs.YtmlhoagcppofgaaGreatDoor

/-- the byte that was written last at an address, or 0 -/
def atL (l : List (Nat × Nat)) (a : Nat) : Nat := l.foldl (fun v x => if x.1 = a then x.2 else v) 0
theorem atL_nil (a : Nat) : atL [] a = 0 := rfl
theorem atL_snoc (l : List (Nat × Nat)) (x : Nat × Nat) (a : Nat) : atL (l ++ [x]) a = if x.1 = a then x.2 else atL l a := by
  simp [atL, List.foldl_append]
/-- bytes that are written from an address on -/
def writes (a : Nat) : List Nat → List (Nat × Nat)
  | [] => []
  | b :: t => (a, b) :: writes (a + 1) t
theorem writes_length (a : Nat) (bs : List Nat) : (writes a bs).length = bs.length := by
  induction bs generalizing a with
  | nil => rfl
  | cons b t ih => simp [writes, ih]
theorem writes_snoc (a : Nat) (bs : List Nat) (b : Nat) : writes a (bs ++ [b]) = writes a bs ++ [(a + bs.length, b)] := by
  induction bs generalizing a with
  | nil => simp [writes]
  | cons c t ih => simp only [List.cons_append, writes, ih, List.length_cons]; rw [show a + 1 + t.length = a + (t.length + 1) by omega]
theorem atL_writes (l : List (Nat × Nat)) (a : Nat) (bs : List Nat) (x : Nat) :
    atL (l ++ writes a bs) x = if a ≤ x ∧ x < a + bs.length then bs.getD (x - a) 0 else atL l x := by
  induction bs generalizing a l with
  | nil => simp [writes]; intro h1 h2; omega
  | cons b t ih =>
    have e : l ++ writes a (b :: t) = (l ++ [(a, b)]) ++ writes (a + 1) t := by simp [writes]
    rw [e, ih, atL_snoc]
    by_cases h : a = x
    · subst h
      rw [if_neg (by omega), if_pos rfl, if_pos (by simp only [List.length_cons]; omega), Nat.sub_self]
      rfl
    · by_cases h1 : a + 1 ≤ x ∧ x < a + 1 + t.length
      · rw [if_pos h1, if_pos (by simp only [List.length_cons]; omega), show x - a = (x - (a + 1)) + 1 by omega]
        rfl
      · rw [if_neg h1, if_neg h, if_neg (by simp only [List.length_cons]; omega)]
/-- some bytes of a row are other ones -/
def setB (l : List Nat) (o : Nat) (bs : List Nat) : List Nat := l.take o ++ bs ++ l.drop (o + bs.length)
theorem setB_length (l : List Nat) (o : Nat) (bs : List Nat) (h : o + bs.length ≤ l.length) : (setB l o bs).length = l.length := by
  simp [setB]; omega
theorem setB_getD (l : List Nat) (o : Nat) (bs : List Nat) (h : o + bs.length ≤ l.length) (i : Nat) :
    (setB l o bs).getD i 0 = if o ≤ i ∧ i < o + bs.length then bs.getD (i - o) 0 else l.getD i 0 := by
  have hl : (l.take o).length = o := by simp; omega
  simp only [setB, List.getD_eq_getElem?_getD]
  by_cases h1 : i < o
  · rw [if_neg (by omega), List.append_assoc, List.getElem?_append_left (by omega), List.getElem?_take, if_pos h1]
  · by_cases h2 : i < o + bs.length
    · rw [if_pos (by omega), List.append_assoc, List.getElem?_append_right (by omega), hl, List.getElem?_append_left (by omega)]
    · rw [if_neg (by omega), List.getElem?_append_right (by simp; omega)]
      simp only [List.length_append, hl, List.getElem?_drop]
      rw [show o + bs.length + (i - (o + bs.length)) = i by omega]
theorem setB_all {l : List Nat} {o : Nat} {bs : List Nat} (h : ∀ x ∈ l, x < 256) (k : ∀ x ∈ bs, x < 256) : ∀ x ∈ setB l o bs, x < 256 := by
  intro x hx
  simp only [setB, List.mem_append] at hx
  rcases hx with (hx | hx) | hx
  · exact h x (List.mem_of_mem_take hx)
  · exact k x hx
  · exact h x (List.mem_of_mem_drop hx)

/-- two banks, and what was written of them -/
def Agree (f r : Nat) (Fb Rb : List Nat) (L : List (Nat × Nat)) : Prop :=
  (∀ i, i < Fb.length → atL L (f + i) = Fb.getD i 0) ∧ (∀ i, i < Rb.length → atL L (r + i) = Rb.getD i 0)
theorem agree_ram {f r : Nat} {Fb Rb : List Nat} {L : List (Nat × Nat)} (h : Agree f r Fb Rb L) (hd : f + Fb.length ≤ r ∨ r + Rb.length ≤ f) (o : Nat) (bs : List Nat) (ho : o + bs.length ≤ Rb.length) :
    Agree f r Fb (setB Rb o bs) (L ++ writes (r + o) bs) := by
  constructor
  · intro i hi
    rw [atL_writes, if_neg (by omega)]
    exact h.1 i hi
  · intro i hi
    rw [setB_length _ _ _ ho] at hi
    rw [atL_writes, setB_getD _ _ _ ho]
    by_cases hb : o ≤ i ∧ i < o + bs.length
    · rw [if_pos (by omega), if_pos hb, show r + i - (r + o) = i - o by omega]
    · rw [if_neg (by omega), if_neg hb]
      exact h.2 i hi
theorem agree_flash {f r : Nat} {Fb Rb : List Nat} {L : List (Nat × Nat)} (h : Agree f r Fb Rb L) (hd : f + Fb.length ≤ r ∨ r + Rb.length ≤ f) (o : Nat) (bs : List Nat) (ho : o + bs.length ≤ Fb.length) :
    Agree f r (setB Fb o bs) Rb (L ++ writes (f + o) bs) := by
  constructor
  · intro i hi
    rw [setB_length _ _ _ ho] at hi
    rw [atL_writes, setB_getD _ _ _ ho]
    by_cases hb : o ≤ i ∧ i < o + bs.length
    · rw [if_pos (by omega), if_pos hb, show f + i - (f + o) = i - o by omega]
    · rw [if_neg (by omega), if_neg hb]
      exact h.1 i hi
  · intro i hi
    rw [atL_writes, if_neg (by omega)]
    exact h.2 i hi
/-- bytes as a number -/
def numB : List Nat → Nat
  | [] => 0
  | b :: t => b + 256 * numB t
/-- so many bytes as a number, as they were written -/
def wordL (L : List (Nat × Nat)) (a : Nat) : Nat → Nat
  | 0 => 0
  | n + 1 => atL L a + 256 * wordL L (a + 1) n
/-- the lowest bytes of a number -/
def lowB : Nat → Nat → List Nat
  | 0, _ => []
  | n + 1, w => w % 256 :: lowB n (w / 256)
theorem lowB_length (n w : Nat) : (lowB n w).length = n := by
  induction n generalizing w with
  | zero => rfl
  | succ n ih => simp [lowB, ih]
theorem lowB_lt (n w : Nat) : ∀ x ∈ lowB n w, x < 256 := by
  induction n generalizing w with
  | zero => intro x hx; simp [lowB] at hx
  | succ n ih =>
    intro x hx
    simp only [lowB, List.mem_cons] at hx
    rcases hx with rfl | hx
    · omega
    · exact ih _ _ hx
theorem word_of {l : List Nat} {L : List (Nat × Nat)} {a o : Nat} (n : Nat) (h : ∀ i, i < l.length → atL L (a + i) = l.getD i 0) (ho : o + n ≤ l.length) :
    wordL L (a + o) n = numB ((l.drop o).take n) := by
  induction n generalizing o with
  | zero => simp [wordL, numB]
  | succ n ih =>
    have hlt : o < l.length := by omega
    rw [List.drop_eq_getElem_cons hlt, List.take_succ_cons]
    simp only [wordL, numB]
    rw [h o hlt, show a + o + 1 = a + (o + 1) by omega, ih (by omega)]
    simp [List.getD, List.getElem?_eq_getElem hlt]
end Go.Proofs.YtmlhoagcppofgaaGreatDoor

namespace Go.Proofs.YtmlhoagcppofgaaGreatDoor
open Go Go.RowKit
set_option linter.unusedVariables false

/-- the same memory, whatever was drawn -/
def LikeG (W w' : World) : Prop := w'.heap = W.heap ∧ ∀ (B : Nat) (w : World), Below B w W → Below B w w'
theorem LikeG.refl (W : World) : LikeG W W := ⟨rfl, fun _ _ h => h⟩
theorem LikeG.drewN (W : World) (n : Nat) : LikeG W (W.drewN n) := ⟨rfl, fun B w h => h.trans ⟨rfl, rfl, rfl, Nat.le_refl _, fun _ _ => rfl⟩⟩
theorem LikeG.trans {a b c : World} (h : LikeG a b) (k : LikeG b c) : LikeG a c := ⟨k.1.trans h.1, fun B w hb => k.2 B w (h.2 B w hb)⟩
theorem LikeG.cell {a b : World} (h : LikeG a b) (p : Addr) : b.cell? p = a.cell? p := by unfold World.cell?; rw [h.1]
theorem LikeG.row {a b : World} (h : LikeG a b) {x base size n : Nat} {t : TypeId} {v : Value} {xs : List Value} (k : a.ownsRow base t size v n xs) : b.ownsRow base t size v n xs := by
  unfold World.ownsRow at *; rw [h.1]; exact k

theorem mpart_yes (B n base a k : Nat) (w : World) (h0 : 0 < k) (h1 : base ≤ a) (h2 : k ≤ n) (h3 : a - base ≤ n - k) (ha : a < 4294967296) (hn : n ≤ 1048576) :
    Calls Tryz.prog 44 #[.slice (some ⟨B, 0, none⟩) n n, .int .u32 (base : Int), .int .u32 (a : Int), .int .i64 (k : Int)] w fun e w' => e = .returned (.tuple #[.slice (some ⟨B, a - base, none⟩) k (n - (a - base)), .bool true]) ∧ w = w' := by
  obtain ⟨q, rfl⟩ : ∃ q, a = base + q := ⟨a - base, by omega⟩
  rw [Nat.add_sub_cancel_left] at h3 ⊢
  have t1 : decide ((base + q : Nat) < base) = false := by simp
  have t2 : decide (n < k) = false := by simp; omega
  have hq : q < n := by omega
  have hq2 : n ≠ q := by omega
  go_enter Tryz.func44, Tryz.ntmps44
  go_wp2
  go_ret2
  refine ⟨?_, rfl⟩
  show Ending.returned (.tuple #[.slice (some ⟨B, base + q - base, none⟩) (base + q - base + k - (base + q - base)) (n - (base + q - base)), .bool true]) = _
  rw [show base + q - base = q by omega, show q + k - q = k by omega]
theorem mpart_less (B n base a k : Nat) (w : World) (h1 : a < base) (ha : base < 4294967296) :
    Calls Tryz.prog 44 #[.slice (some ⟨B, 0, none⟩) n n, .int .u32 (base : Int), .int .u32 (a : Int), .int .i64 (k : Int)] w fun e w' => e = .returned (.tuple #[.slice none 0 0, .bool false]) ∧ w = w' := by
  have t1 : decide (a < base) = true := by simp; omega
  go_enter Tryz.func44, Tryz.ntmps44
  go_wp2
  all_goals go_ret2
  all_goals exact ⟨rfl, rfl⟩
theorem mpart_big (B n base a k : Nat) (w : World) (h1 : base ≤ a) (h2 : n < k) (ha : a < 4294967296) (hk : k < 9223372036854775808) :
    Calls Tryz.prog 44 #[.slice (some ⟨B, 0, none⟩) n n, .int .u32 (base : Int), .int .u32 (a : Int), .int .i64 (k : Int)] w fun e w' => e = .returned (.tuple #[.slice none 0 0, .bool false]) ∧ w = w' := by
  have t1 : decide (a < base) = false := by simp; omega
  have t2 : decide (n < k) = true := by simp; omega
  go_enter Tryz.func44, Tryz.ntmps44
  go_wp2
  all_goals go_ret2
  all_goals exact ⟨rfl, rfl⟩
theorem mpart_more (B n base a k : Nat) (w : World) (h1 : base ≤ a) (h2 : k ≤ n) (h3 : n - k < a - base) (ha : a < 4294967296) (hn : n ≤ 1048576) :
    Calls Tryz.prog 44 #[.slice (some ⟨B, 0, none⟩) n n, .int .u32 (base : Int), .int .u32 (a : Int), .int .i64 (k : Int)] w fun e w' => e = .returned (.tuple #[.slice none 0 0, .bool false]) ∧ w = w' := by
  obtain ⟨q, rfl⟩ : ∃ q, a = base + q := ⟨a - base, by omega⟩
  rw [Nat.add_sub_cancel_left] at h3
  have t1 : decide ((base + q : Nat) < base) = false := by simp
  have t2 : decide (n < k) = false := by simp; omega
  go_enter Tryz.func44, Tryz.ntmps44
  go_wp2
  all_goals go_ret2
  all_goals exact ⟨rfl, rfl⟩

/-- what a part of a bank is -/
def inB (base n a k : Nat) : Bool := decide (base ≤ a ∧ a + k ≤ base + n)
def PartG (B n base a k : Nat) (sl : Value) (b : Bool) : Prop := ∀ W, Calls Tryz.prog 44 #[.slice (some ⟨B, 0, none⟩) n n, .int .u32 (base : Int), .int .u32 (a : Int), .int .i64 (k : Int)] W fun e w' => e = .returned (.tuple #[sl, .bool b]) ∧ W = w'
theorem partG_in {B n base a k : Nat} (h0 : 0 < k) (h : inB base n a k = true) (ha : a < 4294967296) (hn : n ≤ 1048576) : PartG B n base a k (.slice (some ⟨B, a - base, none⟩) k (n - (a - base))) true := fun W => by
  have := of_decide_eq_true h
  exact mpart_yes B n base a k W h0 (by omega) (by omega) (by omega) ha hn
theorem partG_out {B n base a k : Nat} (h0 : 0 < k) (h : inB base n a k = false) (ha : a < 4294967296) (hb : base < 4294967296) (hn : n ≤ 1048576) (hk : k < 9223372036854775808) : PartG B n base a k (.slice none 0 0) false := fun W => by
  have := of_decide_eq_false h
  by_cases h1 : a < base
  · exact mpart_less B n base a k W h1 hb
  · by_cases h2 : n < k
    · exact mpart_big B n base a k W (by omega) h2 ha hk
    · exact mpart_more B n base a k W (by omega) (by omega) (by omega) ha hn
theorem partG_q {args : Array Value} {v : Value} {w : World} {m : Nat} (h : ∀ W, Calls Tryz.prog 44 args W fun e w' => e = .returned v ∧ W = w') :
    Calls Tryz.prog 44 args (w.drewN m) fun e w' => e = .returned v ∧ ∃ j, w' = w.drewN j :=
  (h _).mono fun e w' ⟨he, hm⟩ => ⟨he, m, hm.symm⟩

def u8G (x : Nat) : Value := .int .u8 (x : Int)
def rowG (l : List Nat) : Array Value := (l.map u8G).toArray
/-- a memory of the program: two banks of bytes -/
structure MemIs (M F R f r : Nat) (Fb Rb : List Nat) (W : World) : Prop where
  c0 : W.cell? ⟨M, 0, none⟩ = some (.int .u32 (f : Nat))
  c2 : W.cell? ⟨M, 2, none⟩ = some (.int .u32 (r : Nat))
  c4 : W.cell? ⟨M, 4, none⟩ = some (.slice (some ⟨F, 0, none⟩) Fb.length Fb.length)
  c5 : W.cell? ⟨M, 5, none⟩ = some (.slice (some ⟨R, 0, none⟩) Rb.length Rb.length)
  hF : W.heap[F]? = some (.cells (rowG Fb) 5 (0, 0))
  hR : W.heap[R]? = some (.cells (rowG Rb) 5 (0, 0))
  fF : ∀ x ∈ Fb, x < 256
  fR : ∀ x ∈ Rb, x < 256
  mF : M ≠ F
  mR : M ≠ R
  fr : F ≠ R
/-- where the banks lie -/
structure Banks (f n1 r n2 : Nat) : Prop where
  a : f + n1 ≤ 4294967296
  b : r + n2 ≤ 4294967296
  c : 4 ≤ n1 ∧ n1 ≤ 1048576
  d : 4 ≤ n2 ∧ n2 ≤ 1048576
  e : f + n1 ≤ r ∨ r + n2 ≤ f
theorem MemIs.like {M F R f r : Nat} {Fb Rb : List Nat} {W W' : World} (h : MemIs M F R f r Fb Rb W) (hl : LikeG W W') : MemIs M F R f r Fb Rb W' :=
  { c0 := (hl.cell _).trans h.c0, c2 := (hl.cell _).trans h.c2, c4 := (hl.cell _).trans h.c4, c5 := (hl.cell _).trans h.c5
    hF := by rw [hl.1]; exact h.hF, hR := by rw [hl.1]; exact h.hR, fF := h.fF, fR := h.fR, mF := h.mF, mR := h.mR, fr := h.fr }

/-- where so many bytes lie -/
def wSl (F R f n1 r n2 a k : Nat) : Value := if inB f n1 a k then .slice (some ⟨F, a - f, none⟩) k (n1 - (a - f)) else if inB r n2 a k then .slice (some ⟨R, a - r, none⟩) k (n2 - (a - r)) else .slice none 0 0
def wIn (f n1 r n2 a k : Nat) : Bool := inB f n1 a k || inB r n2 a k
set_option maxRecDepth 100000 in
set_option maxHeartbeats 1000000 in
theorem within_fst (M F R f r n1 n2 a k : Nat) (W : World) (h0 : W.cell? ⟨M, 0, none⟩ = some (.int .u32 (f : Nat))) (h4 : W.cell? ⟨M, 4, none⟩ = some (.slice (some ⟨F, 0, none⟩) n1 n1)) (sl : Value) (h : PartG F n1 f a k sl true) :
    Calls Tryz.prog 27 #[.pointer (some ⟨M, 0, none⟩), .int .u32 (a : Nat), .int .i64 (k : Nat)] W fun e w' => e = .returned (.tuple #[sl, .bool true]) ∧ LikeG W w' := by
  go_enter Tryz.func27, Tryz.ntmps27
  go_wp2
  go_quiet ((go_at_call 44; exact partG_q h))
  rename_i nq
  go_wp2
  go_ret2
  exact ⟨rfl, .drewN _ _⟩
set_option maxRecDepth 100000 in
set_option maxHeartbeats 1000000 in
theorem within_snd (M F R f r n1 n2 a k : Nat) (W : World) (h0 : W.cell? ⟨M, 0, none⟩ = some (.int .u32 (f : Nat))) (h2 : W.cell? ⟨M, 2, none⟩ = some (.int .u32 (r : Nat))) (h4 : W.cell? ⟨M, 4, none⟩ = some (.slice (some ⟨F, 0, none⟩) n1 n1)) (h5 : W.cell? ⟨M, 5, none⟩ = some (.slice (some ⟨R, 0, none⟩) n2 n2))
    (h : PartG F n1 f a k (.slice none 0 0) false) (sl : Value) (b : Bool) (hk : PartG R n2 r a k sl b) :
    Calls Tryz.prog 27 #[.pointer (some ⟨M, 0, none⟩), .int .u32 (a : Nat), .int .i64 (k : Nat)] W fun e w' => e = .returned (.tuple #[sl, .bool b]) ∧ LikeG W w' := by
  go_enter Tryz.func27, Tryz.ntmps27
  go_wp2
  go_quiet ((go_at_call 44; exact partG_q h))
  rename_i nq
  have HL := LikeG.drewN W nq
  have h2' := (HL.cell _).trans h2
  have h5' := (HL.cell _).trans h5
  clear h0 h2 h4 h5 h
  generalize W.drewN nq = W1 at HL h2' h5'
  go_wp2
  go_quiet ((go_at_call 44; exact partG_q hk))
  rename_i nq2
  go_wp2
  go_ret2
  exact ⟨rfl, HL.trans (.drewN _ _)⟩
theorem within_any {M F R f r : Nat} {Fb Rb : List Nat} {W : World} (h : MemIs M F R f r Fb Rb W) (hb : Banks f Fb.length r Rb.length) (a k : Nat) (ha : a < 4294967296) (hk : 0 < k) (hk2 : k < 9223372036854775808) :
    Calls Tryz.prog 27 #[.pointer (some ⟨M, 0, none⟩), .int .u32 (a : Nat), .int .i64 (k : Nat)] W fun e w' => e = .returned (.tuple #[wSl F R f Fb.length r Rb.length a k, .bool (wIn f Fb.length r Rb.length a k)]) ∧ LikeG W w' := by
  have := hb.a; have := hb.b; have := hb.c; have := hb.d
  unfold wSl wIn
  by_cases h1 : inB f Fb.length a k = true
  · rw [if_pos h1, h1]
    exact within_fst M F R f r Fb.length Rb.length a k W h.c0 h.c4 _ (partG_in hk h1 ha (by omega))
  · rw [if_neg h1]
    have h1' := Bool.eq_false_iff.2 h1
    rw [h1']
    by_cases h2 : inB r Rb.length a k = true
    · rw [if_pos h2, h2]
      exact within_snd M F R f r Fb.length Rb.length a k W h.c0 h.c2 h.c4 h.c5 (partG_out hk h1' ha (by omega) (by omega) hk2) _ _ (partG_in hk h2 ha (by omega))
    · rw [if_neg h2]
      have h2' := Bool.eq_false_iff.2 h2
      rw [h2']
      exact within_snd M F R f r Fb.length Rb.length a k W h.c0 h.c2 h.c4 h.c5 (partG_out hk h1' ha (by omega) (by omega) hk2) _ _ (partG_out hk h2' ha (by omega) (by omega) hk2)
end Go.Proofs.YtmlhoagcppofgaaGreatDoor

namespace Go.Proofs.YtmlhoagcppofgaaGreatDoor
open Go Go.RowKit
set_option linter.unusedVariables false

/-- what changed lies in these blocks -/
structure Out (S : Nat → Prop) (W W' : World) : Prop where
  os : W'.os = W.os
  tape : W'.tape = W.tape
  output : W'.output = W.output
  size : W.heap.size ≤ W'.heap.size
  block : ∀ k, k < W.heap.size → ¬ S k → W'.heap[k]? = W.heap[k]?
theorem Out.refl (S : Nat → Prop) (W : World) : Out S W W := ⟨rfl, rfl, rfl, Nat.le_refl _, fun _ _ _ => rfl⟩
theorem Out.trans {S : Nat → Prop} {a b c : World} (h : Out S a b) (k : Out S b c) : Out S a c :=
  ⟨k.os.trans h.os, k.tape.trans h.tape, k.output.trans h.output, Nat.le_trans h.size k.size, fun j hj hs => (k.block j (Nat.lt_of_lt_of_le hj h.size) hs).trans (h.block j hj hs)⟩
theorem Out.mono {S T : Nat → Prop} {a b : World} (h : Out S a b) (k : ∀ j, S j → T j) : Out T a b :=
  ⟨h.os, h.tape, h.output, h.size, fun j hj hs => h.block j hj fun g => hs (k j g)⟩
theorem Out.below {S : Nat → Prop} {B : Nat} {w a b : World} (h : Out S a b) (k : Below B w a) (hB : B ≤ w.heap.size) (hS : ∀ j, S j → B ≤ j) : Below B w b :=
  ⟨h.os.trans k.os, h.tape.trans k.tape, h.output.trans k.output, Nat.le_trans k.size h.size, fun j hj => (h.block j (Nat.lt_of_lt_of_le hj (Nat.le_trans hB k.size)) fun g => by have := hS j g; omega).trans (k.block j hj)⟩
theorem Out.of_below {a b : World} (S : Nat → Prop) (h : Below a.heap.size a b) : Out S a b := ⟨h.os, h.tape, h.output, h.size, fun j hj _ => h.block j hj⟩
theorem Out.of_grown {a b : World} {r : Option Nat} {S : Nat → Prop} (h : a.grownBy b r) (hr : ∀ k, r = some k → S k) : Out S a b :=
  ⟨h.os, h.tape, h.output, h.size, fun j hj hs => h.block j hj fun e => hs (hr j e.symm)⟩
theorem LikeG.below {a b : World} (h : LikeG a b) : Below a.heap.size a b := h.2 _ _ (Below.refl _ _)
theorem LikeG.out {a b : World} (h : LikeG a b) (S : Nat → Prop) : Out S a b := .of_below S h.below
theorem Out.cell {S : Nat → Prop} {a b : World} (h : Out S a b) {p : Addr} (hp : p.block < a.heap.size) (hs : ¬ S p.block) : b.cell? p = a.cell? p := World.cell?_of_block (h.block _ hp hs)
theorem Out.row {S : Nat → Prop} {W W' : World} (h : Out S W W') {base size n : Nat} {t : TypeId} {v : Value} {xs : List Value} (k : W.ownsRow base t size v n xs) (hs : ∀ j, v.ownBlock = some j → ¬ S j) : W'.ownsRow base t size v n xs := by
  obtain ⟨h1, h2⟩ := k
  refine ⟨h1, ?_⟩
  rcases h2 with h2 | h2
  · exact .inl h2
  · right
    obtain ⟨g, cap, cur, rfl, k1, k2, k3⟩ := h2
    exact ⟨g, cap, cur, rfl, k1, (h.block g (Array.getElem?_eq_some_iff.1 k2).1 (hs g rfl)).trans k2, k3⟩

/-- bytes as a number, joined bit by bit -/
theorem mor_add (a b i : Nat) (ha : a < 2 ^ i) (h : a + b * 2 ^ i < 4294967296) : bits .or .u32 (a : Int) ((b * 2 ^ i : Nat) : Int) = ((a + b * 2 ^ i : Nat) : Int) := by
  rw [u32_or_nat _ _ (by omega) (by omega)]
  congr 1
  rw [Nat.or_comm, Nat.mul_comm, ← Nat.two_pow_add_eq_or_of_lt ha]
  omega
theorem mor_0 (x : Nat) (h : x < 4294967296) : bits .or .u32 0 (x : Int) = (x : Int) := by
  rw [show (0 : Int) = ((0 : Nat) : Int) from rfl, u32_or_nat _ _ (by omega) h, Nat.zero_or]
theorem mor_1 (a b : Nat) (ha : a < 256) (hb : b < 256) : bits .or .u32 (a : Int) ((b : Int) * 256) = ((a + b * 256 : Nat) : Int) := by
  rw [show ((b : Int) * 256) = ((b * 2 ^ 8 : Nat) : Int) by omega, mor_add a b 8 (by omega) (by omega)]
theorem mor_2 (a b : Nat) (ha : a < 65536) (hb : b < 256) : bits .or .u32 (a : Int) ((b : Int) * 65536) = ((a + b * 65536 : Nat) : Int) := by
  rw [show ((b : Int) * 65536) = ((b * 2 ^ 16 : Nat) : Int) by omega, mor_add a b 16 (by omega) (by omega)]
theorem mor_3 (a b : Nat) (ha : a < 16777216) (hb : b < 256) : bits .or .u32 (a : Int) ((b : Int) * 16777216) = ((a + b * 16777216 : Nat) : Int) := by
  rw [show ((b : Int) * 16777216) = ((b * 2 ^ 24 : Nat) : Int) by omega, mor_add a b 24 (by omega) (by omega)]
def bytesAt (l : List Nat) (o k : Nat) : Nat := numB ((l.drop o).take k)
theorem bytes0 (l : List Nat) (o : Nat) : bytesAt l o 0 = 0 := by simp [bytesAt, numB]
theorem bytes_step {l : List Nat} {o : Nat} (k : Nat) (h : o < l.length) : bytesAt l o (k + 1) = l.getD o 0 + 256 * bytesAt l (o + 1) k := by
  unfold bytesAt
  rw [List.drop_eq_getElem_cons h, List.take_succ_cons]
  show l[o] + 256 * numB _ = _
  simp [List.getD, List.getElem?_eq_getElem h]
theorem bytes1 {l : List Nat} {o : Nat} (h : o + 1 ≤ l.length) : bytesAt l o 1 = l.getD o 0 := by
  rw [bytes_step 0 (by omega), bytes0]; omega
theorem bytes2 {l : List Nat} {o : Nat} (h : o + 2 ≤ l.length) : bytesAt l o 2 = l.getD o 0 + 256 * l.getD (o + 1) 0 := by
  rw [bytes_step 1 (by omega), bytes1 (by omega)]
theorem bytes4 {l : List Nat} {o : Nat} (h : o + 4 ≤ l.length) : bytesAt l o 4 = l.getD o 0 + 256 * (l.getD (o + 1) 0 + 256 * (l.getD (o + 2) 0 + 256 * l.getD (o + 3) 0)) := by
  rw [bytes_step 3 (by omega), bytes_step 2 (by omega), bytes2 (by omega)]
theorem getD_lt {l : List Nat} (h : ∀ x ∈ l, x < 256) (i : Nat) : l.getD i 0 < 256 := by
  rw [List.getD_eq_getElem?_getD]
  cases hx : l[i]? with
  | none => simp
  | some x => exact h x (List.mem_of_getElem? hx)
theorem row_cellG {W : World} {G : Nat} {l : List Nat} (hG : W.heap[G]? = some (.cells (rowG l) 5 (0, 0))) (i : Nat) (hi : i < l.length) : W.cell? ⟨G, i, none⟩ = some (.int .u8 (l.getD i 0 : Nat)) := by
  rw [cell_of_row W G i _ _ _ hG]
  simp [rowG, u8G, List.getD, List.getElem?_eq_getElem hi]
theorem ret_u32G {a b : Int} (h : a = b) : Ending.returned (.int .u32 a) = .returned (.int .u32 b) := by rw [h]
set_option maxHeartbeats 1000000 in
theorem number1 {W : World} {G : Nat} {l : List Nat} (hG : W.heap[G]? = some (.cells (rowG l) 5 (0, 0))) (fl : ∀ x ∈ l, x < 256) (o c : Nat) (ho : o + 1 ≤ l.length) :
    Calls Tryz.prog 74 #[.slice (some ⟨G, o, none⟩) 1 c] W fun e w' => e = .returned (.int .u32 (bytesAt l o 1 : Nat)) ∧ W = w' := by
  have c0 := row_cellG hG o (by omega)
  have x0 := getD_lt fl o
  have E := Lib.hid (bytes1 ho)
  generalize hx : l.getD o 0 = x at *
  clear hG fl hx
  go_enter Tryz.func74, Tryz.ntmps74
  go_wp2
  go_rounds 3
  go_ret
  exact ⟨ret_u32G (by rw [E.out, mor_0 _ (by omega)]), rfl⟩
set_option maxHeartbeats 1000000 in
theorem number2 {W : World} {G : Nat} {l : List Nat} (hG : W.heap[G]? = some (.cells (rowG l) 5 (0, 0))) (fl : ∀ x ∈ l, x < 256) (o c : Nat) (ho : o + 2 ≤ l.length) :
    Calls Tryz.prog 74 #[.slice (some ⟨G, o, none⟩) 2 c] W fun e w' => e = .returned (.int .u32 (bytesAt l o 2 : Nat)) ∧ W = w' := by
  have c0 := row_cellG hG o (by omega)
  have c1 := row_cellG hG (o + 1) (by omega)
  have x0 := getD_lt fl o
  have x1 := getD_lt fl (o + 1)
  have E := Lib.hid (bytes2 ho)
  generalize hx : l.getD o 0 = x at *
  generalize hy : l.getD (o + 1) 0 = y at *
  clear hG fl hx hy
  go_enter Tryz.func74, Tryz.ntmps74
  go_wp2
  go_rounds 4
  go_ret
  exact ⟨ret_u32G (by rw [E.out, mor_0 _ (by omega), mor_1 _ _ x0 x1]; omega), rfl⟩
set_option maxHeartbeats 1000000 in
theorem number4 {W : World} {G : Nat} {l : List Nat} (hG : W.heap[G]? = some (.cells (rowG l) 5 (0, 0))) (fl : ∀ x ∈ l, x < 256) (o c : Nat) (ho : o + 4 ≤ l.length) :
    Calls Tryz.prog 74 #[.slice (some ⟨G, o, none⟩) 4 c] W fun e w' => e = .returned (.int .u32 (bytesAt l o 4 : Nat)) ∧ W = w' := by
  have c0 := row_cellG hG o (by omega)
  have c1 := row_cellG hG (o + 1) (by omega)
  have c2 := row_cellG hG (o + 2) (by omega)
  have c3 := row_cellG hG (o + 3) (by omega)
  have x0 := getD_lt fl o
  have x1 := getD_lt fl (o + 1)
  have x2 := getD_lt fl (o + 2)
  have x3 := getD_lt fl (o + 3)
  have E := Lib.hid (bytes4 ho)
  generalize hx : l.getD o 0 = x at *
  generalize hy : l.getD (o + 1) 0 = y at *
  generalize hz : l.getD (o + 2) 0 = z at *
  generalize hu : l.getD (o + 3) 0 = u at *
  clear hG fl hx hy hz hu
  go_enter Tryz.func74, Tryz.ntmps74
  go_wp2
  go_rounds 6
  go_ret
  exact ⟨ret_u32G (by rw [E.out, mor_0 _ (by omega), mor_1 _ _ x0 x1, mor_2 _ _ (by omega) x2, mor_3 _ _ (by omega) x3]; omega), rfl⟩
theorem number_any {W : World} {G : Nat} {l : List Nat} (hG : W.heap[G]? = some (.cells (rowG l) 5 (0, 0))) (fl : ∀ x ∈ l, x < 256) (o k c : Nat) (hk : k = 1 ∨ k = 2 ∨ k = 4) (ho : o + k ≤ l.length) :
    Calls Tryz.prog 74 #[.slice (some ⟨G, o, none⟩) k c] W fun e w' => e = .returned (.int .u32 (bytesAt l o k : Nat)) ∧ W = w' := by
  rcases hk with rfl | rfl | rfl
  · exact number1 hG fl o c ho
  · exact number2 hG fl o c ho
  · exact number4 hG fl o c ho

theorem isSize_yes (k : Nat) (w : World) (hk : k = 1 ∨ k = 2 ∨ k = 4) : Calls Tryz.prog 99 #[.int .i64 (k : Nat)] w fun e w' => e = .returned (.bool true) ∧ w = w' := by
  rcases hk with rfl | rfl | rfl
  all_goals go_enter Tryz.func99, Tryz.ntmps99
  all_goals go_wp2
  all_goals go_ret
  all_goals exact ⟨rfl, rfl⟩
theorem isSize_no (k : Int) (w : World) (hk : k ≠ 1 ∧ k ≠ 2 ∧ k ≠ 4) : Calls Tryz.prog 99 #[.int .i64 k] w fun e w' => e = .returned (.bool false) ∧ w = w' := by
  have t1 : (k == 1) = false := by simp; omega
  have t2 : (k == 2) = false := by simp; omega
  have t4 : (k == 4) = false := by simp; omega
  clear hk
  go_enter Tryz.func99, Tryz.ntmps99
  go_wp2
  go_ret
  exact ⟨rfl, rfl⟩
/-- what a load tells: a number and a trap -/
def loadS (f n1 r n2 : Nat) (Fb Rb : List Nat) (a k : Nat) : Nat × Int :=
  if a % k ≠ 0 then (0, 1) else if inB f n1 a k then (bytesAt Fb (a - f) k, 0) else if inB r n2 a k then (bytesAt Rb (a - r) k, 0) else (0, 3)
def fetchS (f n1 r n2 : Nat) (Fb Rb : List Nat) (a : Nat) : Nat × Int :=
  if a % 4 ≠ 0 then (0, 1) else if inB f n1 a 4 then (bytesAt Fb (a - f) 4, 0) else if inB r n2 a 4 then (bytesAt Rb (a - r) 4, 0) else (0, 2)
def LoadPost (W : World) (n : Nat) (t : Int) (e : Ending) (w' : World) : Prop := e = .returned (.tuple #[.int .u32 (n : Nat), .int .i64 t]) ∧ LikeG W w'
set_option maxHeartbeats 1000000 in
theorem load_size (M : Nat) (a : Int) (k : Int) (W : World) (hk : k ≠ 1 ∧ k ≠ 2 ∧ k ≠ 4) :
    Calls Tryz.prog 94 #[.pointer (some ⟨M, 0, none⟩), .int .u32 a, .int .i64 k] W (LoadPost W 0 3) := by
  have IS := Lib.hid (isSize_no k · hk)
  clear hk
  go_enter Tryz.func94, Tryz.ntmps94
  go_wp2_with fail
  refine (IS.out _).mono ?_
  rintro e w1 ⟨rfl, rfl⟩
  go_wp2_with fail
  go_ret2
  exact ⟨rfl, .refl _⟩
set_option maxHeartbeats 1000000 in
theorem load_align (M : Nat) (a k : Nat) (W : World) (ha : a < 4294967296) (hk : k = 1 ∨ k = 2 ∨ k = 4) (h : a % k ≠ 0) :
    Calls Tryz.prog 94 #[.pointer (some ⟨M, 0, none⟩), .int .u32 (a : Nat), .int .i64 (k : Nat)] W (LoadPost W 0 1) := by
  have IS := Lib.hid (isSize_yes k · hk)
  have hk0 : 0 < k := by omega
  have hk4 : k ≤ 4 := by omega
  have t : (((a : Int) % (k : Int)) == 0) = false := by simp; omega
  have t' : (((a : Int) % (k : Int)) != 0) = true := by simp; omega
  clear hk h
  go_enter Tryz.func94, Tryz.ntmps94
  go_wp2_with fail
  refine (IS.out _).mono ?_
  rintro e w1 ⟨rfl, rfl⟩
  go_wp2_with fail
  go_ret2
  exact ⟨rfl, .refl _⟩
set_option maxHeartbeats 1000000 in
theorem load_in (M G a k o c : Nat) (l : List Nat) (W : World) (ha : a < 4294967296) (hk : k = 1 ∨ k = 2 ∨ k = 4) (h : a % k = 0)
    (hw : Calls Tryz.prog 27 #[.pointer (some ⟨M, 0, none⟩), .int .u32 (a : Nat), .int .i64 (k : Nat)] W fun e w' => e = .returned (.tuple #[.slice (some ⟨G, o, none⟩) k c, .bool true]) ∧ LikeG W w')
    (hG : W.heap[G]? = some (.cells (rowG l) 5 (0, 0))) (fl : ∀ x ∈ l, x < 256) (ho : o + k ≤ l.length) :
    Calls Tryz.prog 94 #[.pointer (some ⟨M, 0, none⟩), .int .u32 (a : Nat), .int .i64 (k : Nat)] W (LoadPost W (bytesAt l o k) 0) := by
  have IS := Lib.hid (isSize_yes k · hk)
  have HW := Lib.hid hw
  have NB := Lib.hid (show ∀ w', LikeG W w' → Calls Tryz.prog 74 #[.slice (some ⟨G, o, none⟩) k c] w' fun e w2 => e = .returned (.int .u32 (bytesAt l o k : Nat)) ∧ w' = w2 from fun w' hl => number_any (by rw [hl.1]; exact hG) fl o k c hk ho)
  have hk0 : 0 < k := by omega
  have hk4 : k ≤ 4 := by omega
  have t : (((a : Int) % (k : Int)) == 0) = true := by simp; omega
  have t' : (((a : Int) % (k : Int)) != 0) = false := by simp; omega
  clear hk h hw hG fl ho
  go_enter Tryz.func94, Tryz.ntmps94
  go_wp2_with fail
  refine (IS.out _).mono ?_
  rintro e w1 ⟨rfl, rfl⟩
  go_wp2_with fail
  refine HW.out.mono ?_
  rintro e w1 ⟨rfl, hl⟩
  have HL := Lib.hid hl
  clear hl
  go_wp2_with fail
  refine (NB.out _ HL.out).mono ?_
  rintro e w2 ⟨rfl, rfl⟩
  go_wp2_with fail
  go_ret2
  exact ⟨rfl, HL.out⟩
set_option maxHeartbeats 1000000 in
theorem load_out (M a k : Nat) (W : World) (ha : a < 4294967296) (hk : k = 1 ∨ k = 2 ∨ k = 4) (h : a % k = 0) (sl : Value)
    (hw : Calls Tryz.prog 27 #[.pointer (some ⟨M, 0, none⟩), .int .u32 (a : Nat), .int .i64 (k : Nat)] W fun e w' => e = .returned (.tuple #[sl, .bool false]) ∧ LikeG W w') :
    Calls Tryz.prog 94 #[.pointer (some ⟨M, 0, none⟩), .int .u32 (a : Nat), .int .i64 (k : Nat)] W (LoadPost W 0 3) := by
  have IS := Lib.hid (isSize_yes k · hk)
  have HW := Lib.hid hw
  have hk0 : 0 < k := by omega
  have hk4 : k ≤ 4 := by omega
  have t : (((a : Int) % (k : Int)) == 0) = true := by simp; omega
  have t' : (((a : Int) % (k : Int)) != 0) = false := by simp; omega
  clear hk h hw
  go_enter Tryz.func94, Tryz.ntmps94
  go_wp2_with fail
  refine (IS.out _).mono ?_
  rintro e w1 ⟨rfl, rfl⟩
  go_wp2_with fail
  refine HW.out.mono ?_
  rintro e w1 ⟨rfl, hl⟩
  go_wp2_with fail
  go_ret2
  exact ⟨rfl, hl⟩
set_option maxHeartbeats 1000000 in
theorem fetch_align (M a : Nat) (W : World) (ha : a < 4294967296) (h : a % 4 ≠ 0) :
    Calls Tryz.prog 53 #[.pointer (some ⟨M, 0, none⟩), .int .u32 (a : Nat)] W (LoadPost W 0 1) := by
  have t : (((a : Int) % 4) == 0) = false := by simp; omega
  have t' : (((a : Int) % 4) != 0) = true := by simp; omega
  clear h
  go_enter Tryz.func53, Tryz.ntmps53
  go_wp2_with fail
  go_ret2
  exact ⟨rfl, .refl _⟩
set_option maxHeartbeats 1000000 in
theorem fetch_in (M G a o c : Nat) (l : List Nat) (W : World) (ha : a < 4294967296) (h : a % 4 = 0)
    (hw : Calls Tryz.prog 27 #[.pointer (some ⟨M, 0, none⟩), .int .u32 (a : Nat), .int .i64 4] W fun e w' => e = .returned (.tuple #[.slice (some ⟨G, o, none⟩) 4 c, .bool true]) ∧ LikeG W w')
    (hG : W.heap[G]? = some (.cells (rowG l) 5 (0, 0))) (fl : ∀ x ∈ l, x < 256) (ho : o + 4 ≤ l.length) :
    Calls Tryz.prog 53 #[.pointer (some ⟨M, 0, none⟩), .int .u32 (a : Nat)] W (LoadPost W (bytesAt l o 4) 0) := by
  have HW := Lib.hid hw
  have NB := Lib.hid (show ∀ w', LikeG W w' → Calls Tryz.prog 74 #[.slice (some ⟨G, o, none⟩) 4 c] w' fun e w2 => e = .returned (.int .u32 (bytesAt l o 4 : Nat)) ∧ w' = w2 from fun w' hl => number_any (by rw [hl.1]; exact hG) fl o 4 c (by omega) ho)
  have t : (((a : Int) % 4) == 0) = true := by simp; omega
  have t' : (((a : Int) % 4) != 0) = false := by simp; omega
  clear h hw hG fl ho
  go_enter Tryz.func53, Tryz.ntmps53
  go_wp2_with fail
  refine HW.out.mono ?_
  rintro e w1 ⟨rfl, hl⟩
  have HL := Lib.hid hl
  clear hl
  go_wp2_with fail
  refine (NB.out _ HL.out).mono ?_
  rintro e w2 ⟨rfl, rfl⟩
  go_wp2_with fail
  go_ret2
  exact ⟨rfl, HL.out⟩
set_option maxHeartbeats 1000000 in
theorem fetch_out (M a : Nat) (W : World) (ha : a < 4294967296) (h : a % 4 = 0) (sl : Value)
    (hw : Calls Tryz.prog 27 #[.pointer (some ⟨M, 0, none⟩), .int .u32 (a : Nat), .int .i64 4] W fun e w' => e = .returned (.tuple #[sl, .bool false]) ∧ LikeG W w') :
    Calls Tryz.prog 53 #[.pointer (some ⟨M, 0, none⟩), .int .u32 (a : Nat)] W (LoadPost W 0 2) := by
  have HW := Lib.hid hw
  have t : (((a : Int) % 4) == 0) = true := by simp; omega
  have t' : (((a : Int) % 4) != 0) = false := by simp; omega
  clear h hw
  go_enter Tryz.func53, Tryz.ntmps53
  go_wp2_with fail
  refine HW.out.mono ?_
  rintro e w1 ⟨rfl, hl⟩
  go_wp2_with fail
  go_ret2
  exact ⟨rfl, hl⟩
theorem inB_out {base n a k : Nat} (h : inB base n a k = true) : base ≤ a ∧ a + k ≤ base + n := of_decide_eq_true h
theorem load_any {M F R f r : Nat} {Fb Rb : List Nat} {W : World} (h : MemIs M F R f r Fb Rb W) (hb : Banks f Fb.length r Rb.length) (a k : Nat) (ha : a < 4294967296) (hk : k = 1 ∨ k = 2 ∨ k = 4) :
    Calls Tryz.prog 94 #[.pointer (some ⟨M, 0, none⟩), .int .u32 (a : Nat), .int .i64 (k : Nat)] W (LoadPost W (loadS f Fb.length r Rb.length Fb Rb a k).1 (loadS f Fb.length r Rb.length Fb Rb a k).2) := by
  unfold loadS
  by_cases h0 : a % k = 0
  · rw [if_neg (by omega)]
    have hw := within_any h hb a k ha (by omega) (by omega)
    unfold wSl wIn at hw
    by_cases h1 : inB f Fb.length a k = true
    · rw [if_pos h1]
      rw [if_pos h1, h1] at hw
      have := inB_out h1
      exact load_in M F a k (a - f) _ Fb W ha hk h0 hw h.hF h.fF (by omega)
    · have h1' := Bool.eq_false_iff.2 h1
      rw [if_neg h1]
      rw [if_neg h1, h1'] at hw
      by_cases h2 : inB r Rb.length a k = true
      · rw [if_pos h2]
        rw [if_pos h2, h2] at hw
        have := inB_out h2
        exact load_in M R a k (a - r) _ Rb W ha hk h0 hw h.hR h.fR (by omega)
      · have h2' := Bool.eq_false_iff.2 h2
        rw [if_neg h2]
        rw [if_neg h2, h2'] at hw
        exact load_out M a k W ha hk h0 _ hw
  · rw [if_pos h0]
    exact load_align M a k W ha hk h0
theorem fetch_any {M F R f r : Nat} {Fb Rb : List Nat} {W : World} (h : MemIs M F R f r Fb Rb W) (hb : Banks f Fb.length r Rb.length) (a : Nat) (ha : a < 4294967296) :
    Calls Tryz.prog 53 #[.pointer (some ⟨M, 0, none⟩), .int .u32 (a : Nat)] W (LoadPost W (fetchS f Fb.length r Rb.length Fb Rb a).1 (fetchS f Fb.length r Rb.length Fb Rb a).2) := by
  unfold fetchS
  by_cases h0 : a % 4 = 0
  · rw [if_neg (by omega)]
    have hw := within_any h hb a 4 ha (by omega) (by omega)
    unfold wSl wIn at hw
    by_cases h1 : inB f Fb.length a 4 = true
    · rw [if_pos h1]
      rw [if_pos h1, h1] at hw
      have := inB_out h1
      exact fetch_in M F a (a - f) _ Fb W ha h0 hw h.hF h.fF (by omega)
    · have h1' := Bool.eq_false_iff.2 h1
      rw [if_neg h1]
      rw [if_neg h1, h1'] at hw
      by_cases h2 : inB r Rb.length a 4 = true
      · rw [if_pos h2]
        rw [if_pos h2, h2] at hw
        have := inB_out h2
        exact fetch_in M R a (a - r) _ Rb W ha h0 hw h.hR h.fR (by omega)
      · have h2' := Bool.eq_false_iff.2 h2
        rw [if_neg h2]
        rw [if_neg h2, h2'] at hw
        exact fetch_out M a W ha h0 _ hw
  · rw [if_pos h0]
    exact fetch_align M a W ha h0

/-- what a store tells -/
def storeS (r n2 a k : Nat) : Int := if a % k ≠ 0 then 1 else if inB r n2 a k then 0 else 4
set_option maxHeartbeats 1000000 in
theorem store_size (M : Nat) (a : Int) (k : Int) (v : Int) (W : World) (hk : k ≠ 1 ∧ k ≠ 2 ∧ k ≠ 4) :
    Calls Tryz.prog 95 #[.pointer (some ⟨M, 0, none⟩), .int .u32 a, .int .i64 k, .int .u32 v] W fun e w' => e = .returned (.int .i64 4) ∧ LikeG W w' := by
  have IS := Lib.hid (isSize_no k · hk)
  clear hk
  go_enter Tryz.func95, Tryz.ntmps95
  go_wp2_with fail
  refine (IS.out _).mono ?_
  rintro e w1 ⟨rfl, rfl⟩
  go_wp2_with fail
  go_ret
  exact ⟨rfl, .refl _⟩
set_option maxHeartbeats 1000000 in
theorem store_align (M : Nat) (a k : Nat) (v : Int) (W : World) (ha : a < 4294967296) (hk : k = 1 ∨ k = 2 ∨ k = 4) (h : a % k ≠ 0) :
    Calls Tryz.prog 95 #[.pointer (some ⟨M, 0, none⟩), .int .u32 (a : Nat), .int .i64 (k : Nat), .int .u32 v] W fun e w' => e = .returned (.int .i64 1) ∧ LikeG W w' := by
  have IS := Lib.hid (isSize_yes k · hk)
  have hk0 : 0 < k := by omega
  have hk4 : k ≤ 4 := by omega
  have t : (((a : Int) % (k : Int)) == 0) = false := by simp; omega
  have t' : (((a : Int) % (k : Int)) != 0) = true := by simp; omega
  clear hk h
  go_enter Tryz.func95, Tryz.ntmps95
  go_wp2_with fail
  refine (IS.out _).mono ?_
  rintro e w1 ⟨rfl, rfl⟩
  go_wp2_with fail
  go_ret
  exact ⟨rfl, .refl _⟩
set_option maxHeartbeats 1000000 in
theorem store_out (M R r n2 : Nat) (a k : Nat) (v : Int) (W : World) (h2 : W.cell? ⟨M, 2, none⟩ = some (.int .u32 (r : Nat))) (h5 : W.cell? ⟨M, 5, none⟩ = some (.slice (some ⟨R, 0, none⟩) n2 n2)) (ha : a < 4294967296) (hk : k = 1 ∨ k = 2 ∨ k = 4) (h : a % k = 0)
    (hp : PartG R n2 r a k (.slice none 0 0) false) :
    Calls Tryz.prog 95 #[.pointer (some ⟨M, 0, none⟩), .int .u32 (a : Nat), .int .i64 (k : Nat), .int .u32 v] W fun e w' => e = .returned (.int .i64 4) ∧ LikeG W w' := by
  have IS := Lib.hid (isSize_yes k · hk)
  have hk0 : 0 < k := by omega
  have hk4 : k ≤ 4 := by omega
  have t : (((a : Int) % (k : Int)) == 0) = true := by simp; omega
  have t' : (((a : Int) % (k : Int)) != 0) = false := by simp; omega
  have HP := Lib.hid hp
  clear hk h hp
  go_enter Tryz.func95, Tryz.ntmps95
  go_wp2_with fail
  refine (IS.out _).mono ?_
  rintro e w1 ⟨rfl, rfl⟩
  go_wp2_with fail
  go_quiet ((go_at_call 44; exact partG_q HP.out))
  rename_i nq
  go_wp2_with fail
  go_ret
  exact ⟨rfl, .drewN _ _⟩
theorem lowB_map1 (v : Nat) : (lowB 1 v).map u8G = [.int .u8 ((v : Int) % 256)] := by
  simp only [lowB, List.map, u8G, Int.natCast_emod] <;> rfl
theorem lowB_map2 (v : Nat) : (lowB 2 v).map u8G = [.int .u8 ((v : Int) % 256), .int .u8 ((v : Int) / 256 % 256)] := by
  simp only [lowB, List.map, u8G, Int.natCast_emod, Int.natCast_ediv] <;> rfl
theorem lowB_map4 (v : Nat) (hv : v < 4294967296) : (lowB 4 v).map u8G = [.int .u8 ((v : Int) % 256), .int .u8 ((v : Int) / 256 % 256), .int .u8 ((v : Int) / 65536 % 256), .int .u8 ((v : Int) / 16777216)] := by
  have e1 : v / 256 / 256 = v / 65536 := Nat.div_div_eq_div_mul _ _ _
  have e2 : v / 65536 / 256 = v / 16777216 := Nat.div_div_eq_div_mul _ _ _
  have e3 : v / 16777216 % 256 = v / 16777216 := by omega
  simp only [lowB, List.map, u8G, e1, e2, e3, Int.natCast_emod, Int.natCast_ediv]; rfl
theorem rowG_set (l : List Nat) (o : Nat) (bs : List Nat) : ((rowG l).toList.take o ++ (bs.map u8G ++ (rowG l).toList.drop (o + (bs.map u8G).length))).toArray = rowG (setB l o bs) := by
  simp [rowG, setB, List.map_take, List.map_drop]
theorem rowG_size (l : List Nat) : (rowG l).size = l.length := by simp [rowG]
theorem u8G_one (l : List Nat) : ∀ v ∈ l.map u8G, v.oneCell' = true := by
  intro v hv
  simp only [List.mem_map] at hv
  obtain ⟨x, _, rfl⟩ := hv
  rfl
theorem src_lit (V : World) (cs : List Value) (t : TypeId) (k : Nat) : ∀ j v, (cs.take k)[j]? = some v → (V.alloc (.cells cs.toArray t)).cell? ((⟨V.heap.size, 0, none⟩ : Addr).add j) = some v := by
  intro j v hj
  have e : (⟨V.heap.size, 0, none⟩ : Addr).add j = ⟨V.heap.size, j, none⟩ := by unfold Addr.add; split <;> simp_all
  rw [e, World.cell?_alloc_new]
  rw [List.getElem?_take] at hj
  split at hj
  · simpa using hj
  · cases hj
theorem out_alloc_set {W V : World} {R : Nat} (h : LikeG W V) (o : Obj) (cs : Array Value) : Out (· = R) W ((V.alloc o).setRow R cs) := by
  refine (h.out _).trans ((Out.of_below (a := V) _ ((Below.refl _ _).alloc (Nat.le_refl _) o)).trans ?_)
  exact ⟨rfl, rfl, rfl, by simp [World.setRow], fun k _ hk => setRow_other _ R k _ (fun e => hk e)⟩
set_option maxRecDepth 100000 in
set_option maxHeartbeats 1000000 in
theorem store_in1 (M R r n2 : Nat) (Rb : List Nat) (a c o : Nat) (v : Nat) (hv : v < 4294967296) (W : World) (h2 : W.cell? ⟨M, 2, none⟩ = some (.int .u32 (r : Nat))) (h5 : W.cell? ⟨M, 5, none⟩ = some (.slice (some ⟨R, 0, none⟩) n2 n2))
    (hR : W.heap[R]? = some (.cells (rowG Rb) 5 (0, 0))) (ho : o + 1 ≤ Rb.length) (ha : a < 4294967296) (h : a % 1 = 0)
    (hp : PartG R n2 r a 1 (.slice (some ⟨R, o, none⟩) 1 c) true) :
    Calls Tryz.prog 95 #[.pointer (some ⟨M, 0, none⟩), .int .u32 (a : Nat), .int .i64 1, .int .u32 (v : Nat)] W fun e w' => e = .returned (.int .i64 0) ∧ w'.heap[R]? = some (.cells (rowG (setB Rb o (lowB 1 v))) 5 (0, 0)) ∧ Out (· = R) W w' := by
  have IS := Lib.hid (isSize_yes 1 · (by omega))
  have t : (((a : Int) % 1) == 0) = true := by simp
  have t' : (((a : Int) % 1) != 0) = false := by simp
  have HP := Lib.hid hp
  have HR := Lib.hid hR
  have HO := Lib.hid ho
  clear h hp hR ho
  go_enter Tryz.func95, Tryz.ntmps95
  go_wp2_with fail
  refine (IS.out _).mono ?_
  rintro e w1 ⟨rfl, rfl⟩
  go_wp2_with fail
  go_quiet ((go_at_call 44; exact partG_q HP.out))
  rename_i nq
  generalize hW : W.drewN nq = V
  have HVR := Lib.hid (show V.heap[R]? = some (.cells (rowG Rb) 5 (0, 0)) by rw [← hW]; exact HR.out)
  have HVG := Lib.hid (show LikeG W V by rw [← hW]; exact .drewN _ _)
  have hRV : R < V.heap.size := (Array.getElem?_eq_some_iff.1 HVR.out).1
  have HVA := Lib.hid (show (V.alloc (.cells #[.int .u8 ((v : Int) % 256), .int .u8 ((v : Int) / 256 % 256), .int .u8 ((v : Int) / 65536 % 256), .int .u8 ((v : Int) / 16777216)] 157)).heap[R]? = some (.cells (rowG Rb) 5 (0, 0)) by rw [heap_alloc_old _ _ hRV]; exact HVR.out)
  have HSRC := Lib.hid (show ∀ j u, ((lowB 1 v).map u8G)[j]? = some u → (V.alloc (.cells #[.int .u8 ((v : Int) % 256), .int .u8 ((v : Int) / 256 % 256), .int .u8 ((v : Int) / 65536 % 256), .int .u8 ((v : Int) / 16777216)] 157)).cell? ((⟨V.heap.size, 0, none⟩ : Addr).add j) = some u by
    rw [lowB_map1]
    exact src_lit V [.int .u8 ((v : Int) % 256), .int .u8 ((v : Int) / 256 % 256), .int .u8 ((v : Int) / 65536 % 256), .int .u8 ((v : Int) / 16777216)] 157 1)
  have HFIT := Lib.hid (show o + ((lowB 1 v).map u8G).length ≤ (rowG Rb).size by rw [rowG_size, List.length_map, lowB_length]; exact HO.out)
  have HLEN := Lib.hid (show ((lowB 1 v).map u8G).length = Nat.min 1 1 by rw [List.length_map, lowB_length]; rfl)
  clear hW h2 h5 HR hRV
  go_wp2_with (with_reducible refine wpList_copy_own rfl (.tmp 53) (.tmp 55) 57 57 rfl 5 Tryz.underlying57 (by kernel_rfl) R o 1 c ⟨V.heap.size, 0, none⟩ 1 4 rfl rfl (rowG Rb) 5 HVA.out ((lowB 1 v).map u8G) HLEN.out HSRC.out HFIT.out (u8G_one _) ?_)
  go_ret
  refine ⟨rfl, ?_, out_alloc_set HVG.out _ _⟩
  rw [← rowG_set]
  exact setRow_heap _ R _ _ _ _ HVA.out
set_option maxRecDepth 100000 in
set_option maxHeartbeats 1000000 in
theorem store_in2 (M R r n2 : Nat) (Rb : List Nat) (a c o : Nat) (v : Nat) (hv : v < 4294967296) (W : World) (h2 : W.cell? ⟨M, 2, none⟩ = some (.int .u32 (r : Nat))) (h5 : W.cell? ⟨M, 5, none⟩ = some (.slice (some ⟨R, 0, none⟩) n2 n2))
    (hR : W.heap[R]? = some (.cells (rowG Rb) 5 (0, 0))) (ho : o + 2 ≤ Rb.length) (ha : a < 4294967296) (h : a % 2 = 0)
    (hp : PartG R n2 r a 2 (.slice (some ⟨R, o, none⟩) 2 c) true) :
    Calls Tryz.prog 95 #[.pointer (some ⟨M, 0, none⟩), .int .u32 (a : Nat), .int .i64 2, .int .u32 (v : Nat)] W fun e w' => e = .returned (.int .i64 0) ∧ w'.heap[R]? = some (.cells (rowG (setB Rb o (lowB 2 v))) 5 (0, 0)) ∧ Out (· = R) W w' := by
  have IS := Lib.hid (isSize_yes 2 · (by omega))
  have t : (((a : Int) % 2) == 0) = true := by simp; omega
  have t' : (((a : Int) % 2) != 0) = false := by simp; omega
  have HP := Lib.hid hp
  have HR := Lib.hid hR
  have HO := Lib.hid ho
  clear h hp hR ho
  go_enter Tryz.func95, Tryz.ntmps95
  go_wp2_with fail
  refine (IS.out _).mono ?_
  rintro e w1 ⟨rfl, rfl⟩
  go_wp2_with fail
  go_quiet ((go_at_call 44; exact partG_q HP.out))
  rename_i nq
  generalize hW : W.drewN nq = V
  have HVR := Lib.hid (show V.heap[R]? = some (.cells (rowG Rb) 5 (0, 0)) by rw [← hW]; exact HR.out)
  have HVG := Lib.hid (show LikeG W V by rw [← hW]; exact .drewN _ _)
  have hRV : R < V.heap.size := (Array.getElem?_eq_some_iff.1 HVR.out).1
  have HVA := Lib.hid (show (V.alloc (.cells #[.int .u8 ((v : Int) % 256), .int .u8 ((v : Int) / 256 % 256), .int .u8 ((v : Int) / 65536 % 256), .int .u8 ((v : Int) / 16777216)] 157)).heap[R]? = some (.cells (rowG Rb) 5 (0, 0)) by rw [heap_alloc_old _ _ hRV]; exact HVR.out)
  have HSRC := Lib.hid (show ∀ j u, ((lowB 2 v).map u8G)[j]? = some u → (V.alloc (.cells #[.int .u8 ((v : Int) % 256), .int .u8 ((v : Int) / 256 % 256), .int .u8 ((v : Int) / 65536 % 256), .int .u8 ((v : Int) / 16777216)] 157)).cell? ((⟨V.heap.size, 0, none⟩ : Addr).add j) = some u by
    rw [lowB_map2]
    exact src_lit V [.int .u8 ((v : Int) % 256), .int .u8 ((v : Int) / 256 % 256), .int .u8 ((v : Int) / 65536 % 256), .int .u8 ((v : Int) / 16777216)] 157 2)
  have HFIT := Lib.hid (show o + ((lowB 2 v).map u8G).length ≤ (rowG Rb).size by rw [rowG_size, List.length_map, lowB_length]; exact HO.out)
  have HLEN := Lib.hid (show ((lowB 2 v).map u8G).length = Nat.min 2 2 by rw [List.length_map, lowB_length]; rfl)
  clear hW h2 h5 HR hRV
  go_wp2_with (with_reducible refine wpList_copy_own rfl (.tmp 53) (.tmp 55) 57 57 rfl 5 Tryz.underlying57 (by kernel_rfl) R o 2 c ⟨V.heap.size, 0, none⟩ 2 4 rfl rfl (rowG Rb) 5 HVA.out ((lowB 2 v).map u8G) HLEN.out HSRC.out HFIT.out (u8G_one _) ?_)
  go_ret
  refine ⟨rfl, ?_, out_alloc_set HVG.out _ _⟩
  rw [← rowG_set]
  exact setRow_heap _ R _ _ _ _ HVA.out
set_option maxRecDepth 100000 in
set_option maxHeartbeats 1000000 in
theorem store_in4 (M R r n2 : Nat) (Rb : List Nat) (a c o : Nat) (v : Nat) (hv : v < 4294967296) (W : World) (h2 : W.cell? ⟨M, 2, none⟩ = some (.int .u32 (r : Nat))) (h5 : W.cell? ⟨M, 5, none⟩ = some (.slice (some ⟨R, 0, none⟩) n2 n2))
    (hR : W.heap[R]? = some (.cells (rowG Rb) 5 (0, 0))) (ho : o + 4 ≤ Rb.length) (ha : a < 4294967296) (h : a % 4 = 0)
    (hp : PartG R n2 r a 4 (.slice (some ⟨R, o, none⟩) 4 c) true) :
    Calls Tryz.prog 95 #[.pointer (some ⟨M, 0, none⟩), .int .u32 (a : Nat), .int .i64 4, .int .u32 (v : Nat)] W fun e w' => e = .returned (.int .i64 0) ∧ w'.heap[R]? = some (.cells (rowG (setB Rb o (lowB 4 v))) 5 (0, 0)) ∧ Out (· = R) W w' := by
  have IS := Lib.hid (isSize_yes 4 · (by omega))
  have t : (((a : Int) % 4) == 0) = true := by simp; omega
  have t' : (((a : Int) % 4) != 0) = false := by simp; omega
  have HP := Lib.hid hp
  have HR := Lib.hid hR
  have HO := Lib.hid ho
  clear h hp hR ho
  go_enter Tryz.func95, Tryz.ntmps95
  go_wp2_with fail
  refine (IS.out _).mono ?_
  rintro e w1 ⟨rfl, rfl⟩
  go_wp2_with fail
  go_quiet ((go_at_call 44; exact partG_q HP.out))
  rename_i nq
  generalize hW : W.drewN nq = V
  have HVR := Lib.hid (show V.heap[R]? = some (.cells (rowG Rb) 5 (0, 0)) by rw [← hW]; exact HR.out)
  have HVG := Lib.hid (show LikeG W V by rw [← hW]; exact .drewN _ _)
  have hRV : R < V.heap.size := (Array.getElem?_eq_some_iff.1 HVR.out).1
  have HVA := Lib.hid (show (V.alloc (.cells #[.int .u8 ((v : Int) % 256), .int .u8 ((v : Int) / 256 % 256), .int .u8 ((v : Int) / 65536 % 256), .int .u8 ((v : Int) / 16777216)] 157)).heap[R]? = some (.cells (rowG Rb) 5 (0, 0)) by rw [heap_alloc_old _ _ hRV]; exact HVR.out)
  have HSRC := Lib.hid (show ∀ j u, ((lowB 4 v).map u8G)[j]? = some u → (V.alloc (.cells #[.int .u8 ((v : Int) % 256), .int .u8 ((v : Int) / 256 % 256), .int .u8 ((v : Int) / 65536 % 256), .int .u8 ((v : Int) / 16777216)] 157)).cell? ((⟨V.heap.size, 0, none⟩ : Addr).add j) = some u by
    rw [lowB_map4 v hv]
    exact src_lit V [.int .u8 ((v : Int) % 256), .int .u8 ((v : Int) / 256 % 256), .int .u8 ((v : Int) / 65536 % 256), .int .u8 ((v : Int) / 16777216)] 157 4)
  have HFIT := Lib.hid (show o + ((lowB 4 v).map u8G).length ≤ (rowG Rb).size by rw [rowG_size, List.length_map, lowB_length]; exact HO.out)
  have HLEN := Lib.hid (show ((lowB 4 v).map u8G).length = Nat.min 4 4 by rw [List.length_map, lowB_length]; rfl)
  clear hW h2 h5 HR hRV
  go_wp2_with (with_reducible refine wpList_copy_own rfl (.tmp 53) (.tmp 55) 57 57 rfl 5 Tryz.underlying57 (by kernel_rfl) R o 4 c ⟨V.heap.size, 0, none⟩ 4 4 rfl rfl (rowG Rb) 5 HVA.out ((lowB 4 v).map u8G) HLEN.out HSRC.out HFIT.out (u8G_one _) ?_)
  go_ret
  refine ⟨rfl, ?_, out_alloc_set HVG.out _ _⟩
  rw [← rowG_set]
  exact setRow_heap _ R _ _ _ _ HVA.out
theorem store_in (M R r n2 : Nat) (Rb : List Nat) (a k c o : Nat) (v : Nat) (hv : v < 4294967296) (W : World) (h2 : W.cell? ⟨M, 2, none⟩ = some (.int .u32 (r : Nat))) (h5 : W.cell? ⟨M, 5, none⟩ = some (.slice (some ⟨R, 0, none⟩) n2 n2))
    (hR : W.heap[R]? = some (.cells (rowG Rb) 5 (0, 0))) (ho : o + k ≤ Rb.length) (ha : a < 4294967296) (hk : k = 1 ∨ k = 2 ∨ k = 4) (h : a % k = 0)
    (hp : PartG R n2 r a k (.slice (some ⟨R, o, none⟩) k c) true) :
    Calls Tryz.prog 95 #[.pointer (some ⟨M, 0, none⟩), .int .u32 (a : Nat), .int .i64 (k : Nat), .int .u32 (v : Nat)] W fun e w' => e = .returned (.int .i64 0) ∧ w'.heap[R]? = some (.cells (rowG (setB Rb o (lowB k v))) 5 (0, 0)) ∧ Out (· = R) W w' := by
  rcases hk with rfl | rfl | rfl
  · exact store_in1 M R r n2 Rb a c o v hv W h2 h5 hR ho ha h hp
  · exact store_in2 M R r n2 Rb a c o v hv W h2 h5 hR ho ha h hp
  · exact store_in4 M R r n2 Rb a c o v hv W h2 h5 hR ho ha h hp
/-- the bytes of RAM behind a store -/
def ramS (r n2 : Nat) (Rb : List Nat) (a k v : Nat) : List Nat := if storeS r n2 a k = 0 then setB Rb (a - r) (lowB k v) else Rb
theorem MemIs.out {M F R f r : Nat} {Fb Rb : List Nat} {S : Nat → Prop} {W W' : World} (h : MemIs M F R f r Fb Rb W) (ho : Out S W W') (hM : ¬ S M) (hF : ¬ S F) (hR : ¬ S R) : MemIs M F R f r Fb Rb W' :=
  { c0 := (ho.cell (p := ⟨M, 0, none⟩) (World.block_lt_of_cell? W _ h.c0) hM).trans h.c0, c2 := (ho.cell (p := ⟨M, 2, none⟩) (World.block_lt_of_cell? W _ h.c2) hM).trans h.c2
    c4 := (ho.cell (p := ⟨M, 4, none⟩) (World.block_lt_of_cell? W _ h.c4) hM).trans h.c4, c5 := (ho.cell (p := ⟨M, 5, none⟩) (World.block_lt_of_cell? W _ h.c5) hM).trans h.c5
    hF := (ho.block F (Array.getElem?_eq_some_iff.1 h.hF).1 hF).trans h.hF, hR := (ho.block R (Array.getElem?_eq_some_iff.1 h.hR).1 hR).trans h.hR, fF := h.fF, fR := h.fR, mF := h.mF, mR := h.mR, fr := h.fr }
theorem MemIs.stored {M F R f r : Nat} {Fb Rb Rb' : List Nat} {W W' : World} (h : MemIs M F R f r Fb Rb W) (ho : Out (· = R) W W') (hR : W'.heap[R]? = some (.cells (rowG Rb') 5 (0, 0))) (hl : Rb'.length = Rb.length) (fR : ∀ x ∈ Rb', x < 256) : MemIs M F R f r Fb Rb' W' :=
  { c0 := (ho.cell (p := ⟨M, 0, none⟩) (World.block_lt_of_cell? W _ h.c0) h.mR).trans h.c0, c2 := (ho.cell (p := ⟨M, 2, none⟩) (World.block_lt_of_cell? W _ h.c2) h.mR).trans h.c2
    c4 := (ho.cell (p := ⟨M, 4, none⟩) (World.block_lt_of_cell? W _ h.c4) h.mR).trans h.c4, c5 := by rw [hl]; exact (ho.cell (p := ⟨M, 5, none⟩) (World.block_lt_of_cell? W _ h.c5) h.mR).trans h.c5
    hF := (ho.block F (Array.getElem?_eq_some_iff.1 h.hF).1 h.fr).trans h.hF, hR := hR, fF := h.fF, fR := fR, mF := h.mF, mR := h.mR, fr := h.fr }
theorem store_any {M F R f r : Nat} {Fb Rb : List Nat} {W : World} (h : MemIs M F R f r Fb Rb W) (hb : Banks f Fb.length r Rb.length) (a k v : Nat) (ha : a < 4294967296) (hk : k = 1 ∨ k = 2 ∨ k = 4) (hv : v < 4294967296) :
    Calls Tryz.prog 95 #[.pointer (some ⟨M, 0, none⟩), .int .u32 (a : Nat), .int .i64 (k : Nat), .int .u32 (v : Nat)] W fun e w' => e = .returned (.int .i64 (storeS r Rb.length a k)) ∧ MemIs M F R f r Fb (ramS r Rb.length Rb a k v) w' ∧ Out (· = R) W w' := by
  have q1 := hb.b; have q2 := hb.d
  unfold ramS
  by_cases h0 : a % k = 0
  · by_cases h1 : inB r Rb.length a k = true
    · have e : storeS r Rb.length a k = 0 := by unfold storeS; rw [if_neg (by omega), if_pos h1]
      rw [e, if_pos rfl]
      have := inB_out h1
      refine (store_in M R r _ Rb a k _ (a - r) v hv W h.c2 h.c5 h.hR (by omega) ha hk h0 (partG_in (by omega) h1 ha (by omega))).mono ?_
      rintro e w' ⟨rfl, k1, k2⟩
      exact ⟨rfl, h.stored k2 k1 (setB_length _ _ _ (by rw [lowB_length]; omega)) (setB_all h.fR (lowB_lt k v)), k2⟩
    · have h1' := Bool.eq_false_iff.2 h1
      have e : storeS r Rb.length a k = 4 := by unfold storeS; rw [if_neg (by omega), if_neg h1]
      rw [e, if_neg (by decide)]
      refine (store_out M R r _ a k v W h.c2 h.c5 ha hk h0 (partG_out (by omega) h1' ha (by omega) (by omega) (by omega))).mono ?_
      rintro e w' ⟨rfl, k2⟩
      exact ⟨rfl, h.like k2, k2.out _⟩
  · have e : storeS r Rb.length a k = 1 := by unfold storeS; rw [if_pos h0]
    rw [e, if_neg (by decide)]
    refine (store_align M a k v W ha hk h0).mono ?_
    rintro e w' ⟨rfl, k2⟩
    exact ⟨rfl, h.like k2, k2.out _⟩
end Go.Proofs.YtmlhoagcppofgaaGreatDoor

namespace Go.Proofs.YtmlhoagcppofgaaGreatDoor
open Go Go.RowKit
set_option linter.unusedVariables false

set_option maxHeartbeats 1000000 in
theorem mput_nil (M : Nat) (a : Int) (ad : Option Addr) (cc : Nat) (W : World) :
    Calls Tryz.prog 15 #[.pointer (some ⟨M, 0, none⟩), .int .u32 a, .slice ad 0 cc] W fun e w' => e = .returned (.bool true) ∧ LikeG W w' := by
  go_enter Tryz.func15, Tryz.ntmps15
  go_wp2_with fail
  go_ret
  exact ⟨rfl, .refl _⟩
set_option maxHeartbeats 1000000 in
theorem mput_out (M a n : Nat) (ad : Option Addr) (cc : Nat) (W : World) (h0 : 0 < n) (hn : n < 9223372036854775808) (sl : Value)
    (hw : Calls Tryz.prog 27 #[.pointer (some ⟨M, 0, none⟩), .int .u32 (a : Nat), .int .i64 (n : Nat)] W fun e w' => e = .returned (.tuple #[sl, .bool false]) ∧ LikeG W w') :
    Calls Tryz.prog 15 #[.pointer (some ⟨M, 0, none⟩), .int .u32 (a : Nat), .slice ad n cc] W fun e w' => e = .returned (.bool false) ∧ LikeG W w' := by
  have t : ((n : Int) == 0) = false := by simp; omega
  have HW := Lib.hid hw
  clear hw
  go_enter Tryz.func15, Tryz.ntmps15
  go_wp2_with fail
  refine HW.out.mono ?_
  rintro e w1 ⟨rfl, hl⟩
  go_wp2_with fail
  go_ret
  exact ⟨rfl, hl⟩
theorem Out.of_set {W : World} {G : Nat} (cs : Array Value) : Out (· = G) W (W.setRow G cs) := ⟨rfl, rfl, rfl, by simp [World.setRow], fun k _ hk => setRow_other _ G k _ (fun e => hk e)⟩
set_option maxRecDepth 100000 in
set_option maxHeartbeats 1000000 in
theorem mput_in (M G o c a n : Nat) (l bs : List Nat) (ad : Addr) (cc : Nat) (W : World) (hlen : bs.length = n) (h0 : 0 < n) (hn : n < 9223372036854775808)
    (hw : Calls Tryz.prog 27 #[.pointer (some ⟨M, 0, none⟩), .int .u32 (a : Nat), .int .i64 (n : Nat)] W fun e w' => e = .returned (.tuple #[.slice (some ⟨G, o, none⟩) n c, .bool true]) ∧ LikeG W w')
    (hG : W.heap[G]? = some (.cells (rowG l) 5 (0, 0))) (ho : o + n ≤ l.length) (src : ∀ j u, (bs.map u8G)[j]? = some u → W.cell? (ad.add j) = some u) :
    Calls Tryz.prog 15 #[.pointer (some ⟨M, 0, none⟩), .int .u32 (a : Nat), .slice (some ad) n cc] W fun e w' => e = .returned (.bool true) ∧ w'.heap[G]? = some (.cells (rowG (setB l o bs)) 5 (0, 0)) ∧ Out (· = G) W w' := by
  have t : ((n : Int) == 0) = false := by simp; omega
  have HW := Lib.hid hw
  have HG := Lib.hid hG
  have HS := Lib.hid src
  have HL := Lib.hid (show (bs.map u8G).length = Nat.min n n by rw [List.length_map, hlen]; exact (Nat.min_self n).symm)
  have HF := Lib.hid (show o + (bs.map u8G).length ≤ (rowG l).size by rw [rowG_size, List.length_map, hlen]; exact ho)
  have HONE := Lib.hid (u8G_one bs)
  have HROW := Lib.hid (rowG_set l o bs)
  generalize hcs : bs.map u8G = cs at *
  generalize hrw : rowG l = rw0 at *
  clear hw hG src hlen ho hcs hrw
  go_enter Tryz.func15, Tryz.ntmps15
  go_wp2_with fail
  refine HW.out.mono ?_
  rintro e w1 ⟨rfl, hl⟩
  have HGL := Lib.hid (show w1.heap[G]? = some (.cells rw0 5 (0, 0)) by rw [hl.1]; exact HG.out)
  have HSL := Lib.hid (show ∀ j u, cs[j]? = some u → w1.cell? (ad.add j) = some u from fun j u hj => (hl.cell _).trans (HS.out j u hj))
  have HO := Lib.hid (hl.out (· = G))
  clear hl HW HG HS
  go_wp2_with (with_reducible refine wpList_copy_own rfl (.tmp 24) (.tmp 25) 57 57 rfl 5 Tryz.underlying57 (by kernel_rfl) G o n c ad n cc rfl rfl rw0 5 HGL.out cs HL.out HSL.out HF.out HONE.out ?_)
  go_ret
  refine ⟨rfl, ?_, HO.out.trans (.of_set _)⟩
  rw [← HROW.out]
  exact setRow_heap _ G _ _ _ _ HGL.out
/-- both banks behind a Put -/
def putF (f n1 : Nat) (Fb : List Nat) (a : Nat) (bs : List Nat) : List Nat := if inB f n1 a bs.length then setB Fb (a - f) bs else Fb
def putRm (f n1 r n2 : Nat) (Rb : List Nat) (a : Nat) (bs : List Nat) : List Nat := if inB f n1 a bs.length then Rb else if inB r n2 a bs.length then setB Rb (a - r) bs else Rb
theorem MemIs.put {M F R f r : Nat} {Fb Rb : List Nat} {W : World} (h : MemIs M F R f r Fb Rb W) (hb : Banks f Fb.length r Rb.length) (a : Nat) (bs : List Nat) (ha : a < 4294967296) (h0 : 0 < bs.length) (hn : bs.length < 9223372036854775808) (h256 : ∀ x ∈ bs, x < 256) (ad : Addr) (cc : Nat)
    (src : ∀ j u, (bs.map u8G)[j]? = some u → W.cell? (ad.add j) = some u) :
    Calls Tryz.prog 15 #[.pointer (some ⟨M, 0, none⟩), .int .u32 (a : Nat), .slice (some ad) bs.length cc] W fun e w' => e = .returned (.bool (wIn f Fb.length r Rb.length a bs.length)) ∧
      MemIs M F R f r (putF f Fb.length Fb a bs) (putRm f Fb.length r Rb.length Rb a bs) w' ∧ Out (fun j => j = F ∨ j = R) W w' := by
  have hw := within_any h hb a bs.length ha h0 hn
  unfold wSl wIn at hw
  unfold putF putRm wIn
  by_cases h1 : inB f Fb.length a bs.length = true
  · have g := inB_out h1
    simp only [h1, if_true, Bool.true_or] at hw ⊢
    refine (mput_in M F (a - f) _ a bs.length Fb bs ad cc W rfl h0 hn hw h.hF (by omega) src).mono ?_
    rintro e w' ⟨rfl, k1, k2⟩
    have sl := setB_length Fb (a - f) bs (by omega)
    refine ⟨rfl, { c0 := ?_, c2 := ?_, c4 := ?_, c5 := ?_, hF := k1, hR := ?_, fF := setB_all h.fF h256, fR := h.fR, mF := h.mF, mR := h.mR, fr := h.fr }, k2.mono fun j hj => .inl hj⟩
    · exact (k2.cell (p := ⟨M, 0, none⟩) (World.block_lt_of_cell? W _ h.c0) h.mF).trans h.c0
    · exact (k2.cell (p := ⟨M, 2, none⟩) (World.block_lt_of_cell? W _ h.c2) h.mF).trans h.c2
    · rw [sl]; exact (k2.cell (p := ⟨M, 4, none⟩) (World.block_lt_of_cell? W _ h.c4) h.mF).trans h.c4
    · exact (k2.cell (p := ⟨M, 5, none⟩) (World.block_lt_of_cell? W _ h.c5) h.mF).trans h.c5
    · exact (k2.block R (Array.getElem?_eq_some_iff.1 h.hR).1 (fun e => h.fr e.symm)).trans h.hR
  · by_cases h2 : inB r Rb.length a bs.length = true
    · have g := inB_out h2
      simp only [h1, h2, if_true, Bool.or_true, Bool.false_eq_true, if_false] at hw ⊢
      refine (mput_in M R (a - r) _ a bs.length Rb bs ad cc W rfl h0 hn hw h.hR (by omega) src).mono ?_
      rintro e w' ⟨rfl, k1, k2⟩
      exact ⟨rfl, h.stored k2 k1 (setB_length _ _ _ (by omega)) (setB_all h.fR h256), k2.mono fun j hj => .inr hj⟩
    · simp only [h1, h2, Bool.or_self, Bool.false_eq_true, if_false] at hw ⊢
      refine (mput_out M a bs.length (some ad) cc W h0 hn _ hw).mono ?_
      rintro e w' ⟨rfl, k⟩
      exact ⟨rfl, h.like k, k.out _⟩

theorem info_u8U : (Tryz.prog.info? 5).map (fun i => (i.zero, i.size, i.bytes)) = some (some (.int .u8 0), 1, 1) := by kernel_rfl
end Go.Proofs.YtmlhoagcppofgaaGreatDoor
