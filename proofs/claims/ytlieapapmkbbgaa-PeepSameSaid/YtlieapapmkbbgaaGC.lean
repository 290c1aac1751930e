/- Package mem over any bytes: numbers out of bytes, Load, Fetch. -/
import Derived.Test.YtlieapapmkbbgaaGB
import Derived.Laws.BitsAllLaws
import Derived.Laws.CopyOwn
import Derived.Laws.AppendOwn
import Derived.Deep.AppendLies
namespace Go.Proofs.Ytlieapapmkbbgaa
open Go Go.RowKit
set_option linter.unusedVariables false

/-- what changed lies in these blocks -/
structure Out (S : Nat → Prop) (W W' : World) : Prop where
  os : W'.os = W.os
  tape : W'.tape = W.tape
  output : W'.output = W.output
  size : W.heap.size ≤ W'.heap.size
  block : ∀ k, k < W.heap.size → ¬ S k → W'.heap[k]? = W.heap[k]?
theorem Out.refl (S : Nat → Prop) (W : World) : Out S W W := ⟨rfl, rfl, rfl, Nat.le_refl _, fun _ _ _ => rfl⟩
theorem Out.trans {S : Nat → Prop} {a b c : World} (h : Out S a b) (k : Out S b c) : Out S a c :=
  ⟨k.os.trans h.os, k.tape.trans h.tape, k.output.trans h.output, Nat.le_trans h.size k.size, fun j hj hs => (k.block j (Nat.lt_of_lt_of_le hj h.size) hs).trans (h.block j hj hs)⟩
theorem Out.mono {S T : Nat → Prop} {a b : World} (h : Out S a b) (k : ∀ j, S j → T j) : Out T a b :=
  ⟨h.os, h.tape, h.output, h.size, fun j hj hs => h.block j hj fun g => hs (k j g)⟩
theorem Out.below {S : Nat → Prop} {B : Nat} {w a b : World} (h : Out S a b) (k : Below B w a) (hB : B ≤ w.heap.size) (hS : ∀ j, S j → B ≤ j) : Below B w b :=
  ⟨h.os.trans k.os, h.tape.trans k.tape, h.output.trans k.output, Nat.le_trans k.size h.size, fun j hj => (h.block j (Nat.lt_of_lt_of_le hj (Nat.le_trans hB k.size)) fun g => by have := hS j g; omega).trans (k.block j hj)⟩
theorem Out.of_below {a b : World} (S : Nat → Prop) (h : Below a.heap.size a b) : Out S a b := ⟨h.os, h.tape, h.output, h.size, fun j hj _ => h.block j hj⟩
theorem Out.of_grown {a b : World} {r : Option Nat} {S : Nat → Prop} (h : a.grownBy b r) (hr : ∀ k, r = some k → S k) : Out S a b :=
  ⟨h.os, h.tape, h.output, h.size, fun j hj hs => h.block j hj fun e => hs (hr j e.symm)⟩
theorem LikeG.below {a b : World} (h : LikeG a b) : Below a.heap.size a b := h.2 _ _ (Below.refl _ _)
theorem LikeG.out {a b : World} (h : LikeG a b) (S : Nat → Prop) : Out S a b := .of_below S h.below
theorem Out.cell {S : Nat → Prop} {a b : World} (h : Out S a b) {p : Addr} (hp : p.block < a.heap.size) (hs : ¬ S p.block) : b.cell? p = a.cell? p := World.cell?_of_block (h.block _ hp hs)
theorem Out.row {S : Nat → Prop} {W W' : World} (h : Out S W W') {base size n : Nat} {t : TypeId} {v : Value} {xs : List Value} (k : W.ownsRow base t size v n xs) (hs : ∀ j, v.ownBlock = some j → ¬ S j) : W'.ownsRow base t size v n xs := by
  obtain ⟨h1, h2⟩ := k
  refine ⟨h1, ?_⟩
  rcases h2 with h2 | h2
  · exact .inl h2
  · right
    obtain ⟨g, cap, cur, rfl, k1, k2, k3⟩ := h2
    exact ⟨g, cap, cur, rfl, k1, (h.block g (Array.getElem?_eq_some_iff.1 k2).1 (hs g rfl)).trans k2, k3⟩

/-- bytes as a number, joined bit by bit -/
theorem mor_add (a b i : Nat) (ha : a < 2 ^ i) (h : a + b * 2 ^ i < 4294967296) : bits .or .u32 (a : Int) ((b * 2 ^ i : Nat) : Int) = ((a + b * 2 ^ i : Nat) : Int) := by
  rw [u32_or_nat _ _ (by omega) (by omega)]
  congr 1
  rw [Nat.or_comm, Nat.mul_comm, ← Nat.two_pow_add_eq_or_of_lt ha]
  omega
theorem mor_0 (x : Nat) (h : x < 4294967296) : bits .or .u32 0 (x : Int) = (x : Int) := by
  rw [show (0 : Int) = ((0 : Nat) : Int) from rfl, u32_or_nat _ _ (by omega) h, Nat.zero_or]
theorem mor_1 (a b : Nat) (ha : a < 256) (hb : b < 256) : bits .or .u32 (a : Int) ((b : Int) * 256) = ((a + b * 256 : Nat) : Int) := by
  rw [show ((b : Int) * 256) = ((b * 2 ^ 8 : Nat) : Int) by omega, mor_add a b 8 (by omega) (by omega)]
theorem mor_2 (a b : Nat) (ha : a < 65536) (hb : b < 256) : bits .or .u32 (a : Int) ((b : Int) * 65536) = ((a + b * 65536 : Nat) : Int) := by
  rw [show ((b : Int) * 65536) = ((b * 2 ^ 16 : Nat) : Int) by omega, mor_add a b 16 (by omega) (by omega)]
theorem mor_3 (a b : Nat) (ha : a < 16777216) (hb : b < 256) : bits .or .u32 (a : Int) ((b : Int) * 16777216) = ((a + b * 16777216 : Nat) : Int) := by
  rw [show ((b : Int) * 16777216) = ((b * 2 ^ 24 : Nat) : Int) by omega, mor_add a b 24 (by omega) (by omega)]
def bytesAt (l : List Nat) (o k : Nat) : Nat := numB ((l.drop o).take k)
theorem bytes0 (l : List Nat) (o : Nat) : bytesAt l o 0 = 0 := by simp [bytesAt, numB]
theorem bytes_step {l : List Nat} {o : Nat} (k : Nat) (h : o < l.length) : bytesAt l o (k + 1) = l.getD o 0 + 256 * bytesAt l (o + 1) k := by
  unfold bytesAt
  rw [List.drop_eq_getElem_cons h, List.take_succ_cons]
  show l[o] + 256 * numB _ = _
  simp [List.getD, List.getElem?_eq_getElem h]
theorem bytes1 {l : List Nat} {o : Nat} (h : o + 1 ≤ l.length) : bytesAt l o 1 = l.getD o 0 := by
  rw [bytes_step 0 (by omega), bytes0]; omega
theorem bytes2 {l : List Nat} {o : Nat} (h : o + 2 ≤ l.length) : bytesAt l o 2 = l.getD o 0 + 256 * l.getD (o + 1) 0 := by
  rw [bytes_step 1 (by omega), bytes1 (by omega)]
theorem bytes4 {l : List Nat} {o : Nat} (h : o + 4 ≤ l.length) : bytesAt l o 4 = l.getD o 0 + 256 * (l.getD (o + 1) 0 + 256 * (l.getD (o + 2) 0 + 256 * l.getD (o + 3) 0)) := by
  rw [bytes_step 3 (by omega), bytes_step 2 (by omega), bytes2 (by omega)]
theorem getD_lt {l : List Nat} (h : ∀ x ∈ l, x < 256) (i : Nat) : l.getD i 0 < 256 := by
  rw [List.getD_eq_getElem?_getD]
  cases hx : l[i]? with
  | none => simp
  | some x => exact h x (List.mem_of_getElem? hx)
theorem row_cellG {W : World} {G : Nat} {l : List Nat} (hG : W.heap[G]? = some (.cells (rowG l) 5 (0, 0))) (i : Nat) (hi : i < l.length) : W.cell? ⟨G, i, none⟩ = some (.int .u8 (l.getD i 0 : Nat)) := by
  rw [cell_of_row W G i _ _ _ hG]
  simp [rowG, u8G, List.getD, List.getElem?_eq_getElem hi]
theorem ret_u32G {a b : Int} (h : a = b) : Ending.returned (.int .u32 a) = .returned (.int .u32 b) := by rw [h]
set_option maxHeartbeats 1000000 in
theorem number1 {W : World} {G : Nat} {l : List Nat} (hG : W.heap[G]? = some (.cells (rowG l) 5 (0, 0))) (fl : ∀ x ∈ l, x < 256) (o c : Nat) (ho : o + 1 ≤ l.length) :
    Calls Try.prog 51 #[.slice (some ⟨G, o, none⟩) 1 c] W fun e w' => e = .returned (.int .u32 (bytesAt l o 1 : Nat)) ∧ W = w' := by
  have c0 := row_cellG hG o (by omega)
  have x0 := getD_lt fl o
  have E := Lib.hid (bytes1 ho)
  generalize hx : l.getD o 0 = x at *
  clear hG fl hx
  go_enter Try.func51, Try.ntmps51
  go_wp2
  go_rounds 3
  go_ret
  exact ⟨ret_u32G (by rw [E.out, mor_0 _ (by omega)]), rfl⟩
set_option maxHeartbeats 1000000 in
theorem number2 {W : World} {G : Nat} {l : List Nat} (hG : W.heap[G]? = some (.cells (rowG l) 5 (0, 0))) (fl : ∀ x ∈ l, x < 256) (o c : Nat) (ho : o + 2 ≤ l.length) :
    Calls Try.prog 51 #[.slice (some ⟨G, o, none⟩) 2 c] W fun e w' => e = .returned (.int .u32 (bytesAt l o 2 : Nat)) ∧ W = w' := by
  have c0 := row_cellG hG o (by omega)
  have c1 := row_cellG hG (o + 1) (by omega)
  have x0 := getD_lt fl o
  have x1 := getD_lt fl (o + 1)
  have E := Lib.hid (bytes2 ho)
  generalize hx : l.getD o 0 = x at *
  generalize hy : l.getD (o + 1) 0 = y at *
  clear hG fl hx hy
  go_enter Try.func51, Try.ntmps51
  go_wp2
  go_rounds 4
  go_ret
  exact ⟨ret_u32G (by rw [E.out, mor_0 _ (by omega), mor_1 _ _ x0 x1]; omega), rfl⟩
set_option maxHeartbeats 1000000 in
theorem number4 {W : World} {G : Nat} {l : List Nat} (hG : W.heap[G]? = some (.cells (rowG l) 5 (0, 0))) (fl : ∀ x ∈ l, x < 256) (o c : Nat) (ho : o + 4 ≤ l.length) :
    Calls Try.prog 51 #[.slice (some ⟨G, o, none⟩) 4 c] W fun e w' => e = .returned (.int .u32 (bytesAt l o 4 : Nat)) ∧ W = w' := by
  have c0 := row_cellG hG o (by omega)
  have c1 := row_cellG hG (o + 1) (by omega)
  have c2 := row_cellG hG (o + 2) (by omega)
  have c3 := row_cellG hG (o + 3) (by omega)
  have x0 := getD_lt fl o
  have x1 := getD_lt fl (o + 1)
  have x2 := getD_lt fl (o + 2)
  have x3 := getD_lt fl (o + 3)
  have E := Lib.hid (bytes4 ho)
  generalize hx : l.getD o 0 = x at *
  generalize hy : l.getD (o + 1) 0 = y at *
  generalize hz : l.getD (o + 2) 0 = z at *
  generalize hu : l.getD (o + 3) 0 = u at *
  clear hG fl hx hy hz hu
  go_enter Try.func51, Try.ntmps51
  go_wp2
  go_rounds 6
  go_ret
  exact ⟨ret_u32G (by rw [E.out, mor_0 _ (by omega), mor_1 _ _ x0 x1, mor_2 _ _ (by omega) x2, mor_3 _ _ (by omega) x3]; omega), rfl⟩
theorem number_any {W : World} {G : Nat} {l : List Nat} (hG : W.heap[G]? = some (.cells (rowG l) 5 (0, 0))) (fl : ∀ x ∈ l, x < 256) (o k c : Nat) (hk : k = 1 ∨ k = 2 ∨ k = 4) (ho : o + k ≤ l.length) :
    Calls Try.prog 51 #[.slice (some ⟨G, o, none⟩) k c] W fun e w' => e = .returned (.int .u32 (bytesAt l o k : Nat)) ∧ W = w' := by
  rcases hk with rfl | rfl | rfl
  · exact number1 hG fl o c ho
  · exact number2 hG fl o c ho
  · exact number4 hG fl o c ho

theorem isSize_yes (k : Nat) (w : World) (hk : k = 1 ∨ k = 2 ∨ k = 4) : Calls Try.prog 47 #[.int .i64 (k : Nat)] w fun e w' => e = .returned (.bool true) ∧ w = w' := by
  rcases hk with rfl | rfl | rfl
  all_goals go_enter Try.func47, Try.ntmps47
  all_goals go_wp2
  all_goals go_ret
  all_goals exact ⟨rfl, rfl⟩
theorem isSize_no (k : Int) (w : World) (hk : k ≠ 1 ∧ k ≠ 2 ∧ k ≠ 4) : Calls Try.prog 47 #[.int .i64 k] w fun e w' => e = .returned (.bool false) ∧ w = w' := by
  have t1 : (k == 1) = false := by simp; omega
  have t2 : (k == 2) = false := by simp; omega
  have t4 : (k == 4) = false := by simp; omega
  clear hk
  go_enter Try.func47, Try.ntmps47
  go_wp2
  go_ret
  exact ⟨rfl, rfl⟩
/-- what a load tells: a number and a trap -/
def loadS (f n1 r n2 : Nat) (Fb Rb : List Nat) (a k : Nat) : Nat × Int :=
  if a % k ≠ 0 then (0, 1) else if inB f n1 a k then (bytesAt Fb (a - f) k, 0) else if inB r n2 a k then (bytesAt Rb (a - r) k, 0) else (0, 3)
def fetchS (f n1 r n2 : Nat) (Fb Rb : List Nat) (a : Nat) : Nat × Int :=
  if a % 4 ≠ 0 then (0, 1) else if inB f n1 a 4 then (bytesAt Fb (a - f) 4, 0) else if inB r n2 a 4 then (bytesAt Rb (a - r) 4, 0) else (0, 2)
def LoadPost (W : World) (n : Nat) (t : Int) (e : Ending) (w' : World) : Prop := e = .returned (.tuple #[.int .u32 (n : Nat), .int .i64 t]) ∧ LikeG W w'
set_option maxHeartbeats 1000000 in
theorem load_size (M : Nat) (a : Int) (k : Int) (W : World) (hk : k ≠ 1 ∧ k ≠ 2 ∧ k ≠ 4) :
    Calls Try.prog 45 #[.pointer (some ⟨M, 0, none⟩), .int .u32 a, .int .i64 k] W (LoadPost W 0 3) := by
  have IS := Lib.hid (isSize_no k · hk)
  clear hk
  go_enter Try.func45, Try.ntmps45
  go_wp2_with fail
  refine (IS.out _).mono ?_
  rintro e w1 ⟨rfl, rfl⟩
  go_wp2_with fail
  go_ret2
  exact ⟨rfl, .refl _⟩
set_option maxHeartbeats 1000000 in
theorem load_align (M : Nat) (a k : Nat) (W : World) (ha : a < 4294967296) (hk : k = 1 ∨ k = 2 ∨ k = 4) (h : a % k ≠ 0) :
    Calls Try.prog 45 #[.pointer (some ⟨M, 0, none⟩), .int .u32 (a : Nat), .int .i64 (k : Nat)] W (LoadPost W 0 1) := by
  have IS := Lib.hid (isSize_yes k · hk)
  have hk0 : 0 < k := by omega
  have hk4 : k ≤ 4 := by omega
  have t : (((a : Int) % (k : Int)) == 0) = false := by simp; omega
  have t' : (((a : Int) % (k : Int)) != 0) = true := by simp; omega
  clear hk h
  go_enter Try.func45, Try.ntmps45
  go_wp2_with fail
  refine (IS.out _).mono ?_
  rintro e w1 ⟨rfl, rfl⟩
  go_wp2_with fail
  go_ret2
  exact ⟨rfl, .refl _⟩
set_option maxHeartbeats 1000000 in
theorem load_in (M G a k o c : Nat) (l : List Nat) (W : World) (ha : a < 4294967296) (hk : k = 1 ∨ k = 2 ∨ k = 4) (h : a % k = 0)
    (hw : Calls Try.prog 31 #[.pointer (some ⟨M, 0, none⟩), .int .u32 (a : Nat), .int .i64 (k : Nat)] W fun e w' => e = .returned (.tuple #[.slice (some ⟨G, o, none⟩) k c, .bool true]) ∧ LikeG W w')
    (hG : W.heap[G]? = some (.cells (rowG l) 5 (0, 0))) (fl : ∀ x ∈ l, x < 256) (ho : o + k ≤ l.length) :
    Calls Try.prog 45 #[.pointer (some ⟨M, 0, none⟩), .int .u32 (a : Nat), .int .i64 (k : Nat)] W (LoadPost W (bytesAt l o k) 0) := by
  have IS := Lib.hid (isSize_yes k · hk)
  have HW := Lib.hid hw
  have NB := Lib.hid (show ∀ w', LikeG W w' → Calls Try.prog 51 #[.slice (some ⟨G, o, none⟩) k c] w' fun e w2 => e = .returned (.int .u32 (bytesAt l o k : Nat)) ∧ w' = w2 from fun w' hl => number_any (by rw [hl.1]; exact hG) fl o k c hk ho)
  have hk0 : 0 < k := by omega
  have hk4 : k ≤ 4 := by omega
  have t : (((a : Int) % (k : Int)) == 0) = true := by simp; omega
  have t' : (((a : Int) % (k : Int)) != 0) = false := by simp; omega
  clear hk h hw hG fl ho
  go_enter Try.func45, Try.ntmps45
  go_wp2_with fail
  refine (IS.out _).mono ?_
  rintro e w1 ⟨rfl, rfl⟩
  go_wp2_with fail
  refine HW.out.mono ?_
  rintro e w1 ⟨rfl, hl⟩
  have HL := Lib.hid hl
  clear hl
  go_wp2_with fail
  refine (NB.out _ HL.out).mono ?_
  rintro e w2 ⟨rfl, rfl⟩
  go_wp2_with fail
  go_ret2
  exact ⟨rfl, HL.out⟩
set_option maxHeartbeats 1000000 in
theorem load_out (M a k : Nat) (W : World) (ha : a < 4294967296) (hk : k = 1 ∨ k = 2 ∨ k = 4) (h : a % k = 0) (sl : Value)
    (hw : Calls Try.prog 31 #[.pointer (some ⟨M, 0, none⟩), .int .u32 (a : Nat), .int .i64 (k : Nat)] W fun e w' => e = .returned (.tuple #[sl, .bool false]) ∧ LikeG W w') :
    Calls Try.prog 45 #[.pointer (some ⟨M, 0, none⟩), .int .u32 (a : Nat), .int .i64 (k : Nat)] W (LoadPost W 0 3) := by
  have IS := Lib.hid (isSize_yes k · hk)
  have HW := Lib.hid hw
  have hk0 : 0 < k := by omega
  have hk4 : k ≤ 4 := by omega
  have t : (((a : Int) % (k : Int)) == 0) = true := by simp; omega
  have t' : (((a : Int) % (k : Int)) != 0) = false := by simp; omega
  clear hk h hw
  go_enter Try.func45, Try.ntmps45
  go_wp2_with fail
  refine (IS.out _).mono ?_
  rintro e w1 ⟨rfl, rfl⟩
  go_wp2_with fail
  refine HW.out.mono ?_
  rintro e w1 ⟨rfl, hl⟩
  go_wp2_with fail
  go_ret2
  exact ⟨rfl, hl⟩
theorem inB_out {base n a k : Nat} (h : inB base n a k = true) : base ≤ a ∧ a + k ≤ base + n := of_decide_eq_true h
theorem load_any {M F R f r : Nat} {Fb Rb : List Nat} {W : World} (h : MemIs M F R f r Fb Rb W) (hb : Banks f Fb.length r Rb.length) (a k : Nat) (ha : a < 4294967296) (hk : k = 1 ∨ k = 2 ∨ k = 4) :
    Calls Try.prog 45 #[.pointer (some ⟨M, 0, none⟩), .int .u32 (a : Nat), .int .i64 (k : Nat)] W (LoadPost W (loadS f Fb.length r Rb.length Fb Rb a k).1 (loadS f Fb.length r Rb.length Fb Rb a k).2) := by
  unfold loadS
  by_cases h0 : a % k = 0
  · rw [if_neg (by omega)]
    have hw := within_any h hb a k ha (by omega) (by omega)
    unfold wSl wIn at hw
    by_cases h1 : inB f Fb.length a k = true
    · rw [if_pos h1]
      rw [if_pos h1, h1] at hw
      have := inB_out h1
      exact load_in M F a k (a - f) _ Fb W ha hk h0 hw h.hF h.fF (by omega)
    · have h1' := Bool.eq_false_iff.2 h1
      rw [if_neg h1]
      rw [if_neg h1, h1'] at hw
      by_cases h2 : inB r Rb.length a k = true
      · rw [if_pos h2]
        rw [if_pos h2, h2] at hw
        have := inB_out h2
        exact load_in M R a k (a - r) _ Rb W ha hk h0 hw h.hR h.fR (by omega)
      · have h2' := Bool.eq_false_iff.2 h2
        rw [if_neg h2]
        rw [if_neg h2, h2'] at hw
        exact load_out M a k W ha hk h0 _ hw
  · rw [if_pos h0]
    exact load_align M a k W ha hk h0
/-- what a store tells -/
def storeS (r n2 a k : Nat) : Int := if a % k ≠ 0 then 1 else if inB r n2 a k then 0 else 4
set_option maxHeartbeats 1000000 in
theorem store_size (M : Nat) (a : Int) (k : Int) (v : Int) (W : World) (hk : k ≠ 1 ∧ k ≠ 2 ∧ k ≠ 4) :
    Calls Try.prog 34 #[.pointer (some ⟨M, 0, none⟩), .int .u32 a, .int .i64 k, .int .u32 v] W fun e w' => e = .returned (.int .i64 4) ∧ LikeG W w' := by
  have IS := Lib.hid (isSize_no k · hk)
  clear hk
  go_enter Try.func34, Try.ntmps34
  go_wp2_with fail
  refine (IS.out _).mono ?_
  rintro e w1 ⟨rfl, rfl⟩
  go_wp2_with fail
  go_ret
  exact ⟨rfl, .refl _⟩
set_option maxHeartbeats 1000000 in
theorem store_align (M : Nat) (a k : Nat) (v : Int) (W : World) (ha : a < 4294967296) (hk : k = 1 ∨ k = 2 ∨ k = 4) (h : a % k ≠ 0) :
    Calls Try.prog 34 #[.pointer (some ⟨M, 0, none⟩), .int .u32 (a : Nat), .int .i64 (k : Nat), .int .u32 v] W fun e w' => e = .returned (.int .i64 1) ∧ LikeG W w' := by
  have IS := Lib.hid (isSize_yes k · hk)
  have hk0 : 0 < k := by omega
  have hk4 : k ≤ 4 := by omega
  have t : (((a : Int) % (k : Int)) == 0) = false := by simp; omega
  have t' : (((a : Int) % (k : Int)) != 0) = true := by simp; omega
  clear hk h
  go_enter Try.func34, Try.ntmps34
  go_wp2_with fail
  refine (IS.out _).mono ?_
  rintro e w1 ⟨rfl, rfl⟩
  go_wp2_with fail
  go_ret
  exact ⟨rfl, .refl _⟩
set_option maxHeartbeats 1000000 in
theorem store_out (M R r n2 : Nat) (a k : Nat) (v : Int) (W : World) (h2 : W.cell? ⟨M, 2, none⟩ = some (.int .u32 (r : Nat))) (h5 : W.cell? ⟨M, 5, none⟩ = some (.slice (some ⟨R, 0, none⟩) n2 n2)) (ha : a < 4294967296) (hk : k = 1 ∨ k = 2 ∨ k = 4) (h : a % k = 0)
    (hp : PartG R n2 r a k (.slice none 0 0) false) :
    Calls Try.prog 34 #[.pointer (some ⟨M, 0, none⟩), .int .u32 (a : Nat), .int .i64 (k : Nat), .int .u32 v] W fun e w' => e = .returned (.int .i64 4) ∧ LikeG W w' := by
  have IS := Lib.hid (isSize_yes k · hk)
  have hk0 : 0 < k := by omega
  have hk4 : k ≤ 4 := by omega
  have t : (((a : Int) % (k : Int)) == 0) = true := by simp; omega
  have t' : (((a : Int) % (k : Int)) != 0) = false := by simp; omega
  have HP := Lib.hid hp
  clear hk h hp
  go_enter Try.func34, Try.ntmps34
  go_wp2_with fail
  refine (IS.out _).mono ?_
  rintro e w1 ⟨rfl, rfl⟩
  go_wp2_with fail
  go_quiet ((go_at_call 44; exact partG_q HP.out))
  rename_i nq
  go_wp2_with fail
  go_ret
  exact ⟨rfl, .drewN _ _⟩
theorem lowB_map1 (v : Nat) : (lowB 1 v).map u8G = [.int .u8 ((v : Int) % 256)] := by
  simp only [lowB, List.map, u8G, Int.natCast_emod] <;> rfl
theorem lowB_map2 (v : Nat) : (lowB 2 v).map u8G = [.int .u8 ((v : Int) % 256), .int .u8 ((v : Int) / 256 % 256)] := by
  simp only [lowB, List.map, u8G, Int.natCast_emod, Int.natCast_ediv] <;> rfl
theorem lowB_map4 (v : Nat) (hv : v < 4294967296) : (lowB 4 v).map u8G = [.int .u8 ((v : Int) % 256), .int .u8 ((v : Int) / 256 % 256), .int .u8 ((v : Int) / 65536 % 256), .int .u8 ((v : Int) / 16777216)] := by
  have e1 : v / 256 / 256 = v / 65536 := Nat.div_div_eq_div_mul _ _ _
  have e2 : v / 65536 / 256 = v / 16777216 := Nat.div_div_eq_div_mul _ _ _
  have e3 : v / 16777216 % 256 = v / 16777216 := by omega
  simp only [lowB, List.map, u8G, e1, e2, e3, Int.natCast_emod, Int.natCast_ediv]; rfl
theorem rowG_set (l : List Nat) (o : Nat) (bs : List Nat) : ((rowG l).toList.take o ++ (bs.map u8G ++ (rowG l).toList.drop (o + (bs.map u8G).length))).toArray = rowG (setB l o bs) := by
  simp [rowG, setB, List.map_take, List.map_drop]
theorem rowG_size (l : List Nat) : (rowG l).size = l.length := by simp [rowG]
theorem u8G_one (l : List Nat) : ∀ v ∈ l.map u8G, v.oneCell' = true := by
  intro v hv
  simp only [List.mem_map] at hv
  obtain ⟨x, _, rfl⟩ := hv
  rfl
theorem src_lit (V : World) (cs : List Value) (t : TypeId) (k : Nat) : ∀ j v, (cs.take k)[j]? = some v → (V.alloc (.cells cs.toArray t)).cell? ((⟨V.heap.size, 0, none⟩ : Addr).add j) = some v := by
  intro j v hj
  have e : (⟨V.heap.size, 0, none⟩ : Addr).add j = ⟨V.heap.size, j, none⟩ := by unfold Addr.add; split <;> simp_all
  rw [e, World.cell?_alloc_new]
  rw [List.getElem?_take] at hj
  split at hj
  · simpa using hj
  · cases hj
theorem out_alloc_set {W V : World} {R : Nat} (h : LikeG W V) (o : Obj) (cs : Array Value) : Out (· = R) W ((V.alloc o).setRow R cs) := by
  refine (h.out _).trans ((Out.of_below (a := V) _ ((Below.refl _ _).alloc (Nat.le_refl _) o)).trans ?_)
  exact ⟨rfl, rfl, rfl, by simp [World.setRow], fun k _ hk => setRow_other _ R k _ (fun e => hk e)⟩
set_option maxRecDepth 100000 in
set_option maxHeartbeats 1000000 in
theorem store_in1 (M R r n2 : Nat) (Rb : List Nat) (a c o : Nat) (v : Nat) (hv : v < 4294967296) (W : World) (h2 : W.cell? ⟨M, 2, none⟩ = some (.int .u32 (r : Nat))) (h5 : W.cell? ⟨M, 5, none⟩ = some (.slice (some ⟨R, 0, none⟩) n2 n2))
    (hR : W.heap[R]? = some (.cells (rowG Rb) 5 (0, 0))) (ho : o + 1 ≤ Rb.length) (ha : a < 4294967296) (h : a % 1 = 0)
    (hp : PartG R n2 r a 1 (.slice (some ⟨R, o, none⟩) 1 c) true) :
    Calls Try.prog 34 #[.pointer (some ⟨M, 0, none⟩), .int .u32 (a : Nat), .int .i64 1, .int .u32 (v : Nat)] W fun e w' => e = .returned (.int .i64 0) ∧ w'.heap[R]? = some (.cells (rowG (setB Rb o (lowB 1 v))) 5 (0, 0)) ∧ Out (· = R) W w' := by
  have IS := Lib.hid (isSize_yes 1 · (by omega))
  have t : (((a : Int) % 1) == 0) = true := by simp
  have t' : (((a : Int) % 1) != 0) = false := by simp
  have HP := Lib.hid hp
  have HR := Lib.hid hR
  have HO := Lib.hid ho
  clear h hp hR ho
  go_enter Try.func34, Try.ntmps34
  go_wp2_with fail
  refine (IS.out _).mono ?_
  rintro e w1 ⟨rfl, rfl⟩
  go_wp2_with fail
  go_quiet ((go_at_call 44; exact partG_q HP.out))
  rename_i nq
  generalize hW : W.drewN nq = V
  have HVR := Lib.hid (show V.heap[R]? = some (.cells (rowG Rb) 5 (0, 0)) by rw [← hW]; exact HR.out)
  have HVG := Lib.hid (show LikeG W V by rw [← hW]; exact .drewN _ _)
  have hRV : R < V.heap.size := (Array.getElem?_eq_some_iff.1 HVR.out).1
  have HVA := Lib.hid (show (V.alloc (.cells #[.int .u8 ((v : Int) % 256), .int .u8 ((v : Int) / 256 % 256), .int .u8 ((v : Int) / 65536 % 256), .int .u8 ((v : Int) / 16777216)] 95)).heap[R]? = some (.cells (rowG Rb) 5 (0, 0)) by rw [heap_alloc_old _ _ hRV]; exact HVR.out)
  have HSRC := Lib.hid (show ∀ j u, ((lowB 1 v).map u8G)[j]? = some u → (V.alloc (.cells #[.int .u8 ((v : Int) % 256), .int .u8 ((v : Int) / 256 % 256), .int .u8 ((v : Int) / 65536 % 256), .int .u8 ((v : Int) / 16777216)] 95)).cell? ((⟨V.heap.size, 0, none⟩ : Addr).add j) = some u by
    rw [lowB_map1]
    exact src_lit V [.int .u8 ((v : Int) % 256), .int .u8 ((v : Int) / 256 % 256), .int .u8 ((v : Int) / 65536 % 256), .int .u8 ((v : Int) / 16777216)] 95 1)
  have HFIT := Lib.hid (show o + ((lowB 1 v).map u8G).length ≤ (rowG Rb).size by rw [rowG_size, List.length_map, lowB_length]; exact HO.out)
  have HLEN := Lib.hid (show ((lowB 1 v).map u8G).length = Nat.min 1 1 by rw [List.length_map, lowB_length]; rfl)
  clear hW h2 h5 HR hRV
  go_wp2_with (with_reducible refine wpList_copy_own rfl (.tmp 53) (.tmp 55) 23 23 rfl 5 Try.underlying23 (by kernel_rfl) R o 1 c ⟨V.heap.size, 0, none⟩ 1 4 rfl rfl (rowG Rb) 5 HVA.out ((lowB 1 v).map u8G) HLEN.out HSRC.out HFIT.out (u8G_one _) ?_)
  go_ret
  refine ⟨rfl, ?_, out_alloc_set HVG.out _ _⟩
  rw [← rowG_set]
  exact setRow_heap _ R _ _ _ _ HVA.out
set_option maxRecDepth 100000 in
set_option maxHeartbeats 1000000 in
theorem store_in2 (M R r n2 : Nat) (Rb : List Nat) (a c o : Nat) (v : Nat) (hv : v < 4294967296) (W : World) (h2 : W.cell? ⟨M, 2, none⟩ = some (.int .u32 (r : Nat))) (h5 : W.cell? ⟨M, 5, none⟩ = some (.slice (some ⟨R, 0, none⟩) n2 n2))
    (hR : W.heap[R]? = some (.cells (rowG Rb) 5 (0, 0))) (ho : o + 2 ≤ Rb.length) (ha : a < 4294967296) (h : a % 2 = 0)
    (hp : PartG R n2 r a 2 (.slice (some ⟨R, o, none⟩) 2 c) true) :
    Calls Try.prog 34 #[.pointer (some ⟨M, 0, none⟩), .int .u32 (a : Nat), .int .i64 2, .int .u32 (v : Nat)] W fun e w' => e = .returned (.int .i64 0) ∧ w'.heap[R]? = some (.cells (rowG (setB Rb o (lowB 2 v))) 5 (0, 0)) ∧ Out (· = R) W w' := by
  have IS := Lib.hid (isSize_yes 2 · (by omega))
  have t : (((a : Int) % 2) == 0) = true := by simp; omega
  have t' : (((a : Int) % 2) != 0) = false := by simp; omega
  have HP := Lib.hid hp
  have HR := Lib.hid hR
  have HO := Lib.hid ho
  clear h hp hR ho
  go_enter Try.func34, Try.ntmps34
  go_wp2_with fail
  refine (IS.out _).mono ?_
  rintro e w1 ⟨rfl, rfl⟩
  go_wp2_with fail
  go_quiet ((go_at_call 44; exact partG_q HP.out))
  rename_i nq
  generalize hW : W.drewN nq = V
  have HVR := Lib.hid (show V.heap[R]? = some (.cells (rowG Rb) 5 (0, 0)) by rw [← hW]; exact HR.out)
  have HVG := Lib.hid (show LikeG W V by rw [← hW]; exact .drewN _ _)
  have hRV : R < V.heap.size := (Array.getElem?_eq_some_iff.1 HVR.out).1
  have HVA := Lib.hid (show (V.alloc (.cells #[.int .u8 ((v : Int) % 256), .int .u8 ((v : Int) / 256 % 256), .int .u8 ((v : Int) / 65536 % 256), .int .u8 ((v : Int) / 16777216)] 95)).heap[R]? = some (.cells (rowG Rb) 5 (0, 0)) by rw [heap_alloc_old _ _ hRV]; exact HVR.out)
  have HSRC := Lib.hid (show ∀ j u, ((lowB 2 v).map u8G)[j]? = some u → (V.alloc (.cells #[.int .u8 ((v : Int) % 256), .int .u8 ((v : Int) / 256 % 256), .int .u8 ((v : Int) / 65536 % 256), .int .u8 ((v : Int) / 16777216)] 95)).cell? ((⟨V.heap.size, 0, none⟩ : Addr).add j) = some u by
    rw [lowB_map2]
    exact src_lit V [.int .u8 ((v : Int) % 256), .int .u8 ((v : Int) / 256 % 256), .int .u8 ((v : Int) / 65536 % 256), .int .u8 ((v : Int) / 16777216)] 95 2)
  have HFIT := Lib.hid (show o + ((lowB 2 v).map u8G).length ≤ (rowG Rb).size by rw [rowG_size, List.length_map, lowB_length]; exact HO.out)
  have HLEN := Lib.hid (show ((lowB 2 v).map u8G).length = Nat.min 2 2 by rw [List.length_map, lowB_length]; rfl)
  clear hW h2 h5 HR hRV
  go_wp2_with (with_reducible refine wpList_copy_own rfl (.tmp 53) (.tmp 55) 23 23 rfl 5 Try.underlying23 (by kernel_rfl) R o 2 c ⟨V.heap.size, 0, none⟩ 2 4 rfl rfl (rowG Rb) 5 HVA.out ((lowB 2 v).map u8G) HLEN.out HSRC.out HFIT.out (u8G_one _) ?_)
  go_ret
  refine ⟨rfl, ?_, out_alloc_set HVG.out _ _⟩
  rw [← rowG_set]
  exact setRow_heap _ R _ _ _ _ HVA.out
set_option maxRecDepth 100000 in
set_option maxHeartbeats 1000000 in
theorem store_in4 (M R r n2 : Nat) (Rb : List Nat) (a c o : Nat) (v : Nat) (hv : v < 4294967296) (W : World) (h2 : W.cell? ⟨M, 2, none⟩ = some (.int .u32 (r : Nat))) (h5 : W.cell? ⟨M, 5, none⟩ = some (.slice (some ⟨R, 0, none⟩) n2 n2))
    (hR : W.heap[R]? = some (.cells (rowG Rb) 5 (0, 0))) (ho : o + 4 ≤ Rb.length) (ha : a < 4294967296) (h : a % 4 = 0)
    (hp : PartG R n2 r a 4 (.slice (some ⟨R, o, none⟩) 4 c) true) :
    Calls Try.prog 34 #[.pointer (some ⟨M, 0, none⟩), .int .u32 (a : Nat), .int .i64 4, .int .u32 (v : Nat)] W fun e w' => e = .returned (.int .i64 0) ∧ w'.heap[R]? = some (.cells (rowG (setB Rb o (lowB 4 v))) 5 (0, 0)) ∧ Out (· = R) W w' := by
  have IS := Lib.hid (isSize_yes 4 · (by omega))
  have t : (((a : Int) % 4) == 0) = true := by simp; omega
  have t' : (((a : Int) % 4) != 0) = false := by simp; omega
  have HP := Lib.hid hp
  have HR := Lib.hid hR
  have HO := Lib.hid ho
  clear h hp hR ho
  go_enter Try.func34, Try.ntmps34
  go_wp2_with fail
  refine (IS.out _).mono ?_
  rintro e w1 ⟨rfl, rfl⟩
  go_wp2_with fail
  go_quiet ((go_at_call 44; exact partG_q HP.out))
  rename_i nq
  generalize hW : W.drewN nq = V
  have HVR := Lib.hid (show V.heap[R]? = some (.cells (rowG Rb) 5 (0, 0)) by rw [← hW]; exact HR.out)
  have HVG := Lib.hid (show LikeG W V by rw [← hW]; exact .drewN _ _)
  have hRV : R < V.heap.size := (Array.getElem?_eq_some_iff.1 HVR.out).1
  have HVA := Lib.hid (show (V.alloc (.cells #[.int .u8 ((v : Int) % 256), .int .u8 ((v : Int) / 256 % 256), .int .u8 ((v : Int) / 65536 % 256), .int .u8 ((v : Int) / 16777216)] 95)).heap[R]? = some (.cells (rowG Rb) 5 (0, 0)) by rw [heap_alloc_old _ _ hRV]; exact HVR.out)
  have HSRC := Lib.hid (show ∀ j u, ((lowB 4 v).map u8G)[j]? = some u → (V.alloc (.cells #[.int .u8 ((v : Int) % 256), .int .u8 ((v : Int) / 256 % 256), .int .u8 ((v : Int) / 65536 % 256), .int .u8 ((v : Int) / 16777216)] 95)).cell? ((⟨V.heap.size, 0, none⟩ : Addr).add j) = some u by
    rw [lowB_map4 v hv]
    exact src_lit V [.int .u8 ((v : Int) % 256), .int .u8 ((v : Int) / 256 % 256), .int .u8 ((v : Int) / 65536 % 256), .int .u8 ((v : Int) / 16777216)] 95 4)
  have HFIT := Lib.hid (show o + ((lowB 4 v).map u8G).length ≤ (rowG Rb).size by rw [rowG_size, List.length_map, lowB_length]; exact HO.out)
  have HLEN := Lib.hid (show ((lowB 4 v).map u8G).length = Nat.min 4 4 by rw [List.length_map, lowB_length]; rfl)
  clear hW h2 h5 HR hRV
  go_wp2_with (with_reducible refine wpList_copy_own rfl (.tmp 53) (.tmp 55) 23 23 rfl 5 Try.underlying23 (by kernel_rfl) R o 4 c ⟨V.heap.size, 0, none⟩ 4 4 rfl rfl (rowG Rb) 5 HVA.out ((lowB 4 v).map u8G) HLEN.out HSRC.out HFIT.out (u8G_one _) ?_)
  go_ret
  refine ⟨rfl, ?_, out_alloc_set HVG.out _ _⟩
  rw [← rowG_set]
  exact setRow_heap _ R _ _ _ _ HVA.out
theorem store_in (M R r n2 : Nat) (Rb : List Nat) (a k c o : Nat) (v : Nat) (hv : v < 4294967296) (W : World) (h2 : W.cell? ⟨M, 2, none⟩ = some (.int .u32 (r : Nat))) (h5 : W.cell? ⟨M, 5, none⟩ = some (.slice (some ⟨R, 0, none⟩) n2 n2))
    (hR : W.heap[R]? = some (.cells (rowG Rb) 5 (0, 0))) (ho : o + k ≤ Rb.length) (ha : a < 4294967296) (hk : k = 1 ∨ k = 2 ∨ k = 4) (h : a % k = 0)
    (hp : PartG R n2 r a k (.slice (some ⟨R, o, none⟩) k c) true) :
    Calls Try.prog 34 #[.pointer (some ⟨M, 0, none⟩), .int .u32 (a : Nat), .int .i64 (k : Nat), .int .u32 (v : Nat)] W fun e w' => e = .returned (.int .i64 0) ∧ w'.heap[R]? = some (.cells (rowG (setB Rb o (lowB k v))) 5 (0, 0)) ∧ Out (· = R) W w' := by
  rcases hk with rfl | rfl | rfl
  · exact store_in1 M R r n2 Rb a c o v hv W h2 h5 hR ho ha h hp
  · exact store_in2 M R r n2 Rb a c o v hv W h2 h5 hR ho ha h hp
  · exact store_in4 M R r n2 Rb a c o v hv W h2 h5 hR ho ha h hp
/-- the bytes of RAM behind a store -/
def ramS (r n2 : Nat) (Rb : List Nat) (a k v : Nat) : List Nat := if storeS r n2 a k = 0 then setB Rb (a - r) (lowB k v) else Rb
theorem MemIs.out {M F R f r : Nat} {Fb Rb : List Nat} {S : Nat → Prop} {W W' : World} (h : MemIs M F R f r Fb Rb W) (ho : Out S W W') (hM : ¬ S M) (hF : ¬ S F) (hR : ¬ S R) : MemIs M F R f r Fb Rb W' :=
  { c0 := (ho.cell (p := ⟨M, 0, none⟩) (World.block_lt_of_cell? W _ h.c0) hM).trans h.c0, c2 := (ho.cell (p := ⟨M, 2, none⟩) (World.block_lt_of_cell? W _ h.c2) hM).trans h.c2
    c4 := (ho.cell (p := ⟨M, 4, none⟩) (World.block_lt_of_cell? W _ h.c4) hM).trans h.c4, c5 := (ho.cell (p := ⟨M, 5, none⟩) (World.block_lt_of_cell? W _ h.c5) hM).trans h.c5
    hF := (ho.block F (Array.getElem?_eq_some_iff.1 h.hF).1 hF).trans h.hF, hR := (ho.block R (Array.getElem?_eq_some_iff.1 h.hR).1 hR).trans h.hR, fF := h.fF, fR := h.fR, mF := h.mF, mR := h.mR, fr := h.fr }
theorem MemIs.stored {M F R f r : Nat} {Fb Rb Rb' : List Nat} {W W' : World} (h : MemIs M F R f r Fb Rb W) (ho : Out (· = R) W W') (hR : W'.heap[R]? = some (.cells (rowG Rb') 5 (0, 0))) (hl : Rb'.length = Rb.length) (fR : ∀ x ∈ Rb', x < 256) : MemIs M F R f r Fb Rb' W' :=
  { c0 := (ho.cell (p := ⟨M, 0, none⟩) (World.block_lt_of_cell? W _ h.c0) h.mR).trans h.c0, c2 := (ho.cell (p := ⟨M, 2, none⟩) (World.block_lt_of_cell? W _ h.c2) h.mR).trans h.c2
    c4 := (ho.cell (p := ⟨M, 4, none⟩) (World.block_lt_of_cell? W _ h.c4) h.mR).trans h.c4, c5 := by rw [hl]; exact (ho.cell (p := ⟨M, 5, none⟩) (World.block_lt_of_cell? W _ h.c5) h.mR).trans h.c5
    hF := (ho.block F (Array.getElem?_eq_some_iff.1 h.hF).1 h.fr).trans h.hF, hR := hR, fF := h.fF, fR := fR, mF := h.mF, mR := h.mR, fr := h.fr }
theorem store_any {M F R f r : Nat} {Fb Rb : List Nat} {W : World} (h : MemIs M F R f r Fb Rb W) (hb : Banks f Fb.length r Rb.length) (a k v : Nat) (ha : a < 4294967296) (hk : k = 1 ∨ k = 2 ∨ k = 4) (hv : v < 4294967296) :
    Calls Try.prog 34 #[.pointer (some ⟨M, 0, none⟩), .int .u32 (a : Nat), .int .i64 (k : Nat), .int .u32 (v : Nat)] W fun e w' => e = .returned (.int .i64 (storeS r Rb.length a k)) ∧ MemIs M F R f r Fb (ramS r Rb.length Rb a k v) w' ∧ Out (· = R) W w' := by
  have q1 := hb.b; have q2 := hb.d
  unfold ramS
  by_cases h0 : a % k = 0
  · by_cases h1 : inB r Rb.length a k = true
    · have e : storeS r Rb.length a k = 0 := by unfold storeS; rw [if_neg (by omega), if_pos h1]
      rw [e, if_pos rfl]
      have := inB_out h1
      refine (store_in M R r _ Rb a k _ (a - r) v hv W h.c2 h.c5 h.hR (by omega) ha hk h0 (partG_in (by omega) h1 ha (by omega))).mono ?_
      rintro e w' ⟨rfl, k1, k2⟩
      exact ⟨rfl, h.stored k2 k1 (setB_length _ _ _ (by rw [lowB_length]; omega)) (setB_all h.fR (lowB_lt k v)), k2⟩
    · have h1' := Bool.eq_false_iff.2 h1
      have e : storeS r Rb.length a k = 4 := by unfold storeS; rw [if_neg (by omega), if_neg h1]
      rw [e, if_neg (by decide)]
      refine (store_out M R r _ a k v W h.c2 h.c5 ha hk h0 (partG_out (by omega) h1' ha (by omega) (by omega) (by omega))).mono ?_
      rintro e w' ⟨rfl, k2⟩
      exact ⟨rfl, h.like k2, k2.out _⟩
  · have e : storeS r Rb.length a k = 1 := by unfold storeS; rw [if_pos h0]
    rw [e, if_neg (by decide)]
    refine (store_align M a k v W ha hk h0).mono ?_
    rintro e w' ⟨rfl, k2⟩
    exact ⟨rfl, h.like k2, k2.out _⟩
end Go.Proofs.Ytlieapapmkbbgaa

namespace Go.Proofs.Ytlieapapmkbbgaa
open Go Go.RowKit
set_option linter.unusedVariables false

def cellsB : List (Nat × Nat) → List Value
  | [] => []
  | x :: l => .int .u32 (x.1 : Int) :: .int .u8 (x.2 : Int) :: cellsB l
theorem cellsB_len (l : List (Nat × Nat)) : (cellsB l).length = l.length * 2 := by
  induction l with
  | nil => rfl
  | cons x l ih => simp [cellsB, ih]; omega
theorem cellsB_append (l m : List (Nat × Nat)) : cellsB (l ++ m) = cellsB l ++ cellsB m := by
  induction l with
  | nil => rfl
  | cons x l ih => simp [cellsB, ih]
theorem cellsB_get {l : List (Nat × Nat)} {i : Nat} {x : Nat × Nat} (h : l[i]? = some x) : (cellsB l)[i * 2]? = some (.int .u32 (x.1 : Int)) ∧ (cellsB l)[i * 2 + 1]? = some (.int .u8 (x.2 : Int)) := by
  induction l generalizing i with
  | nil => simp at h
  | cons y l ih =>
    cases i with
    | zero => simp at h; subst h; simp [cellsB]
    | succ i =>
      simp at h
      obtain ⟨h1, h2⟩ := ih h
      rw [show (i + 1) * 2 = i * 2 + 1 + 1 by omega]
      simp [cellsB, h1, h2]
/-- bytes and addresses are such -/
def LogOk (L : List (Nat × Nat)) : Prop := ∀ x ∈ L, x.1 < 4294967296 ∧ x.2 < 256
theorem atL_lt {L : List (Nat × Nat)} (h : LogOk L) (a : Nat) : atL L a < 256 := by
  have key : ∀ (l : List (Nat × Nat)) (v : Nat), v < 256 → (∀ x ∈ l, x.2 < 256) → l.foldl (fun v x => if x.1 = a then x.2 else v) v < 256 := by
    intro l
    induction l with
    | nil => intro v hv _; exact hv
    | cons y l ih =>
      intro v hv hl
      refine ih _ ?_ fun x hx => hl x (by simp [hx])
      show (if y.1 = a then y.2 else v) < 256
      split
      · exact hl y (by simp)
      · exact hv
  exact key L 0 (by omega) fun x hx => (h x hx).2
theorem atL_take {L : List (Nat × Nat)} {m : Nat} {x : Nat × Nat} (h : L[m]? = some x) (a : Nat) : atL (L.take (m + 1)) a = if x.1 = a then x.2 else atL (L.take m) a := by
  rw [List.take_add_one, h]
  exact atL_snoc _ _ _

/-- where the document's memory may change -/
def RS (X : Nat) (v : Value) (j : Nat) : Prop := j = X ∨ v.ownBlock = some j
/-- the row is the elder one, or new -/
def Fresh (v v' : Value) (W : World) : Prop := ∀ j, v'.ownBlock = some j → v.ownBlock = some j ∨ W.heap.size ≤ j
theorem Fresh.refl (v : Value) (W : World) : Fresh v v W := fun _ h => .inl h
theorem Fresh.trans {v v' v'' : Value} {W a : World} (h : Fresh v v' W) (k : Fresh v' v'' a) (hs : W.heap.size ≤ a.heap.size) : Fresh v v'' W := fun j hj => by
  rcases k j hj with g | g
  · exact h j g
  · exact .inr (Nat.le_trans hs g)
theorem Out.chain {X : Nat} {v v' : Value} {W a b : World} (h : Out (RS X v) W a) (hf : Fresh v v' W) (k : Out (RS X v') a b) : Out (RS X v) W b :=
  ⟨k.os.trans h.os, k.tape.trans h.tape, k.output.trans h.output, Nat.le_trans h.size k.size, fun j hj hs => (k.block j (Nat.lt_of_lt_of_le hj h.size) fun g => by
    rcases g with g | g
    · exact hs (.inl g)
    · rcases hf j g with e | e
      · exact hs (.inr e)
      · omega).trans (h.block j hj hs)⟩
theorem ret_u8G {a b : Int} (h : a = b) : Ending.returned (.int .u8 a) = .returned (.int .u8 b) := by rw [h]
theorem ret_boolG {a b : Bool} (h : a = b) : Ending.returned (.bool a) = .returned (.bool b) := by rw [h]
def BoolPost (W : World) (b : Bool) (e : Ending) (w' : World) : Prop := e = .returned (.bool b) ∧ LikeG W w'
theorem wordL_lt {L : List (Nat × Nat)} (h : LogOk L) (a n : Nat) : wordL L a n < 256 ^ n := by
  induction n generalizing a with
  | zero => simp [wordL]
  | succ n ih =>
    have := ih (a + 1)
    have := atL_lt h a
    simp only [wordL, Nat.pow_succ]
    omega
end Go.Proofs.Ytlieapapmkbbgaa

namespace Go.Proofs.Ytlieapapmkbbgaa
open Go Go.RowKit
set_option linter.unusedVariables false

/-- what the document's load tells -/
def loadR (f n1 r n2 : Nat) (L : List (Nat × Nat)) (a k : Nat) : Nat × Int := if a % k ≠ 0 then (0, 1) else if wIn f n1 r n2 a k then (wordL L a k, 0) else (0, 3)
def fetchR (f n1 r n2 : Nat) (L : List (Nat × Nat)) (a : Nat) : Nat × Int := if a % 4 ≠ 0 then (0, 1) else if wIn f n1 r n2 a 4 then (wordL L a 4, 0) else (0, 2)
theorem wIn_bd {f n1 r n2 a k : Nat} (hb : Banks f n1 r n2) (h : wIn f n1 r n2 a k = true) : a + k ≤ 4294967296 := by
  have := hb.a; have := hb.b
  unfold wIn inB at h
  simp only [Bool.or_eq_true, decide_eq_true_eq] at h
  omega
/-- both banks' bytes -/
theorem load_same {f r : Nat} {Fb Rb : List Nat} {L : List (Nat × Nat)} (h : Agree f r Fb Rb L) (a k : Nat) : loadR f Fb.length r Rb.length L a k = loadS f Fb.length r Rb.length Fb Rb a k := by
  unfold loadR loadS wIn
  by_cases h0 : a % k = 0
  · simp only [h0, ne_eq, not_true_eq_false, if_false]
    by_cases h1 : inB f Fb.length a k = true
    · have := inB_out h1
      simp only [h1, Bool.true_or, if_true]
      have := word_of (a := f) (o := a - f) k h.1 (by omega)
      rw [show f + (a - f) = a by omega] at this
      rw [this]; rfl
    · by_cases h2 : inB r Rb.length a k = true
      · have := inB_out h2
        simp only [h1, h2, Bool.or_true, if_true, Bool.false_eq_true, if_false]
        have := word_of (a := r) (o := a - r) k h.2 (by omega)
        rw [show r + (a - r) = a by omega] at this
        rw [this]; rfl
      · simp only [h1, h2, Bool.or_self, Bool.false_eq_true, if_false]
  · simp only [h0, ne_eq, not_false_eq_true, if_true]
theorem fetch_same {f r : Nat} {Fb Rb : List Nat} {L : List (Nat × Nat)} (h : Agree f r Fb Rb L) (a : Nat) : fetchR f Fb.length r Rb.length L a = fetchS f Fb.length r Rb.length Fb Rb a := by
  unfold fetchR fetchS wIn
  by_cases h0 : a % 4 = 0
  · simp only [h0, ne_eq, not_true_eq_false, if_false]
    by_cases h1 : inB f Fb.length a 4 = true
    · have := inB_out h1
      simp only [h1, Bool.true_or, if_true]
      have := word_of (a := f) (o := a - f) 4 h.1 (by omega)
      rw [show f + (a - f) = a by omega] at this
      rw [this]; rfl
    · by_cases h2 : inB r Rb.length a 4 = true
      · have := inB_out h2
        simp only [h1, h2, Bool.or_true, if_true, Bool.false_eq_true, if_false]
        have := word_of (a := r) (o := a - r) 4 h.2 (by omega)
        rw [show r + (a - r) = a by omega] at this
        rw [this]; rfl
      · simp only [h1, h2, Bool.or_self, Bool.false_eq_true, if_false]
  · simp only [h0, ne_eq, not_false_eq_true, if_true]

/-! Store -/
theorem out_set (X k : Nat) (v : Value) (W : World) : Out (· = X) W (W.setCell ⟨X, k, none⟩ v) :=
  ⟨rfl, rfl, rfl, by rw [World.size_setCell]; exact Nat.le_refl _, fun i hi hne => Below.heap_setCell _ _ _ _ (fun e => hne e)⟩
theorem lowB_get (k v m : Nat) (h : m < k) : (lowB k v)[m]? = some (v / 256 ^ m % 256) := by
  induction k generalizing v m with
  | zero => omega
  | succ k ih =>
    cases m with
    | zero => simp [lowB]
    | succ m => simp only [lowB, List.getElem?_cons_succ]; rw [ih _ _ (by omega), Nat.div_div_eq_div_mul, Nat.pow_succ, Nat.mul_comm 256]
theorem lowB_take (k v m : Nat) (h : m < k) : (lowB k v).take (m + 1) = (lowB k v).take m ++ [v / 256 ^ m % 256] := by
  rw [List.take_add_one, lowB_get k v m h]; rfl
theorem writes_take (L : List (Nat × Nat)) (a k v m : Nat) (h : m < k) : L ++ writes a ((lowB k v).take (m + 1)) = (L ++ writes a ((lowB k v).take m)) ++ [(a + m, v / 256 ^ m % 256)] := by
  rw [lowB_take k v m h, writes_snoc, List.append_assoc, List.length_take, lowB_length, Nat.min_eq_left (by omega)]
theorem news_two (W : World) (u1 u2 : Value) (t : TypeId) : ∀ j u, ([u1, u2] : List Value)[j]? = some u → (W.alloc (.cells #[u1, u2] t)).cell? ((⟨W.heap.size, 0, none⟩ : Addr).add j) = some u := by
  intro j u hj
  have e : (⟨W.heap.size, 0, none⟩ : Addr).add j = ⟨W.heap.size, j, none⟩ := by unfold Addr.add; split <;> simp_all
  rw [e, World.cell?_alloc_new]
  simpa using hj
theorem own_shape {W : World} {base size n : Nat} {t : TypeId} {v : Value} {xs : List Value} (h : W.ownsRow base t size v (n + 1) xs) : ∃ g cap, v = .slice (some ⟨g, 0, none⟩) (n + 1) cap := by
  rcases h.2 with ⟨_, h0⟩ | ⟨g, cap, cur, rfl, _⟩
  · omega
  · exact ⟨g, cap, rfl⟩
end Go.Proofs.Ytlieapapmkbbgaa

namespace Go.Proofs.Ytlieapapmkbbgaa
open Go Go.RowKit
set_option linter.unusedVariables false

/-- what was written, behind a store -/
def logS (r n2 : Nat) (L : List (Nat × Nat)) (a k x : Nat) : List (Nat × Nat) := if storeS r n2 a k = 0 then L ++ writes a (lowB k x) else L
theorem agree_store {f r : Nat} {Fb Rb : List Nat} {L : List (Nat × Nat)} (h : Agree f r Fb Rb L) (hd : f + Fb.length ≤ r ∨ r + Rb.length ≤ f) (a k x : Nat) : Agree f r Fb (ramS r Rb.length Rb a k x) (logS r Rb.length L a k x) := by
  unfold ramS logS
  by_cases hz : storeS r Rb.length a k = 0
  · rw [if_pos hz, if_pos hz]
    have hi : inB r Rb.length a k = true := by
      unfold storeS at hz
      split at hz
      · cases hz
      · split at hz
        · assumption
        · cases hz
    have := inB_out hi
    have k1 := agree_ram h hd (a - r) (lowB k x) (by rw [lowB_length]; omega)
    rwa [show r + (a - r) = a by omega] at k1
  · rw [if_neg hz, if_neg hz]; exact h
theorem ramS_length (r : Nat) (Rb : List Nat) (a k x : Nat) : (ramS r Rb.length Rb a k x).length = Rb.length := by
  unfold ramS
  split
  · rename_i hz
    have hi : inB r Rb.length a k = true := by
      unfold storeS at hz
      split at hz
      · cases hz
      · split at hz
        · assumption
        · cases hz
    have := inB_out hi
    exact setB_length _ _ _ (by rw [lowB_length]; omega)
  · rfl
theorem logS_length (r n2 : Nat) (L : List (Nat × Nat)) (a k x : Nat) : (logS r n2 L a k x).length ≤ L.length + k := by
  unfold logS
  split
  · rw [List.length_append, writes_length, lowB_length]; exact Nat.le_refl _
  · omega

/-! noughts -/
def noughts (n : Nat) : List Nat := List.replicate n 0
theorem bytes_noughts (n o k : Nat) : bytesAt (noughts n) o k = 0 := by
  unfold bytesAt noughts
  rw [List.drop_replicate, List.take_replicate]
  induction (min k (n - o)) with
  | zero => rfl
  | succ m ih => rw [List.replicate_succ]; simp [numB, ih]
theorem low_noughts (k : Nat) : lowB k 0 = List.replicate k 0 := by
  induction k with
  | zero => rfl
  | succ k ih => simp [lowB, ih, List.replicate_succ]
theorem ram_noughts (r n a k : Nat) : ramS r n (noughts n) a k 0 = noughts n := by
  unfold ramS
  split
  · rename_i hz
    have hi : inB r n a k = true := by
      unfold storeS at hz
      split at hz
      · cases hz
      · split at hz
        · assumption
        · cases hz
    have := inB_out hi
    unfold setB noughts
    rw [low_noughts, List.length_replicate, List.take_replicate, List.drop_replicate, List.replicate_append_replicate, List.replicate_append_replicate]
    congr 1
    omega
  · rfl
/-- where the document's memory may change, all told -/
def RB (X B : Nat) (j : Nat) : Prop := j = X ∨ B ≤ j
def trapL (f n1 r n2 a k : Nat) : Int := if k = 1 ∨ k = 2 ∨ k = 4 then (loadS f n1 r n2 (noughts n1) (noughts n2) a k).2 else 3
def trapS (r n2 a k : Nat) : Int := if k = 1 ∨ k = 2 ∨ k = 4 then storeS r n2 a k else 4
end Go.Proofs.Ytlieapapmkbbgaa
