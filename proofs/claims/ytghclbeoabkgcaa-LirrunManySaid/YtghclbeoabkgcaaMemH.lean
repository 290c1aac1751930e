/- Package mem over any bytes: numbers out of bytes, Load, Fetch. -/
import Derived.Test.YtghclbeoabkgcaaMemG
import Derived.Laws.BitsAllLaws
import Derived.Laws.CopyOwn
namespace Go.Proofs.Ytghclbeoabkgcaa
open Go Go.RowKit
set_option linter.unusedVariables false

/-- what changed lies in these blocks -/
structure Out (S : Nat → Prop) (W W' : World) : Prop where
  os : W'.os = W.os
  tape : W'.tape = W.tape
  output : W'.output = W.output
  size : W.heap.size ≤ W'.heap.size
  block : ∀ k, k < W.heap.size → ¬ S k → W'.heap[k]? = W.heap[k]?
theorem Out.refl (S : Nat → Prop) (W : World) : Out S W W := ⟨rfl, rfl, rfl, Nat.le_refl _, fun _ _ _ => rfl⟩
theorem Out.trans {S : Nat → Prop} {a b c : World} (h : Out S a b) (k : Out S b c) : Out S a c :=
  ⟨k.os.trans h.os, k.tape.trans h.tape, k.output.trans h.output, Nat.le_trans h.size k.size, fun j hj hs => (k.block j (Nat.lt_of_lt_of_le hj h.size) hs).trans (h.block j hj hs)⟩
theorem Out.mono {S T : Nat → Prop} {a b : World} (h : Out S a b) (k : ∀ j, S j → T j) : Out T a b :=
  ⟨h.os, h.tape, h.output, h.size, fun j hj hs => h.block j hj fun g => hs (k j g)⟩
theorem Out.below {S : Nat → Prop} {B : Nat} {w a b : World} (h : Out S a b) (k : Below B w a) (hB : B ≤ w.heap.size) (hS : ∀ j, S j → B ≤ j) : Below B w b :=
  ⟨h.os.trans k.os, h.tape.trans k.tape, h.output.trans k.output, Nat.le_trans k.size h.size, fun j hj => (h.block j (Nat.lt_of_lt_of_le hj (Nat.le_trans hB k.size)) fun g => by have := hS j g; omega).trans (k.block j hj)⟩
theorem Out.of_below {a b : World} (S : Nat → Prop) (h : Below a.heap.size a b) : Out S a b := ⟨h.os, h.tape, h.output, h.size, fun j hj _ => h.block j hj⟩
theorem Out.of_grown {a b : World} {r : Option Nat} {S : Nat → Prop} (h : a.grownBy b r) (hr : ∀ k, r = some k → S k) : Out S a b :=
  ⟨h.os, h.tape, h.output, h.size, fun j hj hs => h.block j hj fun e => hs (hr j e.symm)⟩
theorem LikeG.below {a b : World} (h : LikeG a b) : Below a.heap.size a b := h.2 _ _ (Below.refl _ _)
theorem LikeG.out {a b : World} (h : LikeG a b) (S : Nat → Prop) : Out S a b := .of_below S h.below
theorem Out.cell {S : Nat → Prop} {a b : World} (h : Out S a b) {p : Addr} (hp : p.block < a.heap.size) (hs : ¬ S p.block) : b.cell? p = a.cell? p := World.cell?_of_block (h.block _ hp hs)
theorem Out.row {S : Nat → Prop} {W W' : World} (h : Out S W W') {base size n : Nat} {t : TypeId} {v : Value} {xs : List Value} (k : W.ownsRow base t size v n xs) (hs : ∀ j, v.ownBlock = some j → ¬ S j) : W'.ownsRow base t size v n xs := by
  obtain ⟨h1, h2⟩ := k
  refine ⟨h1, ?_⟩
  rcases h2 with h2 | h2
  · exact .inl h2
  · right
    obtain ⟨g, cap, cur, rfl, k1, k2, k3⟩ := h2
    exact ⟨g, cap, cur, rfl, k1, (h.block g (Array.getElem?_eq_some_iff.1 k2).1 (hs g rfl)).trans k2, k3⟩

/-- bytes as a number, joined bit by bit -/
theorem mor_add (a b i : Nat) (ha : a < 2 ^ i) (h : a + b * 2 ^ i < 4294967296) : bits .or .u32 (a : Int) ((b * 2 ^ i : Nat) : Int) = ((a + b * 2 ^ i : Nat) : Int) := by
  rw [u32_or_nat _ _ (by omega) (by omega)]
  congr 1
  rw [Nat.or_comm, Nat.mul_comm, ← Nat.two_pow_add_eq_or_of_lt ha]
  omega
theorem mor_0 (x : Nat) (h : x < 4294967296) : bits .or .u32 0 (x : Int) = (x : Int) := by
  rw [show (0 : Int) = ((0 : Nat) : Int) from rfl, u32_or_nat _ _ (by omega) h, Nat.zero_or]
theorem mor_1 (a b : Nat) (ha : a < 256) (hb : b < 256) : bits .or .u32 (a : Int) ((b : Int) * 256) = ((a + b * 256 : Nat) : Int) := by
  rw [show ((b : Int) * 256) = ((b * 2 ^ 8 : Nat) : Int) by omega, mor_add a b 8 (by omega) (by omega)]
theorem mor_2 (a b : Nat) (ha : a < 65536) (hb : b < 256) : bits .or .u32 (a : Int) ((b : Int) * 65536) = ((a + b * 65536 : Nat) : Int) := by
  rw [show ((b : Int) * 65536) = ((b * 2 ^ 16 : Nat) : Int) by omega, mor_add a b 16 (by omega) (by omega)]
theorem mor_3 (a b : Nat) (ha : a < 16777216) (hb : b < 256) : bits .or .u32 (a : Int) ((b : Int) * 16777216) = ((a + b * 16777216 : Nat) : Int) := by
  rw [show ((b : Int) * 16777216) = ((b * 2 ^ 24 : Nat) : Int) by omega, mor_add a b 24 (by omega) (by omega)]
def bytesAt (l : List Nat) (o k : Nat) : Nat := numB ((l.drop o).take k)
theorem bytes0 (l : List Nat) (o : Nat) : bytesAt l o 0 = 0 := by simp [bytesAt, numB]
theorem bytes_step {l : List Nat} {o : Nat} (k : Nat) (h : o < l.length) : bytesAt l o (k + 1) = l.getD o 0 + 256 * bytesAt l (o + 1) k := by
  unfold bytesAt
  rw [List.drop_eq_getElem_cons h, List.take_succ_cons]
  show l[o] + 256 * numB _ = _
  simp [List.getD, List.getElem?_eq_getElem h]
theorem bytes1 {l : List Nat} {o : Nat} (h : o + 1 ≤ l.length) : bytesAt l o 1 = l.getD o 0 := by
  rw [bytes_step 0 (by omega), bytes0]; omega
theorem bytes2 {l : List Nat} {o : Nat} (h : o + 2 ≤ l.length) : bytesAt l o 2 = l.getD o 0 + 256 * l.getD (o + 1) 0 := by
  rw [bytes_step 1 (by omega), bytes1 (by omega)]
theorem bytes4 {l : List Nat} {o : Nat} (h : o + 4 ≤ l.length) : bytesAt l o 4 = l.getD o 0 + 256 * (l.getD (o + 1) 0 + 256 * (l.getD (o + 2) 0 + 256 * l.getD (o + 3) 0)) := by
  rw [bytes_step 3 (by omega), bytes_step 2 (by omega), bytes2 (by omega)]
theorem getD_lt {l : List Nat} (h : ∀ x ∈ l, x < 256) (i : Nat) : l.getD i 0 < 256 := by
  rw [List.getD_eq_getElem?_getD]
  cases hx : l[i]? with
  | none => simp
  | some x => exact h x (List.mem_of_getElem? hx)
theorem row_cellG {W : World} {G : Nat} {l : List Nat} (hG : W.heap[G]? = some (.cells (rowG l) 5 (0, 0))) (i : Nat) (hi : i < l.length) : W.cell? ⟨G, i, none⟩ = some (.int .u8 (l.getD i 0 : Nat)) := by
  rw [cell_of_row W G i _ _ _ hG]
  simp [rowG, u8G, List.getD, List.getElem?_eq_getElem hi]
theorem ret_u32G {a b : Int} (h : a = b) : Ending.returned (.int .u32 a) = .returned (.int .u32 b) := by rw [h]
set_option maxHeartbeats 1000000 in
theorem number1 {W : World} {G : Nat} {l : List Nat} (hG : W.heap[G]? = some (.cells (rowG l) 5 (0, 0))) (fl : ∀ x ∈ l, x < 256) (o c : Nat) (ho : o + 1 ≤ l.length) :
    Calls Try.prog 83 #[.slice (some ⟨G, o, none⟩) 1 c] W fun e w' => e = .returned (.int .u32 (bytesAt l o 1 : Nat)) ∧ W = w' := by
  have c0 := row_cellG hG o (by omega)
  have x0 := getD_lt fl o
  have E := Lib.hid (bytes1 ho)
  generalize hx : l.getD o 0 = x at *
  clear hG fl hx
  go_enter Try.func83, Try.ntmps83
  go_wp2
  go_rounds 3
  go_ret
  exact ⟨ret_u32G (by rw [E.out, mor_0 _ (by omega)]), rfl⟩
set_option maxHeartbeats 1000000 in
theorem number2 {W : World} {G : Nat} {l : List Nat} (hG : W.heap[G]? = some (.cells (rowG l) 5 (0, 0))) (fl : ∀ x ∈ l, x < 256) (o c : Nat) (ho : o + 2 ≤ l.length) :
    Calls Try.prog 83 #[.slice (some ⟨G, o, none⟩) 2 c] W fun e w' => e = .returned (.int .u32 (bytesAt l o 2 : Nat)) ∧ W = w' := by
  have c0 := row_cellG hG o (by omega)
  have c1 := row_cellG hG (o + 1) (by omega)
  have x0 := getD_lt fl o
  have x1 := getD_lt fl (o + 1)
  have E := Lib.hid (bytes2 ho)
  generalize hx : l.getD o 0 = x at *
  generalize hy : l.getD (o + 1) 0 = y at *
  clear hG fl hx hy
  go_enter Try.func83, Try.ntmps83
  go_wp2
  go_rounds 4
  go_ret
  exact ⟨ret_u32G (by rw [E.out, mor_0 _ (by omega), mor_1 _ _ x0 x1]; omega), rfl⟩
set_option maxHeartbeats 1000000 in
theorem number4 {W : World} {G : Nat} {l : List Nat} (hG : W.heap[G]? = some (.cells (rowG l) 5 (0, 0))) (fl : ∀ x ∈ l, x < 256) (o c : Nat) (ho : o + 4 ≤ l.length) :
    Calls Try.prog 83 #[.slice (some ⟨G, o, none⟩) 4 c] W fun e w' => e = .returned (.int .u32 (bytesAt l o 4 : Nat)) ∧ W = w' := by
  have c0 := row_cellG hG o (by omega)
  have c1 := row_cellG hG (o + 1) (by omega)
  have c2 := row_cellG hG (o + 2) (by omega)
  have c3 := row_cellG hG (o + 3) (by omega)
  have x0 := getD_lt fl o
  have x1 := getD_lt fl (o + 1)
  have x2 := getD_lt fl (o + 2)
  have x3 := getD_lt fl (o + 3)
  have E := Lib.hid (bytes4 ho)
  generalize hx : l.getD o 0 = x at *
  generalize hy : l.getD (o + 1) 0 = y at *
  generalize hz : l.getD (o + 2) 0 = z at *
  generalize hu : l.getD (o + 3) 0 = u at *
  clear hG fl hx hy hz hu
  go_enter Try.func83, Try.ntmps83
  go_wp2
  go_rounds 6
  go_ret
  exact ⟨ret_u32G (by rw [E.out, mor_0 _ (by omega), mor_1 _ _ x0 x1, mor_2 _ _ (by omega) x2, mor_3 _ _ (by omega) x3]; omega), rfl⟩
theorem number_any {W : World} {G : Nat} {l : List Nat} (hG : W.heap[G]? = some (.cells (rowG l) 5 (0, 0))) (fl : ∀ x ∈ l, x < 256) (o k c : Nat) (hk : k = 1 ∨ k = 2 ∨ k = 4) (ho : o + k ≤ l.length) :
    Calls Try.prog 83 #[.slice (some ⟨G, o, none⟩) k c] W fun e w' => e = .returned (.int .u32 (bytesAt l o k : Nat)) ∧ W = w' := by
  rcases hk with rfl | rfl | rfl
  · exact number1 hG fl o c ho
  · exact number2 hG fl o c ho
  · exact number4 hG fl o c ho

theorem isSize_yes (k : Nat) (w : World) (hk : k = 1 ∨ k = 2 ∨ k = 4) : Calls Try.prog 82 #[.int .i64 (k : Nat)] w fun e w' => e = .returned (.bool true) ∧ w = w' := by
  rcases hk with rfl | rfl | rfl
  all_goals go_enter Try.func82, Try.ntmps82
  all_goals go_wp2
  all_goals go_ret
  all_goals exact ⟨rfl, rfl⟩
theorem isSize_no (k : Int) (w : World) (hk : k ≠ 1 ∧ k ≠ 2 ∧ k ≠ 4) : Calls Try.prog 82 #[.int .i64 k] w fun e w' => e = .returned (.bool false) ∧ w = w' := by
  have t1 : (k == 1) = false := by simp; omega
  have t2 : (k == 2) = false := by simp; omega
  have t4 : (k == 4) = false := by simp; omega
  clear hk
  go_enter Try.func82, Try.ntmps82
  go_wp2
  go_ret
  exact ⟨rfl, rfl⟩
/-- what a load tells: a number and a trap -/
def loadS (f n1 r n2 : Nat) (Fb Rb : List Nat) (a k : Nat) : Nat × Int :=
  if a % k ≠ 0 then (0, 1) else if inB f n1 a k then (bytesAt Fb (a - f) k, 0) else if inB r n2 a k then (bytesAt Rb (a - r) k, 0) else (0, 3)
def fetchS (f n1 r n2 : Nat) (Fb Rb : List Nat) (a : Nat) : Nat × Int :=
  if a % 4 ≠ 0 then (0, 1) else if inB f n1 a 4 then (bytesAt Fb (a - f) 4, 0) else if inB r n2 a 4 then (bytesAt Rb (a - r) 4, 0) else (0, 2)
def LoadPost (W : World) (n : Nat) (t : Int) (e : Ending) (w' : World) : Prop := e = .returned (.tuple #[.int .u32 (n : Nat), .int .i64 t]) ∧ LikeG W w'
set_option maxHeartbeats 1000000 in
theorem load_size (M : Nat) (a : Int) (k : Int) (W : World) (hk : k ≠ 1 ∧ k ≠ 2 ∧ k ≠ 4) :
    Calls Try.prog 55 #[.pointer (some ⟨M, 0, none⟩), .int .u32 a, .int .i64 k] W (LoadPost W 0 3) := by
  have IS := Lib.hid (isSize_no k · hk)
  clear hk
  go_enter Try.func55, Try.ntmps55
  go_wp2_with fail
  refine (IS.out _).mono ?_
  rintro e w1 ⟨rfl, rfl⟩
  go_wp2_with fail
  go_ret2
  exact ⟨rfl, .refl _⟩
set_option maxHeartbeats 1000000 in
theorem load_align (M : Nat) (a k : Nat) (W : World) (ha : a < 4294967296) (hk : k = 1 ∨ k = 2 ∨ k = 4) (h : a % k ≠ 0) :
    Calls Try.prog 55 #[.pointer (some ⟨M, 0, none⟩), .int .u32 (a : Nat), .int .i64 (k : Nat)] W (LoadPost W 0 1) := by
  have IS := Lib.hid (isSize_yes k · hk)
  have hk0 : 0 < k := by omega
  have hk4 : k ≤ 4 := by omega
  have t : (((a : Int) % (k : Int)) == 0) = false := by simp; omega
  have t' : (((a : Int) % (k : Int)) != 0) = true := by simp; omega
  clear hk h
  go_enter Try.func55, Try.ntmps55
  go_wp2_with fail
  refine (IS.out _).mono ?_
  rintro e w1 ⟨rfl, rfl⟩
  go_wp2_with fail
  go_ret2
  exact ⟨rfl, .refl _⟩
set_option maxHeartbeats 1000000 in
theorem load_in (M G a k o c : Nat) (l : List Nat) (W : World) (ha : a < 4294967296) (hk : k = 1 ∨ k = 2 ∨ k = 4) (h : a % k = 0)
    (hw : Calls Try.prog 78 #[.pointer (some ⟨M, 0, none⟩), .int .u32 (a : Nat), .int .i64 (k : Nat)] W fun e w' => e = .returned (.tuple #[.slice (some ⟨G, o, none⟩) k c, .bool true]) ∧ LikeG W w')
    (hG : W.heap[G]? = some (.cells (rowG l) 5 (0, 0))) (fl : ∀ x ∈ l, x < 256) (ho : o + k ≤ l.length) :
    Calls Try.prog 55 #[.pointer (some ⟨M, 0, none⟩), .int .u32 (a : Nat), .int .i64 (k : Nat)] W (LoadPost W (bytesAt l o k) 0) := by
  have IS := Lib.hid (isSize_yes k · hk)
  have HW := Lib.hid hw
  have NB := Lib.hid (show ∀ w', LikeG W w' → Calls Try.prog 83 #[.slice (some ⟨G, o, none⟩) k c] w' fun e w2 => e = .returned (.int .u32 (bytesAt l o k : Nat)) ∧ w' = w2 from fun w' hl => number_any (by rw [hl.1]; exact hG) fl o k c hk ho)
  have hk0 : 0 < k := by omega
  have hk4 : k ≤ 4 := by omega
  have t : (((a : Int) % (k : Int)) == 0) = true := by simp; omega
  have t' : (((a : Int) % (k : Int)) != 0) = false := by simp; omega
  clear hk h hw hG fl ho
  go_enter Try.func55, Try.ntmps55
  go_wp2_with fail
  refine (IS.out _).mono ?_
  rintro e w1 ⟨rfl, rfl⟩
  go_wp2_with fail
  refine HW.out.mono ?_
  rintro e w1 ⟨rfl, hl⟩
  have HL := Lib.hid hl
  clear hl
  go_wp2_with fail
  refine (NB.out _ HL.out).mono ?_
  rintro e w2 ⟨rfl, rfl⟩
  go_wp2_with fail
  go_ret2
  exact ⟨rfl, HL.out⟩
set_option maxHeartbeats 1000000 in
theorem load_out (M a k : Nat) (W : World) (ha : a < 4294967296) (hk : k = 1 ∨ k = 2 ∨ k = 4) (h : a % k = 0) (sl : Value)
    (hw : Calls Try.prog 78 #[.pointer (some ⟨M, 0, none⟩), .int .u32 (a : Nat), .int .i64 (k : Nat)] W fun e w' => e = .returned (.tuple #[sl, .bool false]) ∧ LikeG W w') :
    Calls Try.prog 55 #[.pointer (some ⟨M, 0, none⟩), .int .u32 (a : Nat), .int .i64 (k : Nat)] W (LoadPost W 0 3) := by
  have IS := Lib.hid (isSize_yes k · hk)
  have HW := Lib.hid hw
  have hk0 : 0 < k := by omega
  have hk4 : k ≤ 4 := by omega
  have t : (((a : Int) % (k : Int)) == 0) = true := by simp; omega
  have t' : (((a : Int) % (k : Int)) != 0) = false := by simp; omega
  clear hk h hw
  go_enter Try.func55, Try.ntmps55
  go_wp2_with fail
  refine (IS.out _).mono ?_
  rintro e w1 ⟨rfl, rfl⟩
  go_wp2_with fail
  refine HW.out.mono ?_
  rintro e w1 ⟨rfl, hl⟩
  go_wp2_with fail
  go_ret2
  exact ⟨rfl, hl⟩
theorem inB_out {base n a k : Nat} (h : inB base n a k = true) : base ≤ a ∧ a + k ≤ base + n := of_decide_eq_true h
theorem load_any {M F R f r : Nat} {Fb Rb : List Nat} {W : World} (h : MemIs M F R f r Fb Rb W) (hb : Banks f Fb.length r Rb.length) (a k : Nat) (ha : a < 4294967296) (hk : k = 1 ∨ k = 2 ∨ k = 4) :
    Calls Try.prog 55 #[.pointer (some ⟨M, 0, none⟩), .int .u32 (a : Nat), .int .i64 (k : Nat)] W (LoadPost W (loadS f Fb.length r Rb.length Fb Rb a k).1 (loadS f Fb.length r Rb.length Fb Rb a k).2) := by
  unfold loadS
  by_cases h0 : a % k = 0
  · rw [if_neg (by omega)]
    have hw := within_any h hb a k ha (by omega) (by omega)
    unfold wSl wIn at hw
    by_cases h1 : inB f Fb.length a k = true
    · rw [if_pos h1]
      rw [if_pos h1, h1] at hw
      have := inB_out h1
      exact load_in M F a k (a - f) _ Fb W ha hk h0 hw h.hF h.fF (by omega)
    · have h1' := Bool.eq_false_iff.2 h1
      rw [if_neg h1]
      rw [if_neg h1, h1'] at hw
      by_cases h2 : inB r Rb.length a k = true
      · rw [if_pos h2]
        rw [if_pos h2, h2] at hw
        have := inB_out h2
        exact load_in M R a k (a - r) _ Rb W ha hk h0 hw h.hR h.fR (by omega)
      · have h2' := Bool.eq_false_iff.2 h2
        rw [if_neg h2]
        rw [if_neg h2, h2'] at hw
        exact load_out M a k W ha hk h0 _ hw
  · rw [if_pos h0]
    exact load_align M a k W ha hk h0
/-- what a store tells -/
def storeS (r n2 a k : Nat) : Int := if a % k ≠ 0 then 1 else if inB r n2 a k then 0 else 4
set_option maxHeartbeats 1000000 in
theorem store_size (M : Nat) (a : Int) (k : Int) (v : Int) (W : World) (hk : k ≠ 1 ∧ k ≠ 2 ∧ k ≠ 4) :
    Calls Try.prog 73 #[.pointer (some ⟨M, 0, none⟩), .int .u32 a, .int .i64 k, .int .u32 v] W fun e w' => e = .returned (.int .i64 4) ∧ LikeG W w' := by
  have IS := Lib.hid (isSize_no k · hk)
  clear hk
  go_enter Try.func73, Try.ntmps73
  go_wp2_with fail
  refine (IS.out _).mono ?_
  rintro e w1 ⟨rfl, rfl⟩
  go_wp2_with fail
  go_ret
  exact ⟨rfl, .refl _⟩
set_option maxHeartbeats 1000000 in
theorem store_align (M : Nat) (a k : Nat) (v : Int) (W : World) (ha : a < 4294967296) (hk : k = 1 ∨ k = 2 ∨ k = 4) (h : a % k ≠ 0) :
    Calls Try.prog 73 #[.pointer (some ⟨M, 0, none⟩), .int .u32 (a : Nat), .int .i64 (k : Nat), .int .u32 v] W fun e w' => e = .returned (.int .i64 1) ∧ LikeG W w' := by
  have IS := Lib.hid (isSize_yes k · hk)
  have hk0 : 0 < k := by omega
  have hk4 : k ≤ 4 := by omega
  have t : (((a : Int) % (k : Int)) == 0) = false := by simp; omega
  have t' : (((a : Int) % (k : Int)) != 0) = true := by simp; omega
  clear hk h
  go_enter Try.func73, Try.ntmps73
  go_wp2_with fail
  refine (IS.out _).mono ?_
  rintro e w1 ⟨rfl, rfl⟩
  go_wp2_with fail
  go_ret
  exact ⟨rfl, .refl _⟩
set_option maxHeartbeats 1000000 in
theorem store_out (M R r n2 : Nat) (a k : Nat) (v : Int) (W : World) (h2 : W.cell? ⟨M, 2, none⟩ = some (.int .u32 (r : Nat))) (h5 : W.cell? ⟨M, 5, none⟩ = some (.slice (some ⟨R, 0, none⟩) n2 n2)) (ha : a < 4294967296) (hk : k = 1 ∨ k = 2 ∨ k = 4) (h : a % k = 0)
    (hp : PartG R n2 r a k (.slice none 0 0) false) :
    Calls Try.prog 73 #[.pointer (some ⟨M, 0, none⟩), .int .u32 (a : Nat), .int .i64 (k : Nat), .int .u32 v] W fun e w' => e = .returned (.int .i64 4) ∧ LikeG W w' := by
  have IS := Lib.hid (isSize_yes k · hk)
  have hk0 : 0 < k := by omega
  have hk4 : k ≤ 4 := by omega
  have t : (((a : Int) % (k : Int)) == 0) = true := by simp; omega
  have t' : (((a : Int) % (k : Int)) != 0) = false := by simp; omega
  have HP := Lib.hid hp
  clear hk h hp
  go_enter Try.func73, Try.ntmps73
  go_wp2_with fail
  refine (IS.out _).mono ?_
  rintro e w1 ⟨rfl, rfl⟩
  go_wp2_with fail
  go_quiet ((go_at_call 88; exact partG_q HP.out))
  rename_i nq
  go_wp2_with fail
  go_ret
  exact ⟨rfl, .drewN _ _⟩
theorem lowB_map1 (v : Nat) : (lowB 1 v).map u8G = [.int .u8 ((v : Int) % 256)] := by
  simp only [lowB, List.map, u8G, Int.natCast_emod] <;> rfl
theorem lowB_map2 (v : Nat) : (lowB 2 v).map u8G = [.int .u8 ((v : Int) % 256), .int .u8 ((v : Int) / 256 % 256)] := by
  simp only [lowB, List.map, u8G, Int.natCast_emod, Int.natCast_ediv] <;> rfl
theorem lowB_map4 (v : Nat) (hv : v < 4294967296) : (lowB 4 v).map u8G = [.int .u8 ((v : Int) % 256), .int .u8 ((v : Int) / 256 % 256), .int .u8 ((v : Int) / 65536 % 256), .int .u8 ((v : Int) / 16777216)] := by
  have e1 : v / 256 / 256 = v / 65536 := Nat.div_div_eq_div_mul _ _ _
  have e2 : v / 65536 / 256 = v / 16777216 := Nat.div_div_eq_div_mul _ _ _
  have e3 : v / 16777216 % 256 = v / 16777216 := by omega
  simp only [lowB, List.map, u8G, e1, e2, e3, Int.natCast_emod, Int.natCast_ediv]; rfl
theorem rowG_set (l : List Nat) (o : Nat) (bs : List Nat) : ((rowG l).toList.take o ++ (bs.map u8G ++ (rowG l).toList.drop (o + (bs.map u8G).length))).toArray = rowG (setB l o bs) := by
  simp [rowG, setB, List.map_take, List.map_drop]
theorem rowG_size (l : List Nat) : (rowG l).size = l.length := by simp [rowG]
theorem u8G_one (l : List Nat) : ∀ v ∈ l.map u8G, v.oneCell' = true := by
  intro v hv
  simp only [List.mem_map] at hv
  obtain ⟨x, _, rfl⟩ := hv
  rfl
theorem src_lit (V : World) (cs : List Value) (t : TypeId) (k : Nat) : ∀ j v, (cs.take k)[j]? = some v → (V.alloc (.cells cs.toArray t)).cell? ((⟨V.heap.size, 0, none⟩ : Addr).add j) = some v := by
  intro j v hj
  have e : (⟨V.heap.size, 0, none⟩ : Addr).add j = ⟨V.heap.size, j, none⟩ := by unfold Addr.add; split <;> simp_all
  rw [e, World.cell?_alloc_new]
  rw [List.getElem?_take] at hj
  split at hj
  · simpa using hj
  · cases hj
theorem out_alloc_set {W V : World} {R : Nat} (h : LikeG W V) (o : Obj) (cs : Array Value) : Out (· = R) W ((V.alloc o).setRow R cs) := by
  refine (h.out _).trans ((Out.of_below (a := V) _ ((Below.refl _ _).alloc (Nat.le_refl _) o)).trans ?_)
  exact ⟨rfl, rfl, rfl, by simp [World.setRow], fun k _ hk => setRow_other _ R k _ (fun e => hk e)⟩
set_option maxRecDepth 100000 in
set_option maxHeartbeats 1000000 in
theorem store_in1 (M R r n2 : Nat) (Rb : List Nat) (a c o : Nat) (v : Nat) (hv : v < 4294967296) (W : World) (h2 : W.cell? ⟨M, 2, none⟩ = some (.int .u32 (r : Nat))) (h5 : W.cell? ⟨M, 5, none⟩ = some (.slice (some ⟨R, 0, none⟩) n2 n2))
    (hR : W.heap[R]? = some (.cells (rowG Rb) 5 (0, 0))) (ho : o + 1 ≤ Rb.length) (ha : a < 4294967296) (h : a % 1 = 0)
    (hp : PartG R n2 r a 1 (.slice (some ⟨R, o, none⟩) 1 c) true) :
    Calls Try.prog 73 #[.pointer (some ⟨M, 0, none⟩), .int .u32 (a : Nat), .int .i64 1, .int .u32 (v : Nat)] W fun e w' => e = .returned (.int .i64 0) ∧ w'.heap[R]? = some (.cells (rowG (setB Rb o (lowB 1 v))) 5 (0, 0)) ∧ Out (· = R) W w' := by
  have IS := Lib.hid (isSize_yes 1 · (by omega))
  have t : (((a : Int) % 1) == 0) = true := by simp
  have t' : (((a : Int) % 1) != 0) = false := by simp
  have HP := Lib.hid hp
  have HR := Lib.hid hR
  have HO := Lib.hid ho
  clear h hp hR ho
  go_enter Try.func73, Try.ntmps73
  go_wp2_with fail
  refine (IS.out _).mono ?_
  rintro e w1 ⟨rfl, rfl⟩
  go_wp2_with fail
  go_quiet ((go_at_call 88; exact partG_q HP.out))
  rename_i nq
  generalize hW : W.drewN nq = V
  have HVR := Lib.hid (show V.heap[R]? = some (.cells (rowG Rb) 5 (0, 0)) by rw [← hW]; exact HR.out)
  have HVG := Lib.hid (show LikeG W V by rw [← hW]; exact .drewN _ _)
  have hRV : R < V.heap.size := (Array.getElem?_eq_some_iff.1 HVR.out).1
  have HVA := Lib.hid (show (V.alloc (.cells #[.int .u8 ((v : Int) % 256), .int .u8 ((v : Int) / 256 % 256), .int .u8 ((v : Int) / 65536 % 256), .int .u8 ((v : Int) / 16777216)] 133)).heap[R]? = some (.cells (rowG Rb) 5 (0, 0)) by rw [heap_alloc_old _ _ hRV]; exact HVR.out)
  have HSRC := Lib.hid (show ∀ j u, ((lowB 1 v).map u8G)[j]? = some u → (V.alloc (.cells #[.int .u8 ((v : Int) % 256), .int .u8 ((v : Int) / 256 % 256), .int .u8 ((v : Int) / 65536 % 256), .int .u8 ((v : Int) / 16777216)] 133)).cell? ((⟨V.heap.size, 0, none⟩ : Addr).add j) = some u by
    rw [lowB_map1]
    exact src_lit V [.int .u8 ((v : Int) % 256), .int .u8 ((v : Int) / 256 % 256), .int .u8 ((v : Int) / 65536 % 256), .int .u8 ((v : Int) / 16777216)] 133 1)
  have HFIT := Lib.hid (show o + ((lowB 1 v).map u8G).length ≤ (rowG Rb).size by rw [rowG_size, List.length_map, lowB_length]; exact HO.out)
  have HLEN := Lib.hid (show ((lowB 1 v).map u8G).length = Nat.min 1 1 by rw [List.length_map, lowB_length]; rfl)
  clear hW h2 h5 HR hRV
  go_wp2_with (with_reducible refine wpList_copy_own rfl (.tmp 53) (.tmp 55) 45 45 rfl 5 Try.underlying45 (by kernel_rfl) R o 1 c ⟨V.heap.size, 0, none⟩ 1 4 rfl rfl (rowG Rb) 5 HVA.out ((lowB 1 v).map u8G) HLEN.out HSRC.out HFIT.out (u8G_one _) ?_)
  go_ret
  refine ⟨rfl, ?_, out_alloc_set HVG.out _ _⟩
  rw [← rowG_set]
  exact setRow_heap _ R _ _ _ _ HVA.out
set_option maxRecDepth 100000 in
set_option maxHeartbeats 1000000 in
theorem store_in2 (M R r n2 : Nat) (Rb : List Nat) (a c o : Nat) (v : Nat) (hv : v < 4294967296) (W : World) (h2 : W.cell? ⟨M, 2, none⟩ = some (.int .u32 (r : Nat))) (h5 : W.cell? ⟨M, 5, none⟩ = some (.slice (some ⟨R, 0, none⟩) n2 n2))
    (hR : W.heap[R]? = some (.cells (rowG Rb) 5 (0, 0))) (ho : o + 2 ≤ Rb.length) (ha : a < 4294967296) (h : a % 2 = 0)
    (hp : PartG R n2 r a 2 (.slice (some ⟨R, o, none⟩) 2 c) true) :
    Calls Try.prog 73 #[.pointer (some ⟨M, 0, none⟩), .int .u32 (a : Nat), .int .i64 2, .int .u32 (v : Nat)] W fun e w' => e = .returned (.int .i64 0) ∧ w'.heap[R]? = some (.cells (rowG (setB Rb o (lowB 2 v))) 5 (0, 0)) ∧ Out (· = R) W w' := by
  have IS := Lib.hid (isSize_yes 2 · (by omega))
  have t : (((a : Int) % 2) == 0) = true := by simp; omega
  have t' : (((a : Int) % 2) != 0) = false := by simp; omega
  have HP := Lib.hid hp
  have HR := Lib.hid hR
  have HO := Lib.hid ho
  clear h hp hR ho
  go_enter Try.func73, Try.ntmps73
  go_wp2_with fail
  refine (IS.out _).mono ?_
  rintro e w1 ⟨rfl, rfl⟩
  go_wp2_with fail
  go_quiet ((go_at_call 88; exact partG_q HP.out))
  rename_i nq
  generalize hW : W.drewN nq = V
  have HVR := Lib.hid (show V.heap[R]? = some (.cells (rowG Rb) 5 (0, 0)) by rw [← hW]; exact HR.out)
  have HVG := Lib.hid (show LikeG W V by rw [← hW]; exact .drewN _ _)
  have hRV : R < V.heap.size := (Array.getElem?_eq_some_iff.1 HVR.out).1
  have HVA := Lib.hid (show (V.alloc (.cells #[.int .u8 ((v : Int) % 256), .int .u8 ((v : Int) / 256 % 256), .int .u8 ((v : Int) / 65536 % 256), .int .u8 ((v : Int) / 16777216)] 133)).heap[R]? = some (.cells (rowG Rb) 5 (0, 0)) by rw [heap_alloc_old _ _ hRV]; exact HVR.out)
  have HSRC := Lib.hid (show ∀ j u, ((lowB 2 v).map u8G)[j]? = some u → (V.alloc (.cells #[.int .u8 ((v : Int) % 256), .int .u8 ((v : Int) / 256 % 256), .int .u8 ((v : Int) / 65536 % 256), .int .u8 ((v : Int) / 16777216)] 133)).cell? ((⟨V.heap.size, 0, none⟩ : Addr).add j) = some u by
    rw [lowB_map2]
    exact src_lit V [.int .u8 ((v : Int) % 256), .int .u8 ((v : Int) / 256 % 256), .int .u8 ((v : Int) / 65536 % 256), .int .u8 ((v : Int) / 16777216)] 133 2)
  have HFIT := Lib.hid (show o + ((lowB 2 v).map u8G).length ≤ (rowG Rb).size by rw [rowG_size, List.length_map, lowB_length]; exact HO.out)
  have HLEN := Lib.hid (show ((lowB 2 v).map u8G).length = Nat.min 2 2 by rw [List.length_map, lowB_length]; rfl)
  clear hW h2 h5 HR hRV
  go_wp2_with (with_reducible refine wpList_copy_own rfl (.tmp 53) (.tmp 55) 45 45 rfl 5 Try.underlying45 (by kernel_rfl) R o 2 c ⟨V.heap.size, 0, none⟩ 2 4 rfl rfl (rowG Rb) 5 HVA.out ((lowB 2 v).map u8G) HLEN.out HSRC.out HFIT.out (u8G_one _) ?_)
  go_ret
  refine ⟨rfl, ?_, out_alloc_set HVG.out _ _⟩
  rw [← rowG_set]
  exact setRow_heap _ R _ _ _ _ HVA.out
set_option maxRecDepth 100000 in
set_option maxHeartbeats 1000000 in
theorem store_in4 (M R r n2 : Nat) (Rb : List Nat) (a c o : Nat) (v : Nat) (hv : v < 4294967296) (W : World) (h2 : W.cell? ⟨M, 2, none⟩ = some (.int .u32 (r : Nat))) (h5 : W.cell? ⟨M, 5, none⟩ = some (.slice (some ⟨R, 0, none⟩) n2 n2))
    (hR : W.heap[R]? = some (.cells (rowG Rb) 5 (0, 0))) (ho : o + 4 ≤ Rb.length) (ha : a < 4294967296) (h : a % 4 = 0)
    (hp : PartG R n2 r a 4 (.slice (some ⟨R, o, none⟩) 4 c) true) :
    Calls Try.prog 73 #[.pointer (some ⟨M, 0, none⟩), .int .u32 (a : Nat), .int .i64 4, .int .u32 (v : Nat)] W fun e w' => e = .returned (.int .i64 0) ∧ w'.heap[R]? = some (.cells (rowG (setB Rb o (lowB 4 v))) 5 (0, 0)) ∧ Out (· = R) W w' := by
  have IS := Lib.hid (isSize_yes 4 · (by omega))
  have t : (((a : Int) % 4) == 0) = true := by simp; omega
  have t' : (((a : Int) % 4) != 0) = false := by simp; omega
  have HP := Lib.hid hp
  have HR := Lib.hid hR
  have HO := Lib.hid ho
  clear h hp hR ho
  go_enter Try.func73, Try.ntmps73
  go_wp2_with fail
  refine (IS.out _).mono ?_
  rintro e w1 ⟨rfl, rfl⟩
  go_wp2_with fail
  go_quiet ((go_at_call 88; exact partG_q HP.out))
  rename_i nq
  generalize hW : W.drewN nq = V
  have HVR := Lib.hid (show V.heap[R]? = some (.cells (rowG Rb) 5 (0, 0)) by rw [← hW]; exact HR.out)
  have HVG := Lib.hid (show LikeG W V by rw [← hW]; exact .drewN _ _)
  have hRV : R < V.heap.size := (Array.getElem?_eq_some_iff.1 HVR.out).1
  have HVA := Lib.hid (show (V.alloc (.cells #[.int .u8 ((v : Int) % 256), .int .u8 ((v : Int) / 256 % 256), .int .u8 ((v : Int) / 65536 % 256), .int .u8 ((v : Int) / 16777216)] 133)).heap[R]? = some (.cells (rowG Rb) 5 (0, 0)) by rw [heap_alloc_old _ _ hRV]; exact HVR.out)
  have HSRC := Lib.hid (show ∀ j u, ((lowB 4 v).map u8G)[j]? = some u → (V.alloc (.cells #[.int .u8 ((v : Int) % 256), .int .u8 ((v : Int) / 256 % 256), .int .u8 ((v : Int) / 65536 % 256), .int .u8 ((v : Int) / 16777216)] 133)).cell? ((⟨V.heap.size, 0, none⟩ : Addr).add j) = some u by
    rw [lowB_map4 v hv]
    exact src_lit V [.int .u8 ((v : Int) % 256), .int .u8 ((v : Int) / 256 % 256), .int .u8 ((v : Int) / 65536 % 256), .int .u8 ((v : Int) / 16777216)] 133 4)
  have HFIT := Lib.hid (show o + ((lowB 4 v).map u8G).length ≤ (rowG Rb).size by rw [rowG_size, List.length_map, lowB_length]; exact HO.out)
  have HLEN := Lib.hid (show ((lowB 4 v).map u8G).length = Nat.min 4 4 by rw [List.length_map, lowB_length]; rfl)
  clear hW h2 h5 HR hRV
  go_wp2_with (with_reducible refine wpList_copy_own rfl (.tmp 53) (.tmp 55) 45 45 rfl 5 Try.underlying45 (by kernel_rfl) R o 4 c ⟨V.heap.size, 0, none⟩ 4 4 rfl rfl (rowG Rb) 5 HVA.out ((lowB 4 v).map u8G) HLEN.out HSRC.out HFIT.out (u8G_one _) ?_)
  go_ret
  refine ⟨rfl, ?_, out_alloc_set HVG.out _ _⟩
  rw [← rowG_set]
  exact setRow_heap _ R _ _ _ _ HVA.out
theorem store_in (M R r n2 : Nat) (Rb : List Nat) (a k c o : Nat) (v : Nat) (hv : v < 4294967296) (W : World) (h2 : W.cell? ⟨M, 2, none⟩ = some (.int .u32 (r : Nat))) (h5 : W.cell? ⟨M, 5, none⟩ = some (.slice (some ⟨R, 0, none⟩) n2 n2))
    (hR : W.heap[R]? = some (.cells (rowG Rb) 5 (0, 0))) (ho : o + k ≤ Rb.length) (ha : a < 4294967296) (hk : k = 1 ∨ k = 2 ∨ k = 4) (h : a % k = 0)
    (hp : PartG R n2 r a k (.slice (some ⟨R, o, none⟩) k c) true) :
    Calls Try.prog 73 #[.pointer (some ⟨M, 0, none⟩), .int .u32 (a : Nat), .int .i64 (k : Nat), .int .u32 (v : Nat)] W fun e w' => e = .returned (.int .i64 0) ∧ w'.heap[R]? = some (.cells (rowG (setB Rb o (lowB k v))) 5 (0, 0)) ∧ Out (· = R) W w' := by
  rcases hk with rfl | rfl | rfl
  · exact store_in1 M R r n2 Rb a c o v hv W h2 h5 hR ho ha h hp
  · exact store_in2 M R r n2 Rb a c o v hv W h2 h5 hR ho ha h hp
  · exact store_in4 M R r n2 Rb a c o v hv W h2 h5 hR ho ha h hp
/-- the bytes of RAM behind a store -/
def ramS (r n2 : Nat) (Rb : List Nat) (a k v : Nat) : List Nat := if storeS r n2 a k = 0 then setB Rb (a - r) (lowB k v) else Rb
theorem MemIs.out {M F R f r : Nat} {Fb Rb : List Nat} {S : Nat → Prop} {W W' : World} (h : MemIs M F R f r Fb Rb W) (ho : Out S W W') (hM : ¬ S M) (hF : ¬ S F) (hR : ¬ S R) : MemIs M F R f r Fb Rb W' :=
  { c0 := (ho.cell (p := ⟨M, 0, none⟩) (World.block_lt_of_cell? W _ h.c0) hM).trans h.c0, c2 := (ho.cell (p := ⟨M, 2, none⟩) (World.block_lt_of_cell? W _ h.c2) hM).trans h.c2
    c4 := (ho.cell (p := ⟨M, 4, none⟩) (World.block_lt_of_cell? W _ h.c4) hM).trans h.c4, c5 := (ho.cell (p := ⟨M, 5, none⟩) (World.block_lt_of_cell? W _ h.c5) hM).trans h.c5
    hF := (ho.block F (Array.getElem?_eq_some_iff.1 h.hF).1 hF).trans h.hF, hR := (ho.block R (Array.getElem?_eq_some_iff.1 h.hR).1 hR).trans h.hR, fF := h.fF, fR := h.fR, mF := h.mF, mR := h.mR, fr := h.fr }
theorem MemIs.stored {M F R f r : Nat} {Fb Rb Rb' : List Nat} {W W' : World} (h : MemIs M F R f r Fb Rb W) (ho : Out (· = R) W W') (hR : W'.heap[R]? = some (.cells (rowG Rb') 5 (0, 0))) (hl : Rb'.length = Rb.length) (fR : ∀ x ∈ Rb', x < 256) : MemIs M F R f r Fb Rb' W' :=
  { c0 := (ho.cell (p := ⟨M, 0, none⟩) (World.block_lt_of_cell? W _ h.c0) h.mR).trans h.c0, c2 := (ho.cell (p := ⟨M, 2, none⟩) (World.block_lt_of_cell? W _ h.c2) h.mR).trans h.c2
    c4 := (ho.cell (p := ⟨M, 4, none⟩) (World.block_lt_of_cell? W _ h.c4) h.mR).trans h.c4, c5 := by rw [hl]; exact (ho.cell (p := ⟨M, 5, none⟩) (World.block_lt_of_cell? W _ h.c5) h.mR).trans h.c5
    hF := (ho.block F (Array.getElem?_eq_some_iff.1 h.hF).1 h.fr).trans h.hF, hR := hR, fF := h.fF, fR := fR, mF := h.mF, mR := h.mR, fr := h.fr }
theorem store_any {M F R f r : Nat} {Fb Rb : List Nat} {W : World} (h : MemIs M F R f r Fb Rb W) (hb : Banks f Fb.length r Rb.length) (a k v : Nat) (ha : a < 4294967296) (hk : k = 1 ∨ k = 2 ∨ k = 4) (hv : v < 4294967296) :
    Calls Try.prog 73 #[.pointer (some ⟨M, 0, none⟩), .int .u32 (a : Nat), .int .i64 (k : Nat), .int .u32 (v : Nat)] W fun e w' => e = .returned (.int .i64 (storeS r Rb.length a k)) ∧ MemIs M F R f r Fb (ramS r Rb.length Rb a k v) w' ∧ Out (· = R) W w' := by
  have q1 := hb.b; have q2 := hb.d
  unfold ramS
  by_cases h0 : a % k = 0
  · by_cases h1 : inB r Rb.length a k = true
    · have e : storeS r Rb.length a k = 0 := by unfold storeS; rw [if_neg (by omega), if_pos h1]
      rw [e, if_pos rfl]
      have := inB_out h1
      refine (store_in M R r _ Rb a k _ (a - r) v hv W h.c2 h.c5 h.hR (by omega) ha hk h0 (partG_in (by omega) h1 ha (by omega))).mono ?_
      rintro e w' ⟨rfl, k1, k2⟩
      exact ⟨rfl, h.stored k2 k1 (setB_length _ _ _ (by rw [lowB_length]; omega)) (setB_all h.fR (lowB_lt k v)), k2⟩
    · have h1' := Bool.eq_false_iff.2 h1
      have e : storeS r Rb.length a k = 4 := by unfold storeS; rw [if_neg (by omega), if_neg h1]
      rw [e, if_neg (by decide)]
      refine (store_out M R r _ a k v W h.c2 h.c5 ha hk h0 (partG_out (by omega) h1' ha (by omega) (by omega) (by omega))).mono ?_
      rintro e w' ⟨rfl, k2⟩
      exact ⟨rfl, h.like k2, k2.out _⟩
  · have e : storeS r Rb.length a k = 1 := by unfold storeS; rw [if_pos h0]
    rw [e, if_neg (by decide)]
    refine (store_align M a k v W ha hk h0).mono ?_
    rintro e w' ⟨rfl, k2⟩
    exact ⟨rfl, h.like k2, k2.out _⟩
end Go.Proofs.Ytghclbeoabkgcaa
