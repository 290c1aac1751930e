/- Package mem over any bytes: numbers out of bytes, Load, Fetch. -/
import Derived.Test.YtghclbeoabkgcaaGB
import Derived.Laws.BitsAllLaws
import Derived.Laws.CopyOwn
import Derived.Laws.AppendOwn
import Derived.Deep.AppendLies
namespace Go.Proofs.Ytghclbeoabkgcaa
open Go Go.RowKit
set_option linter.unusedVariables false

/-- what changed lies in these blocks -/
structure Out (S : Nat → Prop) (W W' : World) : Prop where
  os : W'.os = W.os
  tape : W'.tape = W.tape
  output : W'.output = W.output
  size : W.heap.size ≤ W'.heap.size
  block : ∀ k, k < W.heap.size → ¬ S k → W'.heap[k]? = W.heap[k]?
theorem Out.refl (S : Nat → Prop) (W : World) : Out S W W := ⟨rfl, rfl, rfl, Nat.le_refl _, fun _ _ _ => rfl⟩
theorem Out.trans {S : Nat → Prop} {a b c : World} (h : Out S a b) (k : Out S b c) : Out S a c :=
  ⟨k.os.trans h.os, k.tape.trans h.tape, k.output.trans h.output, Nat.le_trans h.size k.size, fun j hj hs => (k.block j (Nat.lt_of_lt_of_le hj h.size) hs).trans (h.block j hj hs)⟩
theorem Out.mono {S T : Nat → Prop} {a b : World} (h : Out S a b) (k : ∀ j, S j → T j) : Out T a b :=
  ⟨h.os, h.tape, h.output, h.size, fun j hj hs => h.block j hj fun g => hs (k j g)⟩
theorem Out.below {S : Nat → Prop} {B : Nat} {w a b : World} (h : Out S a b) (k : Below B w a) (hB : B ≤ w.heap.size) (hS : ∀ j, S j → B ≤ j) : Below B w b :=
  ⟨h.os.trans k.os, h.tape.trans k.tape, h.output.trans k.output, Nat.le_trans k.size h.size, fun j hj => (h.block j (Nat.lt_of_lt_of_le hj (Nat.le_trans hB k.size)) fun g => by have := hS j g; omega).trans (k.block j hj)⟩
theorem Out.of_below {a b : World} (S : Nat → Prop) (h : Below a.heap.size a b) : Out S a b := ⟨h.os, h.tape, h.output, h.size, fun j hj _ => h.block j hj⟩
theorem Out.of_grown {a b : World} {r : Option Nat} {S : Nat → Prop} (h : a.grownBy b r) (hr : ∀ k, r = some k → S k) : Out S a b :=
  ⟨h.os, h.tape, h.output, h.size, fun j hj hs => h.block j hj fun e => hs (hr j e.symm)⟩
theorem LikeG.below {a b : World} (h : LikeG a b) : Below a.heap.size a b := h.2 _ _ (Below.refl _ _)
theorem LikeG.out {a b : World} (h : LikeG a b) (S : Nat → Prop) : Out S a b := .of_below S h.below
theorem Out.cell {S : Nat → Prop} {a b : World} (h : Out S a b) {p : Addr} (hp : p.block < a.heap.size) (hs : ¬ S p.block) : b.cell? p = a.cell? p := World.cell?_of_block (h.block _ hp hs)
theorem Out.row {S : Nat → Prop} {W W' : World} (h : Out S W W') {base size n : Nat} {t : TypeId} {v : Value} {xs : List Value} (k : W.ownsRow base t size v n xs) (hs : ∀ j, v.ownBlock = some j → ¬ S j) : W'.ownsRow base t size v n xs := by
  obtain ⟨h1, h2⟩ := k
  refine ⟨h1, ?_⟩
  rcases h2 with h2 | h2
  · exact .inl h2
  · right
    obtain ⟨g, cap, cur, rfl, k1, k2, k3⟩ := h2
    exact ⟨g, cap, cur, rfl, k1, (h.block g (Array.getElem?_eq_some_iff.1 k2).1 (hs g rfl)).trans k2, k3⟩

/-- bytes as a number, joined bit by bit -/
theorem mor_add (a b i : Nat) (ha : a < 2 ^ i) (h : a + b * 2 ^ i < 4294967296) : bits .or .u32 (a : Int) ((b * 2 ^ i : Nat) : Int) = ((a + b * 2 ^ i : Nat) : Int) := by
  rw [u32_or_nat _ _ (by omega) (by omega)]
  congr 1
  rw [Nat.or_comm, Nat.mul_comm, ← Nat.two_pow_add_eq_or_of_lt ha]
  omega
theorem mor_0 (x : Nat) (h : x < 4294967296) : bits .or .u32 0 (x : Int) = (x : Int) := by
  rw [show (0 : Int) = ((0 : Nat) : Int) from rfl, u32_or_nat _ _ (by omega) h, Nat.zero_or]
theorem mor_1 (a b : Nat) (ha : a < 256) (hb : b < 256) : bits .or .u32 (a : Int) ((b : Int) * 256) = ((a + b * 256 : Nat) : Int) := by
  rw [show ((b : Int) * 256) = ((b * 2 ^ 8 : Nat) : Int) by omega, mor_add a b 8 (by omega) (by omega)]
theorem mor_2 (a b : Nat) (ha : a < 65536) (hb : b < 256) : bits .or .u32 (a : Int) ((b : Int) * 65536) = ((a + b * 65536 : Nat) : Int) := by
  rw [show ((b : Int) * 65536) = ((b * 2 ^ 16 : Nat) : Int) by omega, mor_add a b 16 (by omega) (by omega)]
theorem mor_3 (a b : Nat) (ha : a < 16777216) (hb : b < 256) : bits .or .u32 (a : Int) ((b : Int) * 16777216) = ((a + b * 16777216 : Nat) : Int) := by
  rw [show ((b : Int) * 16777216) = ((b * 2 ^ 24 : Nat) : Int) by omega, mor_add a b 24 (by omega) (by omega)]
def bytesAt (l : List Nat) (o k : Nat) : Nat := numB ((l.drop o).take k)
theorem bytes0 (l : List Nat) (o : Nat) : bytesAt l o 0 = 0 := by simp [bytesAt, numB]
theorem bytes_step {l : List Nat} {o : Nat} (k : Nat) (h : o < l.length) : bytesAt l o (k + 1) = l.getD o 0 + 256 * bytesAt l (o + 1) k := by
  unfold bytesAt
  rw [List.drop_eq_getElem_cons h, List.take_succ_cons]
  show l[o] + 256 * numB _ = _
  simp [List.getD, List.getElem?_eq_getElem h]
theorem bytes1 {l : List Nat} {o : Nat} (h : o + 1 ≤ l.length) : bytesAt l o 1 = l.getD o 0 := by
  rw [bytes_step 0 (by omega), bytes0]; omega
theorem bytes2 {l : List Nat} {o : Nat} (h : o + 2 ≤ l.length) : bytesAt l o 2 = l.getD o 0 + 256 * l.getD (o + 1) 0 := by
  rw [bytes_step 1 (by omega), bytes1 (by omega)]
theorem bytes4 {l : List Nat} {o : Nat} (h : o + 4 ≤ l.length) : bytesAt l o 4 = l.getD o 0 + 256 * (l.getD (o + 1) 0 + 256 * (l.getD (o + 2) 0 + 256 * l.getD (o + 3) 0)) := by
  rw [bytes_step 3 (by omega), bytes_step 2 (by omega), bytes2 (by omega)]
theorem getD_lt {l : List Nat} (h : ∀ x ∈ l, x < 256) (i : Nat) : l.getD i 0 < 256 := by
  rw [List.getD_eq_getElem?_getD]
  cases hx : l[i]? with
  | none => simp
  | some x => exact h x (List.mem_of_getElem? hx)
theorem row_cellG {W : World} {G : Nat} {l : List Nat} (hG : W.heap[G]? = some (.cells (rowG l) 5 (0, 0))) (i : Nat) (hi : i < l.length) : W.cell? ⟨G, i, none⟩ = some (.int .u8 (l.getD i 0 : Nat)) := by
  rw [cell_of_row W G i _ _ _ hG]
  simp [rowG, u8G, List.getD, List.getElem?_eq_getElem hi]
theorem ret_u32G {a b : Int} (h : a = b) : Ending.returned (.int .u32 a) = .returned (.int .u32 b) := by rw [h]
set_option maxHeartbeats 1000000 in
theorem number1 {W : World} {G : Nat} {l : List Nat} (hG : W.heap[G]? = some (.cells (rowG l) 5 (0, 0))) (fl : ∀ x ∈ l, x < 256) (o c : Nat) (ho : o + 1 ≤ l.length) :
    Calls Try.prog 83 #[.slice (some ⟨G, o, none⟩) 1 c] W fun e w' => e = .returned (.int .u32 (bytesAt l o 1 : Nat)) ∧ W = w' := by
  have c0 := row_cellG hG o (by omega)
  have x0 := getD_lt fl o
  have E := Lib.hid (bytes1 ho)
  generalize hx : l.getD o 0 = x at *
  clear hG fl hx
  go_enter Try.func83, Try.ntmps83
  go_wp2
  go_rounds 3
  go_ret
  exact ⟨ret_u32G (by rw [E.out, mor_0 _ (by omega)]), rfl⟩
set_option maxHeartbeats 1000000 in
theorem number2 {W : World} {G : Nat} {l : List Nat} (hG : W.heap[G]? = some (.cells (rowG l) 5 (0, 0))) (fl : ∀ x ∈ l, x < 256) (o c : Nat) (ho : o + 2 ≤ l.length) :
    Calls Try.prog 83 #[.slice (some ⟨G, o, none⟩) 2 c] W fun e w' => e = .returned (.int .u32 (bytesAt l o 2 : Nat)) ∧ W = w' := by
  have c0 := row_cellG hG o (by omega)
  have c1 := row_cellG hG (o + 1) (by omega)
  have x0 := getD_lt fl o
  have x1 := getD_lt fl (o + 1)
  have E := Lib.hid (bytes2 ho)
  generalize hx : l.getD o 0 = x at *
  generalize hy : l.getD (o + 1) 0 = y at *
  clear hG fl hx hy
  go_enter Try.func83, Try.ntmps83
  go_wp2
  go_rounds 4
  go_ret
  exact ⟨ret_u32G (by rw [E.out, mor_0 _ (by omega), mor_1 _ _ x0 x1]; omega), rfl⟩
set_option maxHeartbeats 1000000 in
theorem number4 {W : World} {G : Nat} {l : List Nat} (hG : W.heap[G]? = some (.cells (rowG l) 5 (0, 0))) (fl : ∀ x ∈ l, x < 256) (o c : Nat) (ho : o + 4 ≤ l.length) :
    Calls Try.prog 83 #[.slice (some ⟨G, o, none⟩) 4 c] W fun e w' => e = .returned (.int .u32 (bytesAt l o 4 : Nat)) ∧ W = w' := by
  have c0 := row_cellG hG o (by omega)
  have c1 := row_cellG hG (o + 1) (by omega)
  have c2 := row_cellG hG (o + 2) (by omega)
  have c3 := row_cellG hG (o + 3) (by omega)
  have x0 := getD_lt fl o
  have x1 := getD_lt fl (o + 1)
  have x2 := getD_lt fl (o + 2)
  have x3 := getD_lt fl (o + 3)
  have E := Lib.hid (bytes4 ho)
  generalize hx : l.getD o 0 = x at *
  generalize hy : l.getD (o + 1) 0 = y at *
  generalize hz : l.getD (o + 2) 0 = z at *
  generalize hu : l.getD (o + 3) 0 = u at *
  clear hG fl hx hy hz hu
  go_enter Try.func83, Try.ntmps83
  go_wp2
  go_rounds 6
  go_ret
  exact ⟨ret_u32G (by rw [E.out, mor_0 _ (by omega), mor_1 _ _ x0 x1, mor_2 _ _ (by omega) x2, mor_3 _ _ (by omega) x3]; omega), rfl⟩
theorem number_any {W : World} {G : Nat} {l : List Nat} (hG : W.heap[G]? = some (.cells (rowG l) 5 (0, 0))) (fl : ∀ x ∈ l, x < 256) (o k c : Nat) (hk : k = 1 ∨ k = 2 ∨ k = 4) (ho : o + k ≤ l.length) :
    Calls Try.prog 83 #[.slice (some ⟨G, o, none⟩) k c] W fun e w' => e = .returned (.int .u32 (bytesAt l o k : Nat)) ∧ W = w' := by
  rcases hk with rfl | rfl | rfl
  · exact number1 hG fl o c ho
  · exact number2 hG fl o c ho
  · exact number4 hG fl o c ho

theorem isSize_yes (k : Nat) (w : World) (hk : k = 1 ∨ k = 2 ∨ k = 4) : Calls Try.prog 82 #[.int .i64 (k : Nat)] w fun e w' => e = .returned (.bool true) ∧ w = w' := by
  rcases hk with rfl | rfl | rfl
  all_goals go_enter Try.func82, Try.ntmps82
  all_goals go_wp2
  all_goals go_ret
  all_goals exact ⟨rfl, rfl⟩
theorem isSize_no (k : Int) (w : World) (hk : k ≠ 1 ∧ k ≠ 2 ∧ k ≠ 4) : Calls Try.prog 82 #[.int .i64 k] w fun e w' => e = .returned (.bool false) ∧ w = w' := by
  have t1 : (k == 1) = false := by simp; omega
  have t2 : (k == 2) = false := by simp; omega
  have t4 : (k == 4) = false := by simp; omega
  clear hk
  go_enter Try.func82, Try.ntmps82
  go_wp2
  go_ret
  exact ⟨rfl, rfl⟩
/-- what a load tells: a number and a trap -/
def loadS (f n1 r n2 : Nat) (Fb Rb : List Nat) (a k : Nat) : Nat × Int :=
  if a % k ≠ 0 then (0, 1) else if inB f n1 a k then (bytesAt Fb (a - f) k, 0) else if inB r n2 a k then (bytesAt Rb (a - r) k, 0) else (0, 3)
def fetchS (f n1 r n2 : Nat) (Fb Rb : List Nat) (a : Nat) : Nat × Int :=
  if a % 4 ≠ 0 then (0, 1) else if inB f n1 a 4 then (bytesAt Fb (a - f) 4, 0) else if inB r n2 a 4 then (bytesAt Rb (a - r) 4, 0) else (0, 2)
def LoadPost (W : World) (n : Nat) (t : Int) (e : Ending) (w' : World) : Prop := e = .returned (.tuple #[.int .u32 (n : Nat), .int .i64 t]) ∧ LikeG W w'
set_option maxHeartbeats 1000000 in
theorem load_size (M : Nat) (a : Int) (k : Int) (W : World) (hk : k ≠ 1 ∧ k ≠ 2 ∧ k ≠ 4) :
    Calls Try.prog 55 #[.pointer (some ⟨M, 0, none⟩), .int .u32 a, .int .i64 k] W (LoadPost W 0 3) := by
  have IS := Lib.hid (isSize_no k · hk)
  clear hk
  go_enter Try.func55, Try.ntmps55
  go_wp2_with fail
  refine (IS.out _).mono ?_
  rintro e w1 ⟨rfl, rfl⟩
  go_wp2_with fail
  go_ret2
  exact ⟨rfl, .refl _⟩
set_option maxHeartbeats 1000000 in
theorem load_align (M : Nat) (a k : Nat) (W : World) (ha : a < 4294967296) (hk : k = 1 ∨ k = 2 ∨ k = 4) (h : a % k ≠ 0) :
    Calls Try.prog 55 #[.pointer (some ⟨M, 0, none⟩), .int .u32 (a : Nat), .int .i64 (k : Nat)] W (LoadPost W 0 1) := by
  have IS := Lib.hid (isSize_yes k · hk)
  have hk0 : 0 < k := by omega
  have hk4 : k ≤ 4 := by omega
  have t : (((a : Int) % (k : Int)) == 0) = false := by simp; omega
  have t' : (((a : Int) % (k : Int)) != 0) = true := by simp; omega
  clear hk h
  go_enter Try.func55, Try.ntmps55
  go_wp2_with fail
  refine (IS.out _).mono ?_
  rintro e w1 ⟨rfl, rfl⟩
  go_wp2_with fail
  go_ret2
  exact ⟨rfl, .refl _⟩
set_option maxHeartbeats 1000000 in
theorem load_in (M G a k o c : Nat) (l : List Nat) (W : World) (ha : a < 4294967296) (hk : k = 1 ∨ k = 2 ∨ k = 4) (h : a % k = 0)
    (hw : Calls Try.prog 78 #[.pointer (some ⟨M, 0, none⟩), .int .u32 (a : Nat), .int .i64 (k : Nat)] W fun e w' => e = .returned (.tuple #[.slice (some ⟨G, o, none⟩) k c, .bool true]) ∧ LikeG W w')
    (hG : W.heap[G]? = some (.cells (rowG l) 5 (0, 0))) (fl : ∀ x ∈ l, x < 256) (ho : o + k ≤ l.length) :
    Calls Try.prog 55 #[.pointer (some ⟨M, 0, none⟩), .int .u32 (a : Nat), .int .i64 (k : Nat)] W (LoadPost W (bytesAt l o k) 0) := by
  have IS := Lib.hid (isSize_yes k · hk)
  have HW := Lib.hid hw
  have NB := Lib.hid (show ∀ w', LikeG W w' → Calls Try.prog 83 #[.slice (some ⟨G, o, none⟩) k c] w' fun e w2 => e = .returned (.int .u32 (bytesAt l o k : Nat)) ∧ w' = w2 from fun w' hl => number_any (by rw [hl.1]; exact hG) fl o k c hk ho)
  have hk0 : 0 < k := by omega
  have hk4 : k ≤ 4 := by omega
  have t : (((a : Int) % (k : Int)) == 0) = true := by simp; omega
  have t' : (((a : Int) % (k : Int)) != 0) = false := by simp; omega
  clear hk h hw hG fl ho
  go_enter Try.func55, Try.ntmps55
  go_wp2_with fail
  refine (IS.out _).mono ?_
  rintro e w1 ⟨rfl, rfl⟩
  go_wp2_with fail
  refine HW.out.mono ?_
  rintro e w1 ⟨rfl, hl⟩
  have HL := Lib.hid hl
  clear hl
  go_wp2_with fail
  refine (NB.out _ HL.out).mono ?_
  rintro e w2 ⟨rfl, rfl⟩
  go_wp2_with fail
  go_ret2
  exact ⟨rfl, HL.out⟩
set_option maxHeartbeats 1000000 in
theorem load_out (M a k : Nat) (W : World) (ha : a < 4294967296) (hk : k = 1 ∨ k = 2 ∨ k = 4) (h : a % k = 0) (sl : Value)
    (hw : Calls Try.prog 78 #[.pointer (some ⟨M, 0, none⟩), .int .u32 (a : Nat), .int .i64 (k : Nat)] W fun e w' => e = .returned (.tuple #[sl, .bool false]) ∧ LikeG W w') :
    Calls Try.prog 55 #[.pointer (some ⟨M, 0, none⟩), .int .u32 (a : Nat), .int .i64 (k : Nat)] W (LoadPost W 0 3) := by
  have IS := Lib.hid (isSize_yes k · hk)
  have HW := Lib.hid hw
  have hk0 : 0 < k := by omega
  have hk4 : k ≤ 4 := by omega
  have t : (((a : Int) % (k : Int)) == 0) = true := by simp; omega
  have t' : (((a : Int) % (k : Int)) != 0) = false := by simp; omega
  clear hk h hw
  go_enter Try.func55, Try.ntmps55
  go_wp2_with fail
  refine (IS.out _).mono ?_
  rintro e w1 ⟨rfl, rfl⟩
  go_wp2_with fail
  refine HW.out.mono ?_
  rintro e w1 ⟨rfl, hl⟩
  go_wp2_with fail
  go_ret2
  exact ⟨rfl, hl⟩
theorem inB_out {base n a k : Nat} (h : inB base n a k = true) : base ≤ a ∧ a + k ≤ base + n := of_decide_eq_true h
theorem load_any {M F R f r : Nat} {Fb Rb : List Nat} {W : World} (h : MemIs M F R f r Fb Rb W) (hb : Banks f Fb.length r Rb.length) (a k : Nat) (ha : a < 4294967296) (hk : k = 1 ∨ k = 2 ∨ k = 4) :
    Calls Try.prog 55 #[.pointer (some ⟨M, 0, none⟩), .int .u32 (a : Nat), .int .i64 (k : Nat)] W (LoadPost W (loadS f Fb.length r Rb.length Fb Rb a k).1 (loadS f Fb.length r Rb.length Fb Rb a k).2) := by
  unfold loadS
  by_cases h0 : a % k = 0
  · rw [if_neg (by omega)]
    have hw := within_any h hb a k ha (by omega) (by omega)
    unfold wSl wIn at hw
    by_cases h1 : inB f Fb.length a k = true
    · rw [if_pos h1]
      rw [if_pos h1, h1] at hw
      have := inB_out h1
      exact load_in M F a k (a - f) _ Fb W ha hk h0 hw h.hF h.fF (by omega)
    · have h1' := Bool.eq_false_iff.2 h1
      rw [if_neg h1]
      rw [if_neg h1, h1'] at hw
      by_cases h2 : inB r Rb.length a k = true
      · rw [if_pos h2]
        rw [if_pos h2, h2] at hw
        have := inB_out h2
        exact load_in M R a k (a - r) _ Rb W ha hk h0 hw h.hR h.fR (by omega)
      · have h2' := Bool.eq_false_iff.2 h2
        rw [if_neg h2]
        rw [if_neg h2, h2'] at hw
        exact load_out M a k W ha hk h0 _ hw
  · rw [if_pos h0]
    exact load_align M a k W ha hk h0
/-- what a store tells -/
def storeS (r n2 a k : Nat) : Int := if a % k ≠ 0 then 1 else if inB r n2 a k then 0 else 4
set_option maxHeartbeats 1000000 in
theorem store_size (M : Nat) (a : Int) (k : Int) (v : Int) (W : World) (hk : k ≠ 1 ∧ k ≠ 2 ∧ k ≠ 4) :
    Calls Try.prog 73 #[.pointer (some ⟨M, 0, none⟩), .int .u32 a, .int .i64 k, .int .u32 v] W fun e w' => e = .returned (.int .i64 4) ∧ LikeG W w' := by
  have IS := Lib.hid (isSize_no k · hk)
  clear hk
  go_enter Try.func73, Try.ntmps73
  go_wp2_with fail
  refine (IS.out _).mono ?_
  rintro e w1 ⟨rfl, rfl⟩
  go_wp2_with fail
  go_ret
  exact ⟨rfl, .refl _⟩
set_option maxHeartbeats 1000000 in
theorem store_align (M : Nat) (a k : Nat) (v : Int) (W : World) (ha : a < 4294967296) (hk : k = 1 ∨ k = 2 ∨ k = 4) (h : a % k ≠ 0) :
    Calls Try.prog 73 #[.pointer (some ⟨M, 0, none⟩), .int .u32 (a : Nat), .int .i64 (k : Nat), .int .u32 v] W fun e w' => e = .returned (.int .i64 1) ∧ LikeG W w' := by
  have IS := Lib.hid (isSize_yes k · hk)
  have hk0 : 0 < k := by omega
  have hk4 : k ≤ 4 := by omega
  have t : (((a : Int) % (k : Int)) == 0) = false := by simp; omega
  have t' : (((a : Int) % (k : Int)) != 0) = true := by simp; omega
  clear hk h
  go_enter Try.func73, Try.ntmps73
  go_wp2_with fail
  refine (IS.out _).mono ?_
  rintro e w1 ⟨rfl, rfl⟩
  go_wp2_with fail
  go_ret
  exact ⟨rfl, .refl _⟩
set_option maxHeartbeats 1000000 in
theorem store_out (M R r n2 : Nat) (a k : Nat) (v : Int) (W : World) (h2 : W.cell? ⟨M, 2, none⟩ = some (.int .u32 (r : Nat))) (h5 : W.cell? ⟨M, 5, none⟩ = some (.slice (some ⟨R, 0, none⟩) n2 n2)) (ha : a < 4294967296) (hk : k = 1 ∨ k = 2 ∨ k = 4) (h : a % k = 0)
    (hp : PartG R n2 r a k (.slice none 0 0) false) :
    Calls Try.prog 73 #[.pointer (some ⟨M, 0, none⟩), .int .u32 (a : Nat), .int .i64 (k : Nat), .int .u32 v] W fun e w' => e = .returned (.int .i64 4) ∧ LikeG W w' := by
  have IS := Lib.hid (isSize_yes k · hk)
  have hk0 : 0 < k := by omega
  have hk4 : k ≤ 4 := by omega
  have t : (((a : Int) % (k : Int)) == 0) = true := by simp; omega
  have t' : (((a : Int) % (k : Int)) != 0) = false := by simp; omega
  have HP := Lib.hid hp
  clear hk h hp
  go_enter Try.func73, Try.ntmps73
  go_wp2_with fail
  refine (IS.out _).mono ?_
  rintro e w1 ⟨rfl, rfl⟩
  go_wp2_with fail
  go_quiet ((go_at_call 88; exact partG_q HP.out))
  rename_i nq
  go_wp2_with fail
  go_ret
  exact ⟨rfl, .drewN _ _⟩
theorem lowB_map1 (v : Nat) : (lowB 1 v).map u8G = [.int .u8 ((v : Int) % 256)] := by
  simp only [lowB, List.map, u8G, Int.natCast_emod] <;> rfl
theorem lowB_map2 (v : Nat) : (lowB 2 v).map u8G = [.int .u8 ((v : Int) % 256), .int .u8 ((v : Int) / 256 % 256)] := by
  simp only [lowB, List.map, u8G, Int.natCast_emod, Int.natCast_ediv] <;> rfl
theorem lowB_map4 (v : Nat) (hv : v < 4294967296) : (lowB 4 v).map u8G = [.int .u8 ((v : Int) % 256), .int .u8 ((v : Int) / 256 % 256), .int .u8 ((v : Int) / 65536 % 256), .int .u8 ((v : Int) / 16777216)] := by
  have e1 : v / 256 / 256 = v / 65536 := Nat.div_div_eq_div_mul _ _ _
  have e2 : v / 65536 / 256 = v / 16777216 := Nat.div_div_eq_div_mul _ _ _
  have e3 : v / 16777216 % 256 = v / 16777216 := by omega
  simp only [lowB, List.map, u8G, e1, e2, e3, Int.natCast_emod, Int.natCast_ediv]; rfl
theorem rowG_set (l : List Nat) (o : Nat) (bs : List Nat) : ((rowG l).toList.take o ++ (bs.map u8G ++ (rowG l).toList.drop (o + (bs.map u8G).length))).toArray = rowG (setB l o bs) := by
  simp [rowG, setB, List.map_take, List.map_drop]
theorem rowG_size (l : List Nat) : (rowG l).size = l.length := by simp [rowG]
theorem u8G_one (l : List Nat) : ∀ v ∈ l.map u8G, v.oneCell' = true := by
  intro v hv
  simp only [List.mem_map] at hv
  obtain ⟨x, _, rfl⟩ := hv
  rfl
theorem src_lit (V : World) (cs : List Value) (t : TypeId) (k : Nat) : ∀ j v, (cs.take k)[j]? = some v → (V.alloc (.cells cs.toArray t)).cell? ((⟨V.heap.size, 0, none⟩ : Addr).add j) = some v := by
  intro j v hj
  have e : (⟨V.heap.size, 0, none⟩ : Addr).add j = ⟨V.heap.size, j, none⟩ := by unfold Addr.add; split <;> simp_all
  rw [e, World.cell?_alloc_new]
  rw [List.getElem?_take] at hj
  split at hj
  · simpa using hj
  · cases hj
theorem out_alloc_set {W V : World} {R : Nat} (h : LikeG W V) (o : Obj) (cs : Array Value) : Out (· = R) W ((V.alloc o).setRow R cs) := by
  refine (h.out _).trans ((Out.of_below (a := V) _ ((Below.refl _ _).alloc (Nat.le_refl _) o)).trans ?_)
  exact ⟨rfl, rfl, rfl, by simp [World.setRow], fun k _ hk => setRow_other _ R k _ (fun e => hk e)⟩
set_option maxRecDepth 100000 in
set_option maxHeartbeats 1000000 in
theorem store_in1 (M R r n2 : Nat) (Rb : List Nat) (a c o : Nat) (v : Nat) (hv : v < 4294967296) (W : World) (h2 : W.cell? ⟨M, 2, none⟩ = some (.int .u32 (r : Nat))) (h5 : W.cell? ⟨M, 5, none⟩ = some (.slice (some ⟨R, 0, none⟩) n2 n2))
    (hR : W.heap[R]? = some (.cells (rowG Rb) 5 (0, 0))) (ho : o + 1 ≤ Rb.length) (ha : a < 4294967296) (h : a % 1 = 0)
    (hp : PartG R n2 r a 1 (.slice (some ⟨R, o, none⟩) 1 c) true) :
    Calls Try.prog 73 #[.pointer (some ⟨M, 0, none⟩), .int .u32 (a : Nat), .int .i64 1, .int .u32 (v : Nat)] W fun e w' => e = .returned (.int .i64 0) ∧ w'.heap[R]? = some (.cells (rowG (setB Rb o (lowB 1 v))) 5 (0, 0)) ∧ Out (· = R) W w' := by
  have IS := Lib.hid (isSize_yes 1 · (by omega))
  have t : (((a : Int) % 1) == 0) = true := by simp
  have t' : (((a : Int) % 1) != 0) = false := by simp
  have HP := Lib.hid hp
  have HR := Lib.hid hR
  have HO := Lib.hid ho
  clear h hp hR ho
  go_enter Try.func73, Try.ntmps73
  go_wp2_with fail
  refine (IS.out _).mono ?_
  rintro e w1 ⟨rfl, rfl⟩
  go_wp2_with fail
  go_quiet ((go_at_call 88; exact partG_q HP.out))
  rename_i nq
  generalize hW : W.drewN nq = V
  have HVR := Lib.hid (show V.heap[R]? = some (.cells (rowG Rb) 5 (0, 0)) by rw [← hW]; exact HR.out)
  have HVG := Lib.hid (show LikeG W V by rw [← hW]; exact .drewN _ _)
  have hRV : R < V.heap.size := (Array.getElem?_eq_some_iff.1 HVR.out).1
  have HVA := Lib.hid (show (V.alloc (.cells #[.int .u8 ((v : Int) % 256), .int .u8 ((v : Int) / 256 % 256), .int .u8 ((v : Int) / 65536 % 256), .int .u8 ((v : Int) / 16777216)] 133)).heap[R]? = some (.cells (rowG Rb) 5 (0, 0)) by rw [heap_alloc_old _ _ hRV]; exact HVR.out)
  have HSRC := Lib.hid (show ∀ j u, ((lowB 1 v).map u8G)[j]? = some u → (V.alloc (.cells #[.int .u8 ((v : Int) % 256), .int .u8 ((v : Int) / 256 % 256), .int .u8 ((v : Int) / 65536 % 256), .int .u8 ((v : Int) / 16777216)] 133)).cell? ((⟨V.heap.size, 0, none⟩ : Addr).add j) = some u by
    rw [lowB_map1]
    exact src_lit V [.int .u8 ((v : Int) % 256), .int .u8 ((v : Int) / 256 % 256), .int .u8 ((v : Int) / 65536 % 256), .int .u8 ((v : Int) / 16777216)] 133 1)
  have HFIT := Lib.hid (show o + ((lowB 1 v).map u8G).length ≤ (rowG Rb).size by rw [rowG_size, List.length_map, lowB_length]; exact HO.out)
  have HLEN := Lib.hid (show ((lowB 1 v).map u8G).length = Nat.min 1 1 by rw [List.length_map, lowB_length]; rfl)
  clear hW h2 h5 HR hRV
  go_wp2_with (with_reducible refine wpList_copy_own rfl (.tmp 53) (.tmp 55) 45 45 rfl 5 Try.underlying45 (by kernel_rfl) R o 1 c ⟨V.heap.size, 0, none⟩ 1 4 rfl rfl (rowG Rb) 5 HVA.out ((lowB 1 v).map u8G) HLEN.out HSRC.out HFIT.out (u8G_one _) ?_)
  go_ret
  refine ⟨rfl, ?_, out_alloc_set HVG.out _ _⟩
  rw [← rowG_set]
  exact setRow_heap _ R _ _ _ _ HVA.out
set_option maxRecDepth 100000 in
set_option maxHeartbeats 1000000 in
theorem store_in2 (M R r n2 : Nat) (Rb : List Nat) (a c o : Nat) (v : Nat) (hv : v < 4294967296) (W : World) (h2 : W.cell? ⟨M, 2, none⟩ = some (.int .u32 (r : Nat))) (h5 : W.cell? ⟨M, 5, none⟩ = some (.slice (some ⟨R, 0, none⟩) n2 n2))
    (hR : W.heap[R]? = some (.cells (rowG Rb) 5 (0, 0))) (ho : o + 2 ≤ Rb.length) (ha : a < 4294967296) (h : a % 2 = 0)
    (hp : PartG R n2 r a 2 (.slice (some ⟨R, o, none⟩) 2 c) true) :
    Calls Try.prog 73 #[.pointer (some ⟨M, 0, none⟩), .int .u32 (a : Nat), .int .i64 2, .int .u32 (v : Nat)] W fun e w' => e = .returned (.int .i64 0) ∧ w'.heap[R]? = some (.cells (rowG (setB Rb o (lowB 2 v))) 5 (0, 0)) ∧ Out (· = R) W w' := by
  have IS := Lib.hid (isSize_yes 2 · (by omega))
  have t : (((a : Int) % 2) == 0) = true := by simp; omega
  have t' : (((a : Int) % 2) != 0) = false := by simp; omega
  have HP := Lib.hid hp
  have HR := Lib.hid hR
  have HO := Lib.hid ho
  clear h hp hR ho
  go_enter Try.func73, Try.ntmps73
  go_wp2_with fail
  refine (IS.out _).mono ?_
  rintro e w1 ⟨rfl, rfl⟩
  go_wp2_with fail
  go_quiet ((go_at_call 88; exact partG_q HP.out))
  rename_i nq
  generalize hW : W.drewN nq = V
  have HVR := Lib.hid (show V.heap[R]? = some (.cells (rowG Rb) 5 (0, 0)) by rw [← hW]; exact HR.out)
  have HVG := Lib.hid (show LikeG W V by rw [← hW]; exact .drewN _ _)
  have hRV : R < V.heap.size := (Array.getElem?_eq_some_iff.1 HVR.out).1
  have HVA := Lib.hid (show (V.alloc (.cells #[.int .u8 ((v : Int) % 256), .int .u8 ((v : Int) / 256 % 256), .int .u8 ((v : Int) / 65536 % 256), .int .u8 ((v : Int) / 16777216)] 133)).heap[R]? = some (.cells (rowG Rb) 5 (0, 0)) by rw [heap_alloc_old _ _ hRV]; exact HVR.out)
  have HSRC := Lib.hid (show ∀ j u, ((lowB 2 v).map u8G)[j]? = some u → (V.alloc (.cells #[.int .u8 ((v : Int) % 256), .int .u8 ((v : Int) / 256 % 256), .int .u8 ((v : Int) / 65536 % 256), .int .u8 ((v : Int) / 16777216)] 133)).cell? ((⟨V.heap.size, 0, none⟩ : Addr).add j) = some u by
    rw [lowB_map2]
    exact src_lit V [.int .u8 ((v : Int) % 256), .int .u8 ((v : Int) / 256 % 256), .int .u8 ((v : Int) / 65536 % 256), .int .u8 ((v : Int) / 16777216)] 133 2)
  have HFIT := Lib.hid (show o + ((lowB 2 v).map u8G).length ≤ (rowG Rb).size by rw [rowG_size, List.length_map, lowB_length]; exact HO.out)
  have HLEN := Lib.hid (show ((lowB 2 v).map u8G).length = Nat.min 2 2 by rw [List.length_map, lowB_length]; rfl)
  clear hW h2 h5 HR hRV
  go_wp2_with (with_reducible refine wpList_copy_own rfl (.tmp 53) (.tmp 55) 45 45 rfl 5 Try.underlying45 (by kernel_rfl) R o 2 c ⟨V.heap.size, 0, none⟩ 2 4 rfl rfl (rowG Rb) 5 HVA.out ((lowB 2 v).map u8G) HLEN.out HSRC.out HFIT.out (u8G_one _) ?_)
  go_ret
  refine ⟨rfl, ?_, out_alloc_set HVG.out _ _⟩
  rw [← rowG_set]
  exact setRow_heap _ R _ _ _ _ HVA.out
set_option maxRecDepth 100000 in
set_option maxHeartbeats 1000000 in
theorem store_in4 (M R r n2 : Nat) (Rb : List Nat) (a c o : Nat) (v : Nat) (hv : v < 4294967296) (W : World) (h2 : W.cell? ⟨M, 2, none⟩ = some (.int .u32 (r : Nat))) (h5 : W.cell? ⟨M, 5, none⟩ = some (.slice (some ⟨R, 0, none⟩) n2 n2))
    (hR : W.heap[R]? = some (.cells (rowG Rb) 5 (0, 0))) (ho : o + 4 ≤ Rb.length) (ha : a < 4294967296) (h : a % 4 = 0)
    (hp : PartG R n2 r a 4 (.slice (some ⟨R, o, none⟩) 4 c) true) :
    Calls Try.prog 73 #[.pointer (some ⟨M, 0, none⟩), .int .u32 (a : Nat), .int .i64 4, .int .u32 (v : Nat)] W fun e w' => e = .returned (.int .i64 0) ∧ w'.heap[R]? = some (.cells (rowG (setB Rb o (lowB 4 v))) 5 (0, 0)) ∧ Out (· = R) W w' := by
  have IS := Lib.hid (isSize_yes 4 · (by omega))
  have t : (((a : Int) % 4) == 0) = true := by simp; omega
  have t' : (((a : Int) % 4) != 0) = false := by simp; omega
  have HP := Lib.hid hp
  have HR := Lib.hid hR
  have HO := Lib.hid ho
  clear h hp hR ho
  go_enter Try.func73, Try.ntmps73
  go_wp2_with fail
  refine (IS.out _).mono ?_
  rintro e w1 ⟨rfl, rfl⟩
  go_wp2_with fail
  go_quiet ((go_at_call 88; exact partG_q HP.out))
  rename_i nq
  generalize hW : W.drewN nq = V
  have HVR := Lib.hid (show V.heap[R]? = some (.cells (rowG Rb) 5 (0, 0)) by rw [← hW]; exact HR.out)
  have HVG := Lib.hid (show LikeG W V by rw [← hW]; exact .drewN _ _)
  have hRV : R < V.heap.size := (Array.getElem?_eq_some_iff.1 HVR.out).1
  have HVA := Lib.hid (show (V.alloc (.cells #[.int .u8 ((v : Int) % 256), .int .u8 ((v : Int) / 256 % 256), .int .u8 ((v : Int) / 65536 % 256), .int .u8 ((v : Int) / 16777216)] 133)).heap[R]? = some (.cells (rowG Rb) 5 (0, 0)) by rw [heap_alloc_old _ _ hRV]; exact HVR.out)
  have HSRC := Lib.hid (show ∀ j u, ((lowB 4 v).map u8G)[j]? = some u → (V.alloc (.cells #[.int .u8 ((v : Int) % 256), .int .u8 ((v : Int) / 256 % 256), .int .u8 ((v : Int) / 65536 % 256), .int .u8 ((v : Int) / 16777216)] 133)).cell? ((⟨V.heap.size, 0, none⟩ : Addr).add j) = some u by
    rw [lowB_map4 v hv]
    exact src_lit V [.int .u8 ((v : Int) % 256), .int .u8 ((v : Int) / 256 % 256), .int .u8 ((v : Int) / 65536 % 256), .int .u8 ((v : Int) / 16777216)] 133 4)
  have HFIT := Lib.hid (show o + ((lowB 4 v).map u8G).length ≤ (rowG Rb).size by rw [rowG_size, List.length_map, lowB_length]; exact HO.out)
  have HLEN := Lib.hid (show ((lowB 4 v).map u8G).length = Nat.min 4 4 by rw [List.length_map, lowB_length]; rfl)
  clear hW h2 h5 HR hRV
  go_wp2_with (with_reducible refine wpList_copy_own rfl (.tmp 53) (.tmp 55) 45 45 rfl 5 Try.underlying45 (by kernel_rfl) R o 4 c ⟨V.heap.size, 0, none⟩ 4 4 rfl rfl (rowG Rb) 5 HVA.out ((lowB 4 v).map u8G) HLEN.out HSRC.out HFIT.out (u8G_one _) ?_)
  go_ret
  refine ⟨rfl, ?_, out_alloc_set HVG.out _ _⟩
  rw [← rowG_set]
  exact setRow_heap _ R _ _ _ _ HVA.out
theorem store_in (M R r n2 : Nat) (Rb : List Nat) (a k c o : Nat) (v : Nat) (hv : v < 4294967296) (W : World) (h2 : W.cell? ⟨M, 2, none⟩ = some (.int .u32 (r : Nat))) (h5 : W.cell? ⟨M, 5, none⟩ = some (.slice (some ⟨R, 0, none⟩) n2 n2))
    (hR : W.heap[R]? = some (.cells (rowG Rb) 5 (0, 0))) (ho : o + k ≤ Rb.length) (ha : a < 4294967296) (hk : k = 1 ∨ k = 2 ∨ k = 4) (h : a % k = 0)
    (hp : PartG R n2 r a k (.slice (some ⟨R, o, none⟩) k c) true) :
    Calls Try.prog 73 #[.pointer (some ⟨M, 0, none⟩), .int .u32 (a : Nat), .int .i64 (k : Nat), .int .u32 (v : Nat)] W fun e w' => e = .returned (.int .i64 0) ∧ w'.heap[R]? = some (.cells (rowG (setB Rb o (lowB k v))) 5 (0, 0)) ∧ Out (· = R) W w' := by
  rcases hk with rfl | rfl | rfl
  · exact store_in1 M R r n2 Rb a c o v hv W h2 h5 hR ho ha h hp
  · exact store_in2 M R r n2 Rb a c o v hv W h2 h5 hR ho ha h hp
  · exact store_in4 M R r n2 Rb a c o v hv W h2 h5 hR ho ha h hp
/-- the bytes of RAM behind a store -/
def ramS (r n2 : Nat) (Rb : List Nat) (a k v : Nat) : List Nat := if storeS r n2 a k = 0 then setB Rb (a - r) (lowB k v) else Rb
theorem MemIs.out {M F R f r : Nat} {Fb Rb : List Nat} {S : Nat → Prop} {W W' : World} (h : MemIs M F R f r Fb Rb W) (ho : Out S W W') (hM : ¬ S M) (hF : ¬ S F) (hR : ¬ S R) : MemIs M F R f r Fb Rb W' :=
  { c0 := (ho.cell (p := ⟨M, 0, none⟩) (World.block_lt_of_cell? W _ h.c0) hM).trans h.c0, c2 := (ho.cell (p := ⟨M, 2, none⟩) (World.block_lt_of_cell? W _ h.c2) hM).trans h.c2
    c4 := (ho.cell (p := ⟨M, 4, none⟩) (World.block_lt_of_cell? W _ h.c4) hM).trans h.c4, c5 := (ho.cell (p := ⟨M, 5, none⟩) (World.block_lt_of_cell? W _ h.c5) hM).trans h.c5
    hF := (ho.block F (Array.getElem?_eq_some_iff.1 h.hF).1 hF).trans h.hF, hR := (ho.block R (Array.getElem?_eq_some_iff.1 h.hR).1 hR).trans h.hR, fF := h.fF, fR := h.fR, mF := h.mF, mR := h.mR, fr := h.fr }
theorem MemIs.stored {M F R f r : Nat} {Fb Rb Rb' : List Nat} {W W' : World} (h : MemIs M F R f r Fb Rb W) (ho : Out (· = R) W W') (hR : W'.heap[R]? = some (.cells (rowG Rb') 5 (0, 0))) (hl : Rb'.length = Rb.length) (fR : ∀ x ∈ Rb', x < 256) : MemIs M F R f r Fb Rb' W' :=
  { c0 := (ho.cell (p := ⟨M, 0, none⟩) (World.block_lt_of_cell? W _ h.c0) h.mR).trans h.c0, c2 := (ho.cell (p := ⟨M, 2, none⟩) (World.block_lt_of_cell? W _ h.c2) h.mR).trans h.c2
    c4 := (ho.cell (p := ⟨M, 4, none⟩) (World.block_lt_of_cell? W _ h.c4) h.mR).trans h.c4, c5 := by rw [hl]; exact (ho.cell (p := ⟨M, 5, none⟩) (World.block_lt_of_cell? W _ h.c5) h.mR).trans h.c5
    hF := (ho.block F (Array.getElem?_eq_some_iff.1 h.hF).1 h.fr).trans h.hF, hR := hR, fF := h.fF, fR := fR, mF := h.mF, mR := h.mR, fr := h.fr }
theorem store_any {M F R f r : Nat} {Fb Rb : List Nat} {W : World} (h : MemIs M F R f r Fb Rb W) (hb : Banks f Fb.length r Rb.length) (a k v : Nat) (ha : a < 4294967296) (hk : k = 1 ∨ k = 2 ∨ k = 4) (hv : v < 4294967296) :
    Calls Try.prog 73 #[.pointer (some ⟨M, 0, none⟩), .int .u32 (a : Nat), .int .i64 (k : Nat), .int .u32 (v : Nat)] W fun e w' => e = .returned (.int .i64 (storeS r Rb.length a k)) ∧ MemIs M F R f r Fb (ramS r Rb.length Rb a k v) w' ∧ Out (· = R) W w' := by
  have q1 := hb.b; have q2 := hb.d
  unfold ramS
  by_cases h0 : a % k = 0
  · by_cases h1 : inB r Rb.length a k = true
    · have e : storeS r Rb.length a k = 0 := by unfold storeS; rw [if_neg (by omega), if_pos h1]
      rw [e, if_pos rfl]
      have := inB_out h1
      refine (store_in M R r _ Rb a k _ (a - r) v hv W h.c2 h.c5 h.hR (by omega) ha hk h0 (partG_in (by omega) h1 ha (by omega))).mono ?_
      rintro e w' ⟨rfl, k1, k2⟩
      exact ⟨rfl, h.stored k2 k1 (setB_length _ _ _ (by rw [lowB_length]; omega)) (setB_all h.fR (lowB_lt k v)), k2⟩
    · have h1' := Bool.eq_false_iff.2 h1
      have e : storeS r Rb.length a k = 4 := by unfold storeS; rw [if_neg (by omega), if_neg h1]
      rw [e, if_neg (by decide)]
      refine (store_out M R r _ a k v W h.c2 h.c5 ha hk h0 (partG_out (by omega) h1' ha (by omega) (by omega) (by omega))).mono ?_
      rintro e w' ⟨rfl, k2⟩
      exact ⟨rfl, h.like k2, k2.out _⟩
  · have e : storeS r Rb.length a k = 1 := by unfold storeS; rw [if_pos h0]
    rw [e, if_neg (by decide)]
    refine (store_align M a k v W ha hk h0).mono ?_
    rintro e w' ⟨rfl, k2⟩
    exact ⟨rfl, h.like k2, k2.out _⟩
end Go.Proofs.Ytghclbeoabkgcaa

namespace Go.Proofs.Ytghclbeoabkgcaa
open Go Go.RowKit
set_option linter.unusedVariables false

def cellsB : List (Nat × Nat) → List Value
  | [] => []
  | x :: l => .int .u32 (x.1 : Int) :: .int .u8 (x.2 : Int) :: cellsB l
theorem cellsB_len (l : List (Nat × Nat)) : (cellsB l).length = l.length * 2 := by
  induction l with
  | nil => rfl
  | cons x l ih => simp [cellsB, ih]; omega
theorem cellsB_append (l m : List (Nat × Nat)) : cellsB (l ++ m) = cellsB l ++ cellsB m := by
  induction l with
  | nil => rfl
  | cons x l ih => simp [cellsB, ih]
theorem cellsB_get {l : List (Nat × Nat)} {i : Nat} {x : Nat × Nat} (h : l[i]? = some x) : (cellsB l)[i * 2]? = some (.int .u32 (x.1 : Int)) ∧ (cellsB l)[i * 2 + 1]? = some (.int .u8 (x.2 : Int)) := by
  induction l generalizing i with
  | nil => simp at h
  | cons y l ih =>
    cases i with
    | zero => simp at h; subst h; simp [cellsB]
    | succ i =>
      simp at h
      obtain ⟨h1, h2⟩ := ih h
      rw [show (i + 1) * 2 = i * 2 + 1 + 1 by omega]
      simp [cellsB, h1, h2]
/-- bytes and addresses are such -/
def LogOk (L : List (Nat × Nat)) : Prop := ∀ x ∈ L, x.1 < 4294967296 ∧ x.2 < 256
theorem atL_lt {L : List (Nat × Nat)} (h : LogOk L) (a : Nat) : atL L a < 256 := by
  have key : ∀ (l : List (Nat × Nat)) (v : Nat), v < 256 → (∀ x ∈ l, x.2 < 256) → l.foldl (fun v x => if x.1 = a then x.2 else v) v < 256 := by
    intro l
    induction l with
    | nil => intro v hv _; exact hv
    | cons y l ih =>
      intro v hv hl
      refine ih _ ?_ fun x hx => hl x (by simp [hx])
      show (if y.1 = a then y.2 else v) < 256
      split
      · exact hl y (by simp)
      · exact hv
  exact key L 0 (by omega) fun x hx => (h x hx).2
theorem atL_take {L : List (Nat × Nat)} {m : Nat} {x : Nat × Nat} (h : L[m]? = some x) (a : Nat) : atL (L.take (m + 1)) a = if x.1 = a then x.2 else atL (L.take m) a := by
  rw [List.take_add_one, h]
  exact atL_snoc _ _ _

/-- where the document's memory may change -/
def RS (X : Nat) (v : Value) (j : Nat) : Prop := j = X ∨ v.ownBlock = some j
/-- the row is the elder one, or new -/
def Fresh (v v' : Value) (W : World) : Prop := ∀ j, v'.ownBlock = some j → v.ownBlock = some j ∨ W.heap.size ≤ j
theorem Fresh.refl (v : Value) (W : World) : Fresh v v W := fun _ h => .inl h
theorem Fresh.trans {v v' v'' : Value} {W a : World} (h : Fresh v v' W) (k : Fresh v' v'' a) (hs : W.heap.size ≤ a.heap.size) : Fresh v v'' W := fun j hj => by
  rcases k j hj with g | g
  · exact h j g
  · exact .inr (Nat.le_trans hs g)
theorem Out.chain {X : Nat} {v v' : Value} {W a b : World} (h : Out (RS X v) W a) (hf : Fresh v v' W) (k : Out (RS X v') a b) : Out (RS X v) W b :=
  ⟨k.os.trans h.os, k.tape.trans h.tape, k.output.trans h.output, Nat.le_trans h.size k.size, fun j hj hs => (k.block j (Nat.lt_of_lt_of_le hj h.size) fun g => by
    rcases g with g | g
    · exact hs (.inl g)
    · rcases hf j g with e | e
      · exact hs (.inr e)
      · omega).trans (h.block j hj hs)⟩
/-- a memory of the document -/
structure RefIs (X B f n1 r n2 : Nat) (L : List (Nat × Nat)) (v : Value) (W : World) : Prop where
  c0 : W.cell? ⟨X, 0, none⟩ = some (.int .u32 (f : Nat))
  c1 : W.cell? ⟨X, 1, none⟩ = some (.int .u32 (n1 : Nat))
  c2 : W.cell? ⟨X, 2, none⟩ = some (.int .u32 (r : Nat))
  c3 : W.cell? ⟨X, 3, none⟩ = some (.int .u32 (n2 : Nat))
  c4 : W.cell? ⟨X, 4, none⟩ = some v
  fz : W.frozen? ⟨X, 4, none⟩ = false
  own : W.ownsRow B 124 2 v L.length (cellsB L)
  ok : LogOk L
  hx : v.ownBlock ≠ some X
  lt : X < W.heap.size
  bs : B ≤ W.heap.size
  small : L.length ≤ 1000000
theorem RefIs.like {X B f n1 r n2 : Nat} {L : List (Nat × Nat)} {v : Value} {W W' : World} (h : RefIs X B f n1 r n2 L v W) (hl : LikeG W W') : RefIs X B f n1 r n2 L v W' :=
  { c0 := (hl.cell _).trans h.c0, c1 := (hl.cell _).trans h.c1, c2 := (hl.cell _).trans h.c2, c3 := (hl.cell _).trans h.c3, c4 := (hl.cell _).trans h.c4
    fz := by have := h.fz; unfold World.frozen? at *; rw [hl.1]; exact this
    own := hl.row (x := 0) h.own, ok := h.ok, hx := h.hx, lt := by rw [hl.1]; exact h.lt, bs := by rw [hl.1]; exact h.bs, small := h.small }
theorem ret_u8G {a b : Int} (h : a = b) : Ending.returned (.int .u8 a) = .returned (.int .u8 b) := by rw [h]
set_option maxHeartbeats 1000000 in
theorem at_any {X B f n1 r n2 : Nat} {L : List (Nat × Nat)} {v : Value} {W : World} (h : RefIs X B f n1 r n2 L v W) (a : Nat) (ha : a < 4294967296) :
    Calls Try.prog 56 #[.pointer (some ⟨X, 0, none⟩), .int .u32 (a : Nat)] W fun e w' => e = .returned (.int .u8 (atL L a : Nat)) ∧ W = w' := by
  have c4 := h.c4
  have own := h.own
  have hsm := h.small
  have OK := Lib.hid h.ok
  obtain ⟨hlen, hv⟩ := own
  rcases hv with ⟨rfl, h0⟩ | ⟨g, cap, cur, rfl, hB, hg, hnc, hcm, hcs, htk⟩
  · have : L = [] := List.eq_nil_of_length_eq_zero h0
    subst this
    clear h hlen h0 hsm OK
    go_enter Try.func56, Try.ntmps56
    go_wp2
    go_rounds 1
    go_ret
    exact ⟨rfl, rfl⟩
  · have CL := Lib.hid (show ∀ j u, (cellsB L)[j]? = some u → W.cell? ⟨g, j, none⟩ = some u from fun j u hj => by
      rw [cell_of_row W g j _ _ _ hg]
      rw [← htk, List.getElem?_take] at hj
      split at hj
      · simpa using hj
      · cases hj)
    clear h hlen hB hg hcs htk
    unfold maxLen at hcm
    go_enter Try.func56, Try.ntmps56
    go_wp2
    go_loop [5] (fun i => ∃ j : Nat, j ≤ L.length ∧ i = .int .i64 ((j : Int) - 1) ∧ atL L a = atL (L.take j) a) (fun i => (intOf i + 1).toNat)
    case atStart => exact ⟨L.length, Nat.le_refl _, rfl, by rw [List.take_length]⟩
    case round =>
      obtain ⟨j, hj, rfl, he⟩ := hrel
      have HE := Lib.hid he
      clear he
      rcases Nat.eq_zero_or_pos j with h0 | h0
      · subst h0
        go_wp2
        go_ret
        exact ⟨ret_u8G (by rw [HE.out]; rfl), rfl⟩
      · obtain ⟨m, rfl⟩ : ∃ m, j = m + 1 := ⟨j - 1, by omega⟩
        obtain ⟨x, hx⟩ : ∃ x, L[m]? = some x := ⟨L[m], List.getElem?_eq_getElem (by omega)⟩
        obtain ⟨g1, g2⟩ := cellsB_get hx
        have d1 := CL.out _ _ g1
        have d2 := CL.out _ _ g2
        have AT := Lib.hid (atL_take hx a)
        obtain ⟨x1, x2⟩ := x
        have hb := OK.out _ (List.mem_of_getElem? hx)
        simp only at hb d1 d2
        clear g1 g2 hx
        have em : (((m + 1 : Nat) : Int) - 1) = (m : Int) := by omega
        rw [em]
        clear em
        by_cases hxa : x1 = a
        · have t : ((x1 : Int) == (a : Int)) = true := by simp; omega
          have E := Lib.hid (show atL L a = x2 by rw [HE.out, AT.out]; simp [hxa])
          clear hxa
          go_wp2
          go_ret
          exact ⟨ret_u8G (by rw [E.out]), rfl⟩
        · have t : ((x1 : Int) == (a : Int)) = false := by simp; omega
          have E := Lib.hid (show atL L a = atL (L.take m) a by rw [HE.out, AT.out]; simp [hxa])
          clear hxa
          go_wp2
          go_round
          case rel => exact ⟨m, by omega, rfl, E.out⟩
          case measure => first | (simp [intOf]; done) | (simp [intOf]; omega)

theorem ret_boolG {a b : Bool} (h : a = b) : Ending.returned (.bool a) = .returned (.bool b) := by rw [h]
/-- what lies where -/
theorem in_any (f n a k : Nat) (W : World) (hf : f < 4294967296) (hn : n < 4294967296) (ha : a < 4294967296) (hk : k < 9223372036854775808) :
    Calls Try.prog 107 #[.int .u32 (f : Nat), .int .u32 (n : Nat), .int .u32 (a : Nat), .int .i64 (k : Nat)] W fun e w' => e = .returned (.bool (inB f n a k)) ∧ W = w' := by
  by_cases h1 : f ≤ a
  · have t1 : decide (f ≤ a) = true := by simp; omega
    by_cases h2 : a + k ≤ f + n
    · have t2 : decide ((k : Int) ≤ (f : Int) + (n : Int) - (a : Int)) = true := by simp; omega
      have E : inB f n a k = true := decide_eq_true (by omega)
      rw [E]
      clear E h1 h2
      go_enter Try.func107, Try.ntmps107
      go_wp2
      all_goals go_ret
      all_goals first | exact ⟨rfl, rfl⟩ | exact ⟨ret_boolG t2, rfl⟩
    · have t2 : decide ((k : Int) ≤ (f : Int) + (n : Int) - (a : Int)) = false := by simp; omega
      have E : inB f n a k = false := decide_eq_false (by omega)
      rw [E]
      clear E h1 h2
      go_enter Try.func107, Try.ntmps107
      go_wp2
      all_goals go_ret
      all_goals first | exact ⟨rfl, rfl⟩ | exact ⟨ret_boolG t2, rfl⟩
  · have t1 : decide (f ≤ a) = false := by simp; omega
    have E : inB f n a k = false := decide_eq_false (by omega)
    rw [E]
    clear E h1
    go_enter Try.func107, Try.ntmps107
    go_wp2
    all_goals go_ret
    all_goals exact ⟨rfl, rfl⟩
def InG (f n a k : Nat) (b : Bool) : Prop := ∀ W, Calls Try.prog 107 #[.int .u32 (f : Nat), .int .u32 (n : Nat), .int .u32 (a : Nat), .int .i64 (k : Nat)] W fun e w' => e = .returned (.bool b) ∧ W = w'
theorem inG_q {f n a k : Nat} {b : Bool} (h : InG f n a k b) (w : World) (m : Nat) :
    Calls Try.prog 107 #[.int .u32 (f : Nat), .int .u32 (n : Nat), .int .u32 (a : Nat), .int .i64 (k : Nat)] (w.drewN m) fun e w' => e = .returned (.bool b) ∧ ∃ j, w' = w.drewN j :=
  (h _).mono fun e w' ⟨he, hm⟩ => ⟨he, m, hm.symm⟩
def BoolPost (W : World) (b : Bool) (e : Ending) (w' : World) : Prop := e = .returned (.bool b) ∧ LikeG W w'
theorem rflash_any {X B f n1 r n2 : Nat} {L : List (Nat × Nat)} {v : Value} {W : World} (h : RefIs X B f n1 r n2 L v W) (hf : f < 4294967296) (hn : n1 < 4294967296) (a k : Nat) (ha : a < 4294967296) (hk : k < 9223372036854775808) :
    Calls Try.prog 94 #[.pointer (some ⟨X, 0, none⟩), .int .u32 (a : Nat), .int .i64 (k : Nat)] W (BoolPost W (inB f n1 a k)) := by
  have c0 := h.c0
  have c1 := h.c1
  have HI := Lib.hid (show InG f n1 a k (inB f n1 a k) from fun W => in_any f n1 a k W hf hn ha hk)
  generalize inB f n1 a k = b at *
  clear h
  go_enter Try.func94, Try.ntmps94
  go_wp2
  go_quiet ((go_at_call 107; exact inG_q HI.out _ _))
  rename_i nq
  go_wp2
  go_ret
  exact ⟨rfl, .drewN _ _⟩
theorem rram_any {X B f n1 r n2 : Nat} {L : List (Nat × Nat)} {v : Value} {W : World} (h : RefIs X B f n1 r n2 L v W) (hf : r < 4294967296) (hn : n2 < 4294967296) (a k : Nat) (ha : a < 4294967296) (hk : k < 9223372036854775808) :
    Calls Try.prog 95 #[.pointer (some ⟨X, 0, none⟩), .int .u32 (a : Nat), .int .i64 (k : Nat)] W (BoolPost W (inB r n2 a k)) := by
  have c2 := h.c2
  have c3 := h.c3
  have HI := Lib.hid (show InG r n2 a k (inB r n2 a k) from fun W => in_any r n2 a k W hf hn ha hk)
  generalize inB r n2 a k = b at *
  clear h
  go_enter Try.func95, Try.ntmps95
  go_wp2
  go_quiet ((go_at_call 107; exact inG_q HI.out _ _))
  rename_i nq
  go_wp2
  go_ret
  exact ⟨rfl, .drewN _ _⟩
theorem has_any {X B f n1 r n2 : Nat} {L : List (Nat × Nat)} {v : Value} {W : World} (h : RefIs X B f n1 r n2 L v W) (hb : Banks f n1 r n2) (a k : Nat) (ha : a < 4294967296) (hk : k < 9223372036854775808) :
    Calls Try.prog 79 #[.pointer (some ⟨X, 0, none⟩), .int .u32 (a : Nat), .int .i64 (k : Nat)] W (BoolPost W (wIn f n1 r n2 a k)) := by
  have q1 := hb.a; have q2 := hb.b; have q3 := hb.c; have q4 := hb.d
  have HF := Lib.hid (rflash_any h (by omega) (by omega) a k ha hk)
  have HR := Lib.hid (fun W' (hl : LikeG W W') => rram_any (h.like hl) (by omega) (by omega) a k ha hk)
  have E := Lib.hid (show wIn f n1 r n2 a k = (inB f n1 a k || inB r n2 a k) from rfl)
  generalize wIn f n1 r n2 a k = c at *
  generalize inB f n1 a k = b1 at *
  generalize inB r n2 a k = b2 at *
  clear h hb
  cases b1
  · go_enter Try.func79, Try.ntmps79
    go_wp2_with fail
    refine HF.out.mono ?_
    rintro e w1 ⟨rfl, hl⟩
    go_wp2_with fail
    refine (HR.out _ hl).mono ?_
    rintro e w2 ⟨rfl, hl2⟩
    go_wp2_with fail
    go_ret
    exact ⟨by rw [E.out]; rfl, hl.trans hl2⟩
  · go_enter Try.func79, Try.ntmps79
    go_wp2_with fail
    refine HF.out.mono ?_
    rintro e w1 ⟨rfl, hl⟩
    go_wp2_with fail
    go_ret
    exact ⟨by rw [E.out]; rfl, hl⟩
theorem wordL_lt {L : List (Nat × Nat)} (h : LogOk L) (a n : Nat) : wordL L a n < 256 ^ n := by
  induction n generalizing a with
  | zero => simp [wordL]
  | succ n ih =>
    have := ih (a + 1)
    have := atL_lt h a
    simp only [wordL, Nat.pow_succ]
    omega
set_option maxHeartbeats 1000000 in
theorem word_any {X B f n1 r n2 : Nat} {L : List (Nat × Nat)} {v : Value} {W : World} (h : RefIs X B f n1 r n2 L v W) (a k : Nat) (hk : k ≤ 4) (ha : a + k ≤ 4294967296) (ha2 : a < 4294967296) :
    Calls Try.prog 108 #[.pointer (some ⟨X, 0, none⟩), .int .u32 (a : Nat), .int .i64 (k : Nat)] W fun e w' => e = .returned (.int .u32 (wordL L a k : Nat)) ∧ W = w' := by
  have AT := Lib.hid (fun b (hb : b < 4294967296) => at_any h b hb)
  have OK := Lib.hid h.ok
  clear h
  go_enter Try.func108, Try.ntmps108
  go_wp2_with fail
  go_loop [7, 8] (fun x i => ∃ j : Nat, j ≤ k ∧ i = .int .i64 ((j : Int) - 1) ∧ x = .int .u32 (wordL L (a + j) (k - j) : Nat)) (fun _ i => (intOf i + 1).toNat)
  case atStart => exact ⟨k, Nat.le_refl _, rfl, by rw [Nat.sub_self]; rfl⟩
  case round =>
    obtain ⟨j, hj, rfl, rfl⟩ := hrel
    rcases Nat.eq_zero_or_pos j with h0 | h0
    · subst h0
      go_wp2_with fail
      go_ret
      exact ⟨rfl, rfl⟩
    · obtain ⟨m, rfl⟩ : ∃ m, j = m + 1 := ⟨j - 1, by omega⟩
      have em : (((m + 1 : Nat) : Int) - 1) = (m : Int) := by omega
      rw [em]
      clear em
      have hlt := wordL_lt OK.out (a + (m + 1)) (k - (m + 1))
      have hlt2 : (256 : Nat) ^ (k - (m + 1)) ≤ 256 ^ 3 := Nat.pow_le_pow_right (by decide) (by omega)
      have hlt3 := Nat.lt_of_lt_of_le hlt hlt2
      have E := Lib.hid (show wordL L (a + m) (k - m) = atL L (a + m) + 256 * wordL L (a + (m + 1)) (k - (m + 1)) by
        rw [show k - m = (k - (m + 1)) + 1 by omega]; rfl)
      have hb := atL_lt OK.out (a + m)
      have am := AT.out (a + m) (by omega)
      rw [Int.natCast_add] at am
      have AM := Lib.hid am
      clear am
      generalize wordL L (a + (m + 1)) (k - (m + 1)) = y at *
      generalize atL L (a + m) = z at *
      clear hlt hlt2
      have hy : y < 16777216 := hlt3
      clear hlt3
      go_wp2_with fail
      refine AM.out.mono ?_
      rintro e w1 ⟨rfl, rfl⟩
      go_wp2_with fail
      go_round
      case rel => exact ⟨m, by omega, rfl, by rw [E.out]; go_num⟩
      case measure => first | (simp [intOf]; done) | (simp [intOf]; omega)
end Go.Proofs.Ytghclbeoabkgcaa

namespace Go.Proofs.Ytghclbeoabkgcaa
open Go Go.RowKit
set_option linter.unusedVariables false

/-- what the document's load tells -/
def loadR (f n1 r n2 : Nat) (L : List (Nat × Nat)) (a k : Nat) : Nat × Int := if a % k ≠ 0 then (0, 1) else if wIn f n1 r n2 a k then (wordL L a k, 0) else (0, 3)
def fetchR (f n1 r n2 : Nat) (L : List (Nat × Nat)) (a : Nat) : Nat × Int := if a % 4 ≠ 0 then (0, 1) else if wIn f n1 r n2 a 4 then (wordL L a 4, 0) else (0, 2)
theorem wIn_bd {f n1 r n2 a k : Nat} (hb : Banks f n1 r n2) (h : wIn f n1 r n2 a k = true) : a + k ≤ 4294967296 := by
  have := hb.a; have := hb.b
  unfold wIn inB at h
  simp only [Bool.or_eq_true, decide_eq_true_eq] at h
  omega
/-- both banks' bytes -/
theorem load_same {f r : Nat} {Fb Rb : List Nat} {L : List (Nat × Nat)} (h : Agree f r Fb Rb L) (a k : Nat) : loadR f Fb.length r Rb.length L a k = loadS f Fb.length r Rb.length Fb Rb a k := by
  unfold loadR loadS wIn
  by_cases h0 : a % k = 0
  · simp only [h0, ne_eq, not_true_eq_false, if_false]
    by_cases h1 : inB f Fb.length a k = true
    · have := inB_out h1
      simp only [h1, Bool.true_or, if_true]
      have := word_of (a := f) (o := a - f) k h.1 (by omega)
      rw [show f + (a - f) = a by omega] at this
      rw [this]; rfl
    · by_cases h2 : inB r Rb.length a k = true
      · have := inB_out h2
        simp only [h1, h2, Bool.or_true, if_true, Bool.false_eq_true, if_false]
        have := word_of (a := r) (o := a - r) k h.2 (by omega)
        rw [show r + (a - r) = a by omega] at this
        rw [this]; rfl
      · simp only [h1, h2, Bool.or_self, Bool.false_eq_true, if_false]
  · simp only [h0, ne_eq, not_false_eq_true, if_true]
theorem fetch_same {f r : Nat} {Fb Rb : List Nat} {L : List (Nat × Nat)} (h : Agree f r Fb Rb L) (a : Nat) : fetchR f Fb.length r Rb.length L a = fetchS f Fb.length r Rb.length Fb Rb a := by
  unfold fetchR fetchS wIn
  by_cases h0 : a % 4 = 0
  · simp only [h0, ne_eq, not_true_eq_false, if_false]
    by_cases h1 : inB f Fb.length a 4 = true
    · have := inB_out h1
      simp only [h1, Bool.true_or, if_true]
      have := word_of (a := f) (o := a - f) 4 h.1 (by omega)
      rw [show f + (a - f) = a by omega] at this
      rw [this]; rfl
    · by_cases h2 : inB r Rb.length a 4 = true
      · have := inB_out h2
        simp only [h1, h2, Bool.or_true, if_true, Bool.false_eq_true, if_false]
        have := word_of (a := r) (o := a - r) 4 h.2 (by omega)
        rw [show r + (a - r) = a by omega] at this
        rw [this]; rfl
      · simp only [h1, h2, Bool.or_self, Bool.false_eq_true, if_false]
  · simp only [h0, ne_eq, not_false_eq_true, if_true]

set_option maxHeartbeats 1000000 in
theorem rload_size (X : Nat) (a : Int) (k : Int) (W : World) (hk : k ≠ 1 ∧ k ≠ 2 ∧ k ≠ 4) :
    Calls Try.prog 97 #[.pointer (some ⟨X, 0, none⟩), .int .u32 a, .int .i64 k] W (LoadPost W 0 3) := by
  have t1 : (k == 1) = false := by simp; omega
  have t2 : (k == 2) = false := by simp; omega
  have t4 : (k == 4) = false := by simp; omega
  have s1 : (k != 1) = true := by simp; omega
  have s2 : (k != 2) = true := by simp; omega
  have s4 : (k != 4) = true := by simp; omega
  clear hk
  go_enter Try.func97, Try.ntmps97
  go_wp2_with fail
  go_ret2
  exact ⟨rfl, .refl _⟩
set_option maxHeartbeats 1000000 in
theorem rload_align (X a k : Nat) (W : World) (ha : a < 4294967296) (hk : k = 1 ∨ k = 2 ∨ k = 4) (h : a % k ≠ 0) :
    Calls Try.prog 97 #[.pointer (some ⟨X, 0, none⟩), .int .u32 (a : Nat), .int .i64 (k : Nat)] W (LoadPost W 0 1) := by
  rcases hk with rfl | rfl | rfl
  · omega
  · have t : (((a : Int) % 2) == 0) = false := by simp; omega
    have t' : (((a : Int) % 2) != 0) = true := by simp; omega
    clear h
    go_enter Try.func97, Try.ntmps97
    go_wp2_with fail
    go_ret2
    exact ⟨rfl, .refl _⟩
  · have t : (((a : Int) % 4) == 0) = false := by simp; omega
    have t' : (((a : Int) % 4) != 0) = true := by simp; omega
    clear h
    go_enter Try.func97, Try.ntmps97
    go_wp2_with fail
    go_ret2
    exact ⟨rfl, .refl _⟩
def WordIs (X : Nat) (a k : Nat) (y : Nat) (W : World) : Prop := Calls Try.prog 108 #[.pointer (some ⟨X, 0, none⟩), .int .u32 (a : Nat), .int .i64 (k : Nat)] W fun e w' => e = .returned (.int .u32 (y : Nat)) ∧ W = w'
def HasIs (X : Nat) (a k : Nat) (b : Bool) (W : World) : Prop := Calls Try.prog 79 #[.pointer (some ⟨X, 0, none⟩), .int .u32 (a : Nat), .int .i64 (k : Nat)] W (BoolPost W b)
def RamIs (X : Nat) (a k : Nat) (b : Bool) (W : World) : Prop := Calls Try.prog 95 #[.pointer (some ⟨X, 0, none⟩), .int .u32 (a : Nat), .int .i64 (k : Nat)] W (BoolPost W b)
set_option maxHeartbeats 1000000 in
theorem rload_in1 (X a y : Nat) (W : World) (ha : a < 4294967296) (h : a % 1 = 0) (hw : HasIs X a 1 true W) (hn : ∀ W', LikeG W W' → WordIs X a 1 y W') :
    Calls Try.prog 97 #[.pointer (some ⟨X, 0, none⟩), .int .u32 (a : Nat), .int .i64 1] W (LoadPost W y 0) := by
  have HW := Lib.hid hw
  have NB := Lib.hid hn
  clear h hw hn
  go_enter Try.func97, Try.ntmps97
  go_wp2_with fail
  refine HW.out.mono ?_
  rintro e w1 ⟨rfl, hl⟩
  have HL := Lib.hid hl
  clear hl
  go_wp2_with fail
  refine (NB.out _ HL.out).mono ?_
  rintro e w2 ⟨rfl, rfl⟩
  go_wp2_with fail
  go_ret2
  exact ⟨rfl, HL.out⟩
set_option maxHeartbeats 1000000 in
theorem rload_out1 (X a : Nat) (W : World) (ha : a < 4294967296) (h : a % 1 = 0) (hw : HasIs X a 1 false W) :
    Calls Try.prog 97 #[.pointer (some ⟨X, 0, none⟩), .int .u32 (a : Nat), .int .i64 1] W (LoadPost W 0 3) := by
  have HW := Lib.hid hw
  clear h hw
  go_enter Try.func97, Try.ntmps97
  go_wp2_with fail
  refine HW.out.mono ?_
  rintro e w1 ⟨rfl, hl⟩
  go_wp2_with fail
  go_ret2
  exact ⟨rfl, hl⟩
set_option maxHeartbeats 1000000 in
theorem rload_in2 (X a y : Nat) (W : World) (ha : a < 4294967296) (h : a % 2 = 0) (hw : HasIs X a 2 true W) (hn : ∀ W', LikeG W W' → WordIs X a 2 y W') :
    Calls Try.prog 97 #[.pointer (some ⟨X, 0, none⟩), .int .u32 (a : Nat), .int .i64 2] W (LoadPost W y 0) := by
  have HW := Lib.hid hw
  have NB := Lib.hid hn
  have t : (((a : Int) % 2) == 0) = true := by simp; omega
  have t' : (((a : Int) % 2) != 0) = false := by simp; omega
  clear h hw hn
  go_enter Try.func97, Try.ntmps97
  go_wp2_with fail
  refine HW.out.mono ?_
  rintro e w1 ⟨rfl, hl⟩
  have HL := Lib.hid hl
  clear hl
  go_wp2_with fail
  refine (NB.out _ HL.out).mono ?_
  rintro e w2 ⟨rfl, rfl⟩
  go_wp2_with fail
  go_ret2
  exact ⟨rfl, HL.out⟩
set_option maxHeartbeats 1000000 in
theorem rload_out2 (X a : Nat) (W : World) (ha : a < 4294967296) (h : a % 2 = 0) (hw : HasIs X a 2 false W) :
    Calls Try.prog 97 #[.pointer (some ⟨X, 0, none⟩), .int .u32 (a : Nat), .int .i64 2] W (LoadPost W 0 3) := by
  have HW := Lib.hid hw
  have t : (((a : Int) % 2) == 0) = true := by simp; omega
  have t' : (((a : Int) % 2) != 0) = false := by simp; omega
  clear h hw
  go_enter Try.func97, Try.ntmps97
  go_wp2_with fail
  refine HW.out.mono ?_
  rintro e w1 ⟨rfl, hl⟩
  go_wp2_with fail
  go_ret2
  exact ⟨rfl, hl⟩
set_option maxHeartbeats 1000000 in
theorem rload_in4 (X a y : Nat) (W : World) (ha : a < 4294967296) (h : a % 4 = 0) (hw : HasIs X a 4 true W) (hn : ∀ W', LikeG W W' → WordIs X a 4 y W') :
    Calls Try.prog 97 #[.pointer (some ⟨X, 0, none⟩), .int .u32 (a : Nat), .int .i64 4] W (LoadPost W y 0) := by
  have HW := Lib.hid hw
  have NB := Lib.hid hn
  have t : (((a : Int) % 4) == 0) = true := by simp; omega
  have t' : (((a : Int) % 4) != 0) = false := by simp; omega
  clear h hw hn
  go_enter Try.func97, Try.ntmps97
  go_wp2_with fail
  refine HW.out.mono ?_
  rintro e w1 ⟨rfl, hl⟩
  have HL := Lib.hid hl
  clear hl
  go_wp2_with fail
  refine (NB.out _ HL.out).mono ?_
  rintro e w2 ⟨rfl, rfl⟩
  go_wp2_with fail
  go_ret2
  exact ⟨rfl, HL.out⟩
set_option maxHeartbeats 1000000 in
theorem rload_out4 (X a : Nat) (W : World) (ha : a < 4294967296) (h : a % 4 = 0) (hw : HasIs X a 4 false W) :
    Calls Try.prog 97 #[.pointer (some ⟨X, 0, none⟩), .int .u32 (a : Nat), .int .i64 4] W (LoadPost W 0 3) := by
  have HW := Lib.hid hw
  have t : (((a : Int) % 4) == 0) = true := by simp; omega
  have t' : (((a : Int) % 4) != 0) = false := by simp; omega
  clear h hw
  go_enter Try.func97, Try.ntmps97
  go_wp2_with fail
  refine HW.out.mono ?_
  rintro e w1 ⟨rfl, hl⟩
  go_wp2_with fail
  go_ret2
  exact ⟨rfl, hl⟩
theorem rload_any {X B f n1 r n2 : Nat} {L : List (Nat × Nat)} {v : Value} {W : World} (h : RefIs X B f n1 r n2 L v W) (hb : Banks f n1 r n2) (a k : Nat) (ha : a < 4294967296) (hk : k = 1 ∨ k = 2 ∨ k = 4) :
    Calls Try.prog 97 #[.pointer (some ⟨X, 0, none⟩), .int .u32 (a : Nat), .int .i64 (k : Nat)] W (LoadPost W (loadR f n1 r n2 L a k).1 (loadR f n1 r n2 L a k).2) := by
  unfold loadR
  by_cases h0 : a % k = 0
  · rw [if_neg (by omega)]
    have hw := has_any h hb a k ha (by omega)
    cases hi : wIn f n1 r n2 a k
    · rw [hi] at hw
      rcases hk with rfl | rfl | rfl
      · exact rload_out1 X a W ha h0 hw
      · exact rload_out2 X a W ha h0 hw
      · exact rload_out4 X a W ha h0 hw
    · rw [hi] at hw
      have hbd := wIn_bd hb hi
      have hn := fun W' (hl : LikeG W W') => word_any (h.like hl) a k (by omega) hbd ha
      rcases hk with rfl | rfl | rfl
      · exact rload_in1 X a _ W ha h0 hw hn
      · exact rload_in2 X a _ W ha h0 hw hn
      · exact rload_in4 X a _ W ha h0 hw hn
  · rw [if_pos h0]
    exact rload_align X a k W ha hk h0
/-! Store -/
theorem info_byteR : (Try.prog.info? 124).map (fun i => (i.zero, i.size, i.bytes)) = some (some (.agg #[.int .u32 0, .int .u8 0]), 2, 8) := by kernel_rfl
theorem RefIs.out {X B f n1 r n2 : Nat} {L : List (Nat × Nat)} {v : Value} {S : Nat → Prop} {W W' : World} (h : RefIs X B f n1 r n2 L v W) (ho : Out S W W') (hX : ¬ S X) (hS : ∀ j, v.ownBlock = some j → ¬ S j) : RefIs X B f n1 r n2 L v W' :=
  { c0 := (ho.cell h.lt hX).trans h.c0, c1 := (ho.cell h.lt hX).trans h.c1, c2 := (ho.cell h.lt hX).trans h.c2, c3 := (ho.cell h.lt hX).trans h.c3, c4 := (ho.cell h.lt hX).trans h.c4
    fz := (World.frozen?_of_block (a := ⟨X, 4, none⟩) (ho.block X h.lt hX)).trans h.fz
    own := ho.row h.own hS
    ok := h.ok, hx := h.hx, lt := Nat.lt_of_lt_of_le h.lt ho.size, bs := Nat.le_trans h.bs ho.size, small := h.small }
theorem out_set (X k : Nat) (v : Value) (W : World) : Out (· = X) W (W.setCell ⟨X, k, none⟩ v) :=
  ⟨rfl, rfl, rfl, by rw [World.size_setCell]; exact Nat.le_refl _, fun i hi hne => Below.heap_setCell _ _ _ _ (fun e => hne e)⟩
/-- a byte more -/
theorem RefIs.more {X B f n1 r n2 g cap : Nat} {L : List (Nat × Nat)} {v : Value} {W V V' : World} {x : Nat × Nat} (h : RefIs X B f n1 r n2 L v W) (hV : Below W.heap.size W V) (hx : x.1 < 4294967296 ∧ x.2 < 256) (hs : L.length + 1 ≤ 1000000)
    (hown : V'.ownsRow B 124 2 (.slice (some ⟨g, 0, none⟩) (L.length + 1) cap) (L.length + 1) (cellsB L ++ [.int .u32 (x.1 : Int), .int .u8 (x.2 : Int)])) (hg : V.grownBy V' v.ownBlock) (hat : v.ownBlock = some g ∨ g = V.heap.size) :
    RefIs X B f n1 r n2 (L ++ [x]) (.slice (some ⟨g, 0, none⟩) (L.length + 1) cap) (V'.setCell ⟨X, 4, none⟩ (.slice (some ⟨g, 0, none⟩) (L.length + 1) cap)) ∧ Out (RS X v) W (V'.setCell ⟨X, 4, none⟩ (.slice (some ⟨g, 0, none⟩) (L.length + 1) cap)) ∧ Fresh v (.slice (some ⟨g, 0, none⟩) (L.length + 1) cap) W := by
  have hgX : g ≠ X := fun e => by
    subst e
    rcases hat with e | e
    · exact h.hx e
    · have := h.lt; have := hV.size; omega
  have hfr : Fresh v (.slice (some ⟨g, 0, none⟩) (L.length + 1) cap) W := fun j hj => by
    have : g = j := Option.some.inj hj
    subst this
    rcases hat with e | e
    · exact .inl e
    · exact .inr (by rw [e]; exact hV.size)
  generalize hv' : Value.slice (some ⟨g, 0, none⟩) (L.length + 1) cap = v' at *
  have hne : v'.ownBlock ≠ some X := fun e => by
    rw [← hv'] at e
    exact hgX (Option.some.inj e)
  have o1 : Out (RS X v) W V := .of_below _ hV
  have o2 : Out (RS X v) V V' := .of_grown hg fun k hk => .inr hk
  have o3 := (out_set X 4 v' V').mono (T := RS X v) fun j hj => .inl hj
  have cX : ∀ k, V'.cell? ⟨X, k, none⟩ = W.cell? ⟨X, k, none⟩ := fun k => by
    rw [World.cell?_of_block (a := ⟨X, k, none⟩) (hg.block X (Nat.lt_of_lt_of_le h.lt hV.size) fun e => h.hx e.symm)]
    exact hV.cell (p := ⟨X, k, none⟩) h.lt
  have sX : ∀ k, k ≠ 4 → (V'.setCell ⟨X, 4, none⟩ v').cell? ⟨X, k, none⟩ = V'.cell? ⟨X, k, none⟩ := fun k hk => by rw [World.cell?_setCell_other (h := fun e => hk (by injection e with _ e2 _; omega))]
  refine ⟨{ c0 := (sX 0 (by decide)).trans ((cX 0).trans h.c0), c1 := (sX 1 (by decide)).trans ((cX 1).trans h.c1), c2 := (sX 2 (by decide)).trans ((cX 2).trans h.c2), c3 := (sX 3 (by decide)).trans ((cX 3).trans h.c3)
            c4 := World.cell?_setCell_same _ _ _ ((cX 4).trans h.c4), fz := ?_, own := ?_, ok := ?_, hx := hne, lt := ?_, bs := ?_, small := by simp; omega }, (o1.trans o2).trans o3, hfr⟩
  · rw [World.frozen?_setCell]
    rw [World.frozen?_of_block (a := ⟨X, 4, none⟩) (hg.block X (Nat.lt_of_lt_of_le h.lt hV.size) fun e => h.hx e.symm)]
    exact (hV.frozen (p := ⟨X, 4, none⟩) h.lt).trans h.fz
  · have : (cellsB L ++ [Value.int .u32 (x.1 : Int), .int .u8 (x.2 : Int)]) = cellsB (L ++ [x]) := by rw [cellsB_append]; rfl
    rw [this] at hown
    rw [List.length_append]
    exact (out_set X 4 v' V').row hown fun j hj e => hne (by rw [hj]; exact congrArg some e)
  · intro y hy
    simp only [List.mem_append, List.mem_singleton] at hy
    rcases hy with hy | rfl
    · exact h.ok y hy
    · exact hx
  · rw [World.size_setCell]
    exact Nat.lt_of_lt_of_le h.lt (Nat.le_trans hV.size hg.size)
  · rw [World.size_setCell]
    exact Nat.le_trans h.bs (Nat.le_trans hV.size hg.size)
theorem lowB_get (k v m : Nat) (h : m < k) : (lowB k v)[m]? = some (v / 256 ^ m % 256) := by
  induction k generalizing v m with
  | zero => omega
  | succ k ih =>
    cases m with
    | zero => simp [lowB]
    | succ m => simp only [lowB, List.getElem?_cons_succ]; rw [ih _ _ (by omega), Nat.div_div_eq_div_mul, Nat.pow_succ, Nat.mul_comm 256]
theorem lowB_take (k v m : Nat) (h : m < k) : (lowB k v).take (m + 1) = (lowB k v).take m ++ [v / 256 ^ m % 256] := by
  rw [List.take_add_one, lowB_get k v m h]; rfl
theorem writes_take (L : List (Nat × Nat)) (a k v m : Nat) (h : m < k) : L ++ writes a ((lowB k v).take (m + 1)) = (L ++ writes a ((lowB k v).take m)) ++ [(a + m, v / 256 ^ m % 256)] := by
  rw [lowB_take k v m h, writes_snoc, List.append_assoc, List.length_take, lowB_length, Nat.min_eq_left (by omega)]
theorem news_two (W : World) (u1 u2 : Value) (t : TypeId) : ∀ j u, ([u1, u2] : List Value)[j]? = some u → (W.alloc (.cells #[u1, u2] t)).cell? ((⟨W.heap.size, 0, none⟩ : Addr).add j) = some u := by
  intro j u hj
  have e : (⟨W.heap.size, 0, none⟩ : Addr).add j = ⟨W.heap.size, j, none⟩ := by unfold Addr.add; split <;> simp_all
  rw [e, World.cell?_alloc_new]
  simpa using hj
theorem own_shape {W : World} {base size n : Nat} {t : TypeId} {v : Value} {xs : List Value} (h : W.ownsRow base t size v (n + 1) xs) : ∃ g cap, v = .slice (some ⟨g, 0, none⟩) (n + 1) cap := by
  rcases h.2 with ⟨_, h0⟩ | ⟨g, cap, cur, rfl, _⟩
  · omega
  · exact ⟨g, cap, rfl⟩
def StoreR (X B f n1 r n2 : Nat) (L : List (Nat × Nat)) (v : Value) (W : World) (z : Int) (e : Ending) (w' : World) : Prop := e = .returned (.int .i64 z) ∧ ∃ v', RefIs X B f n1 r n2 L v' w' ∧ Out (RS X v) W w' ∧ Fresh v v' W
set_option maxRecDepth 100000 in
set_option maxHeartbeats 2000000 in
theorem rstore_in1 {X B f n1 r n2 : Nat} {L : List (Nat × Nat)} {v : Value} {W : World} (h : RefIs X B f n1 r n2 L v W) (a x : Nat) (hx : x < 4294967296) (h0 : a % 1 = 0) (hak : a + 1 ≤ 4294967296) (hs : L.length + 4 ≤ 1000000) (hw : RamIs X a 1 true W) :
    Calls Try.prog 96 #[.pointer (some ⟨X, 0, none⟩), .int .u32 (a : Nat), .int .i64 1, .int .u32 (x : Nat)] W (StoreR X B f n1 r n2 (L ++ writes a (lowB 1 x)) v W 0) := by
  obtain ⟨i0, hi, hz0, hz1, hz2⟩ := info_parts info_byteR
  have HW := Lib.hid hw
  have RI := Lib.hid (fun W' (hl : LikeG W W') => h.like hl)
  have ha : a < 4294967296 := by omega
  clear h0 h hw
  go_enter Try.func96, Try.ntmps96
  go_wp2_with fail
  refine HW.out.mono ?_
  rintro e w1 ⟨rfl, hl⟩
  have H1 := Lib.hid (RI.out _ hl)
  have O1 := Lib.hid (hl.out (RS X v))
  have F1 := Lib.hid (Fresh.refl v W)
  clear hl HW RI
  go_wp2_with fail
  go_loopw [3, 9] (fun x3 i wr => ∃ (m : Nat) (v' : Value), m ≤ 1 ∧ i = .int .i64 m ∧ x3 = .int .u32 (x / 256 ^ m : Nat) ∧ RefIs X B f n1 r n2 (L ++ writes a ((lowB 1 x).take m)) v' wr ∧ Out (RS X v) W wr ∧ Fresh v v' W) (fun _ i _ => 1 - (intOf i).toNat)
  case atStart => exact ⟨0, v, by omega, rfl, by simp, by simpa [writes] using H1.out, O1.out, F1.out⟩
  case round =>
    obtain ⟨m, v', hm, rfl, rfl, hR, hO, hFr⟩ := hrel
    have HF := Lib.hid hFr
    clear hFr F1
    by_cases hlt : m < 1
    · have HR := Lib.hid hR
      have HO := Lib.hid hO
      have c4 := hR.c4
      have hlX := hR.lt
      have hBw : B ≤ wr.heap.size := hR.bs
      have hln : (L ++ writes a ((lowB 1 x).take m)).length + 1 ≤ 1000000 := by
        rw [List.length_append, writes_length, List.length_take]; omega
      have T := Lib.hid (writes_take L a 1 x m hlt)
      have hq : x / 256 ^ m < 4294967296 := Nat.lt_of_le_of_lt (Nat.div_le_self _ _) hx
      have EQ := Lib.hid (show x / 256 ^ (m + 1) = x / 256 ^ m / 256 by rw [Nat.div_div_eq_div_mul, Nat.pow_succ])
      generalize hQ : x / 256 ^ m = q at *
      clear hQ
      generalize hLL : L ++ writes a ((lowB 1 x).take m) = LL at *
      have OWN := Lib.hid (fun cs t => HR.out.own.alloc (.cells cs t))
      have NEWS := Lib.hid (news_two wr (.int .u32 ((a : Int) + (m : Int))) (.int .u8 ((q : Int) % 256)) 124)
      have FX := Lib.hid (show ∀ (cs : Array Value) (t : TypeId) (w2 : World), (wr.alloc (.cells cs t)).grownBy w2 v'.ownBlock → w2.cell? ⟨X, 4, none⟩ = some v' ∧ w2.frozen? ⟨X, 4, none⟩ = false from fun cs t w2 hg => by
        have e := hg.block X (by simp; omega) fun e => HR.out.hx e.symm
        have e2 : w2.heap[X]? = wr.heap[X]? := e.trans (heap_alloc_old _ _ hlX)
        exact ⟨(World.cell?_of_block (a := ⟨X, 4, none⟩) e2).trans HR.out.c4, (World.frozen?_of_block (a := ⟨X, 4, none⟩) e2).trans HR.out.fz⟩)
      have MO := Lib.hid (show ∀ (cs : Array Value) (t : TypeId) (w2 : World) (g cap : Nat), (wr.alloc (.cells cs t)).grownBy w2 v'.ownBlock → w2.ownsRow B 124 2 (.slice (some ⟨g, 0, none⟩) (LL.length + 1) cap) (LL.length + 1) (cellsB LL ++ [.int .u32 ((a : Int) + (m : Int)), .int .u8 ((q : Int) % 256)]) → (v'.ownBlock = some g ∨ g = wr.heap.size + 1) → _ from fun cs t w2 g cap hg ho ha =>
        HR.out.more (x := (a + m, q % 256)) (g := g) (cap := cap) ((Below.refl _ _).alloc (Nat.le_refl _) (.cells cs t)) ⟨by show a + m < 4294967296; omega, by show q % 256 < 256; omega⟩ hln (by simpa using ho) hg (by simpa using ha))
      have LEN := Lib.hid (show LL.length + 1 ≤ maxLen from Nat.le_trans hln (by decide))
      have BYT := Lib.hid (show (LL.length + 1) * 8 ≤ 140737488355328 by omega)
      have BAS := Lib.hid (show ∀ (cs : Array Value) (t : TypeId), B ≤ (wr.alloc (.cells cs t)).heap.size from fun cs t => by simp; omega)
      clear hR hO H1 O1 hLL hln hBw hlX
      go_wp2_with ((at_builtin; refine wpList_append_lies (wr.alloc (.cells #[.int .u32 ((a : Int) + (m : Int)), .int .u8 ((q : Int) % 256)] 124)) rfl (.tmp 39) (.tmp 48) 90 rfl B 124 i0 (.agg #[.int .u32 0, .int .u8 0]) 2 8 Try.underlying90 hi hz0 hz1 hz2 rfl (by decide) v' LL.length (cellsB LL) rfl (OWN.out _ _) ⟨wr.heap.size, 0, none⟩ 1 1 [.int .u32 ((a : Int) + (m : Int)), .int .u8 ((q : Int) % 256)] rfl rfl NEWS.out (by simp [Value.oneCell']) (by decide) LEN.out BYT.out (BAS.out _ _) (wr.heap.size + 1) (by simp) ?_; intro g2 cap2 w2 hown hg hat hlt2; have HG := Lib.hid hg; have HOWN := Lib.hid hown; have HAT := Lib.hid hat; obtain ⟨d4, z4⟩ := FX.out _ _ _ hg; clear hown hg hat hlt2))
      go_roundw
      case rel =>
        obtain ⟨m1, m2, m3⟩ := MO.out _ _ _ _ _ HG.out HOWN.out HAT.out
        exact ⟨m + 1, _, by omega, by go_num, by rw [EQ.out]; go_num, by rw [T.out]; exact m1, HO.out.chain HF.out m2, HF.out.trans m3 HO.out.size⟩
      case measure => first | (simp [intOf]; done) | (simp [intOf]; omega)
    · obtain rfl : m = 1 := by omega
      have HR := Lib.hid hR
      have HO := Lib.hid hO
      clear hR hO H1 O1 hlt
      go_wp2_with fail
      go_ret
      exact ⟨rfl, v', by have := HR.out; rwa [List.take_of_length_le (by rw [lowB_length]; omega)] at this, HO.out, HF.out⟩
set_option maxRecDepth 100000 in
set_option maxHeartbeats 2000000 in
theorem rstore_in2 {X B f n1 r n2 : Nat} {L : List (Nat × Nat)} {v : Value} {W : World} (h : RefIs X B f n1 r n2 L v W) (a x : Nat) (hx : x < 4294967296) (h0 : a % 2 = 0) (hak : a + 2 ≤ 4294967296) (hs : L.length + 4 ≤ 1000000) (hw : RamIs X a 2 true W) :
    Calls Try.prog 96 #[.pointer (some ⟨X, 0, none⟩), .int .u32 (a : Nat), .int .i64 2, .int .u32 (x : Nat)] W (StoreR X B f n1 r n2 (L ++ writes a (lowB 2 x)) v W 0) := by
  obtain ⟨i0, hi, hz0, hz1, hz2⟩ := info_parts info_byteR
  have HW := Lib.hid hw
  have RI := Lib.hid (fun W' (hl : LikeG W W') => h.like hl)
  have ha : a < 4294967296 := by omega
  have t : (((a : Int) % 2) == 0) = true := by simp; omega
  have t' : (((a : Int) % 2) != 0) = false := by simp; omega
  clear h0 h hw
  go_enter Try.func96, Try.ntmps96
  go_wp2_with fail
  refine HW.out.mono ?_
  rintro e w1 ⟨rfl, hl⟩
  have H1 := Lib.hid (RI.out _ hl)
  have O1 := Lib.hid (hl.out (RS X v))
  have F1 := Lib.hid (Fresh.refl v W)
  clear hl HW RI
  go_wp2_with fail
  go_loopw [3, 9] (fun x3 i wr => ∃ (m : Nat) (v' : Value), m ≤ 2 ∧ i = .int .i64 m ∧ x3 = .int .u32 (x / 256 ^ m : Nat) ∧ RefIs X B f n1 r n2 (L ++ writes a ((lowB 2 x).take m)) v' wr ∧ Out (RS X v) W wr ∧ Fresh v v' W) (fun _ i _ => 2 - (intOf i).toNat)
  case atStart => exact ⟨0, v, by omega, rfl, by simp, by simpa [writes] using H1.out, O1.out, F1.out⟩
  case round =>
    obtain ⟨m, v', hm, rfl, rfl, hR, hO, hFr⟩ := hrel
    have HF := Lib.hid hFr
    clear hFr F1
    by_cases hlt : m < 2
    · have HR := Lib.hid hR
      have HO := Lib.hid hO
      have c4 := hR.c4
      have hlX := hR.lt
      have hBw : B ≤ wr.heap.size := hR.bs
      have hln : (L ++ writes a ((lowB 2 x).take m)).length + 1 ≤ 1000000 := by
        rw [List.length_append, writes_length, List.length_take]; omega
      have T := Lib.hid (writes_take L a 2 x m hlt)
      have hq : x / 256 ^ m < 4294967296 := Nat.lt_of_le_of_lt (Nat.div_le_self _ _) hx
      have EQ := Lib.hid (show x / 256 ^ (m + 1) = x / 256 ^ m / 256 by rw [Nat.div_div_eq_div_mul, Nat.pow_succ])
      generalize hQ : x / 256 ^ m = q at *
      clear hQ
      generalize hLL : L ++ writes a ((lowB 2 x).take m) = LL at *
      have OWN := Lib.hid (fun cs t => HR.out.own.alloc (.cells cs t))
      have NEWS := Lib.hid (news_two wr (.int .u32 ((a : Int) + (m : Int))) (.int .u8 ((q : Int) % 256)) 124)
      have FX := Lib.hid (show ∀ (cs : Array Value) (t : TypeId) (w2 : World), (wr.alloc (.cells cs t)).grownBy w2 v'.ownBlock → w2.cell? ⟨X, 4, none⟩ = some v' ∧ w2.frozen? ⟨X, 4, none⟩ = false from fun cs t w2 hg => by
        have e := hg.block X (by simp; omega) fun e => HR.out.hx e.symm
        have e2 : w2.heap[X]? = wr.heap[X]? := e.trans (heap_alloc_old _ _ hlX)
        exact ⟨(World.cell?_of_block (a := ⟨X, 4, none⟩) e2).trans HR.out.c4, (World.frozen?_of_block (a := ⟨X, 4, none⟩) e2).trans HR.out.fz⟩)
      have MO := Lib.hid (show ∀ (cs : Array Value) (t : TypeId) (w2 : World) (g cap : Nat), (wr.alloc (.cells cs t)).grownBy w2 v'.ownBlock → w2.ownsRow B 124 2 (.slice (some ⟨g, 0, none⟩) (LL.length + 1) cap) (LL.length + 1) (cellsB LL ++ [.int .u32 ((a : Int) + (m : Int)), .int .u8 ((q : Int) % 256)]) → (v'.ownBlock = some g ∨ g = wr.heap.size + 1) → _ from fun cs t w2 g cap hg ho ha =>
        HR.out.more (x := (a + m, q % 256)) (g := g) (cap := cap) ((Below.refl _ _).alloc (Nat.le_refl _) (.cells cs t)) ⟨by show a + m < 4294967296; omega, by show q % 256 < 256; omega⟩ hln (by simpa using ho) hg (by simpa using ha))
      have LEN := Lib.hid (show LL.length + 1 ≤ maxLen from Nat.le_trans hln (by decide))
      have BYT := Lib.hid (show (LL.length + 1) * 8 ≤ 140737488355328 by omega)
      have BAS := Lib.hid (show ∀ (cs : Array Value) (t : TypeId), B ≤ (wr.alloc (.cells cs t)).heap.size from fun cs t => by simp; omega)
      clear hR hO H1 O1 hLL hln hBw hlX
      go_wp2_with ((at_builtin; refine wpList_append_lies (wr.alloc (.cells #[.int .u32 ((a : Int) + (m : Int)), .int .u8 ((q : Int) % 256)] 124)) rfl (.tmp 39) (.tmp 48) 90 rfl B 124 i0 (.agg #[.int .u32 0, .int .u8 0]) 2 8 Try.underlying90 hi hz0 hz1 hz2 rfl (by decide) v' LL.length (cellsB LL) rfl (OWN.out _ _) ⟨wr.heap.size, 0, none⟩ 1 1 [.int .u32 ((a : Int) + (m : Int)), .int .u8 ((q : Int) % 256)] rfl rfl NEWS.out (by simp [Value.oneCell']) (by decide) LEN.out BYT.out (BAS.out _ _) (wr.heap.size + 1) (by simp) ?_; intro g2 cap2 w2 hown hg hat hlt2; have HG := Lib.hid hg; have HOWN := Lib.hid hown; have HAT := Lib.hid hat; obtain ⟨d4, z4⟩ := FX.out _ _ _ hg; clear hown hg hat hlt2))
      go_roundw
      case rel =>
        obtain ⟨m1, m2, m3⟩ := MO.out _ _ _ _ _ HG.out HOWN.out HAT.out
        exact ⟨m + 1, _, by omega, by go_num, by rw [EQ.out]; go_num, by rw [T.out]; exact m1, HO.out.chain HF.out m2, HF.out.trans m3 HO.out.size⟩
      case measure => first | (simp [intOf]; done) | (simp [intOf]; omega)
    · obtain rfl : m = 2 := by omega
      have HR := Lib.hid hR
      have HO := Lib.hid hO
      clear hR hO H1 O1 hlt
      go_wp2_with fail
      go_ret
      exact ⟨rfl, v', by have := HR.out; rwa [List.take_of_length_le (by rw [lowB_length]; omega)] at this, HO.out, HF.out⟩
set_option maxRecDepth 100000 in
set_option maxHeartbeats 2000000 in
theorem rstore_in4 {X B f n1 r n2 : Nat} {L : List (Nat × Nat)} {v : Value} {W : World} (h : RefIs X B f n1 r n2 L v W) (a x : Nat) (hx : x < 4294967296) (h0 : a % 4 = 0) (hak : a + 4 ≤ 4294967296) (hs : L.length + 4 ≤ 1000000) (hw : RamIs X a 4 true W) :
    Calls Try.prog 96 #[.pointer (some ⟨X, 0, none⟩), .int .u32 (a : Nat), .int .i64 4, .int .u32 (x : Nat)] W (StoreR X B f n1 r n2 (L ++ writes a (lowB 4 x)) v W 0) := by
  obtain ⟨i0, hi, hz0, hz1, hz2⟩ := info_parts info_byteR
  have HW := Lib.hid hw
  have RI := Lib.hid (fun W' (hl : LikeG W W') => h.like hl)
  have ha : a < 4294967296 := by omega
  have t : (((a : Int) % 4) == 0) = true := by simp; omega
  have t' : (((a : Int) % 4) != 0) = false := by simp; omega
  clear h0 h hw
  go_enter Try.func96, Try.ntmps96
  go_wp2_with fail
  refine HW.out.mono ?_
  rintro e w1 ⟨rfl, hl⟩
  have H1 := Lib.hid (RI.out _ hl)
  have O1 := Lib.hid (hl.out (RS X v))
  have F1 := Lib.hid (Fresh.refl v W)
  clear hl HW RI
  go_wp2_with fail
  go_loopw [3, 9] (fun x3 i wr => ∃ (m : Nat) (v' : Value), m ≤ 4 ∧ i = .int .i64 m ∧ x3 = .int .u32 (x / 256 ^ m : Nat) ∧ RefIs X B f n1 r n2 (L ++ writes a ((lowB 4 x).take m)) v' wr ∧ Out (RS X v) W wr ∧ Fresh v v' W) (fun _ i _ => 4 - (intOf i).toNat)
  case atStart => exact ⟨0, v, by omega, rfl, by simp, by simpa [writes] using H1.out, O1.out, F1.out⟩
  case round =>
    obtain ⟨m, v', hm, rfl, rfl, hR, hO, hFr⟩ := hrel
    have HF := Lib.hid hFr
    clear hFr F1
    by_cases hlt : m < 4
    · have HR := Lib.hid hR
      have HO := Lib.hid hO
      have c4 := hR.c4
      have hlX := hR.lt
      have hBw : B ≤ wr.heap.size := hR.bs
      have hln : (L ++ writes a ((lowB 4 x).take m)).length + 1 ≤ 1000000 := by
        rw [List.length_append, writes_length, List.length_take]; omega
      have T := Lib.hid (writes_take L a 4 x m hlt)
      have hq : x / 256 ^ m < 4294967296 := Nat.lt_of_le_of_lt (Nat.div_le_self _ _) hx
      have EQ := Lib.hid (show x / 256 ^ (m + 1) = x / 256 ^ m / 256 by rw [Nat.div_div_eq_div_mul, Nat.pow_succ])
      generalize hQ : x / 256 ^ m = q at *
      clear hQ
      generalize hLL : L ++ writes a ((lowB 4 x).take m) = LL at *
      have OWN := Lib.hid (fun cs t => HR.out.own.alloc (.cells cs t))
      have NEWS := Lib.hid (news_two wr (.int .u32 ((a : Int) + (m : Int))) (.int .u8 ((q : Int) % 256)) 124)
      have FX := Lib.hid (show ∀ (cs : Array Value) (t : TypeId) (w2 : World), (wr.alloc (.cells cs t)).grownBy w2 v'.ownBlock → w2.cell? ⟨X, 4, none⟩ = some v' ∧ w2.frozen? ⟨X, 4, none⟩ = false from fun cs t w2 hg => by
        have e := hg.block X (by simp; omega) fun e => HR.out.hx e.symm
        have e2 : w2.heap[X]? = wr.heap[X]? := e.trans (heap_alloc_old _ _ hlX)
        exact ⟨(World.cell?_of_block (a := ⟨X, 4, none⟩) e2).trans HR.out.c4, (World.frozen?_of_block (a := ⟨X, 4, none⟩) e2).trans HR.out.fz⟩)
      have MO := Lib.hid (show ∀ (cs : Array Value) (t : TypeId) (w2 : World) (g cap : Nat), (wr.alloc (.cells cs t)).grownBy w2 v'.ownBlock → w2.ownsRow B 124 2 (.slice (some ⟨g, 0, none⟩) (LL.length + 1) cap) (LL.length + 1) (cellsB LL ++ [.int .u32 ((a : Int) + (m : Int)), .int .u8 ((q : Int) % 256)]) → (v'.ownBlock = some g ∨ g = wr.heap.size + 1) → _ from fun cs t w2 g cap hg ho ha =>
        HR.out.more (x := (a + m, q % 256)) (g := g) (cap := cap) ((Below.refl _ _).alloc (Nat.le_refl _) (.cells cs t)) ⟨by show a + m < 4294967296; omega, by show q % 256 < 256; omega⟩ hln (by simpa using ho) hg (by simpa using ha))
      have LEN := Lib.hid (show LL.length + 1 ≤ maxLen from Nat.le_trans hln (by decide))
      have BYT := Lib.hid (show (LL.length + 1) * 8 ≤ 140737488355328 by omega)
      have BAS := Lib.hid (show ∀ (cs : Array Value) (t : TypeId), B ≤ (wr.alloc (.cells cs t)).heap.size from fun cs t => by simp; omega)
      clear hR hO H1 O1 hLL hln hBw hlX
      go_wp2_with ((at_builtin; refine wpList_append_lies (wr.alloc (.cells #[.int .u32 ((a : Int) + (m : Int)), .int .u8 ((q : Int) % 256)] 124)) rfl (.tmp 39) (.tmp 48) 90 rfl B 124 i0 (.agg #[.int .u32 0, .int .u8 0]) 2 8 Try.underlying90 hi hz0 hz1 hz2 rfl (by decide) v' LL.length (cellsB LL) rfl (OWN.out _ _) ⟨wr.heap.size, 0, none⟩ 1 1 [.int .u32 ((a : Int) + (m : Int)), .int .u8 ((q : Int) % 256)] rfl rfl NEWS.out (by simp [Value.oneCell']) (by decide) LEN.out BYT.out (BAS.out _ _) (wr.heap.size + 1) (by simp) ?_; intro g2 cap2 w2 hown hg hat hlt2; have HG := Lib.hid hg; have HOWN := Lib.hid hown; have HAT := Lib.hid hat; obtain ⟨d4, z4⟩ := FX.out _ _ _ hg; clear hown hg hat hlt2))
      go_roundw
      case rel =>
        obtain ⟨m1, m2, m3⟩ := MO.out _ _ _ _ _ HG.out HOWN.out HAT.out
        exact ⟨m + 1, _, by omega, by go_num, by rw [EQ.out]; go_num, by rw [T.out]; exact m1, HO.out.chain HF.out m2, HF.out.trans m3 HO.out.size⟩
      case measure => first | (simp [intOf]; done) | (simp [intOf]; omega)
    · obtain rfl : m = 4 := by omega
      have HR := Lib.hid hR
      have HO := Lib.hid hO
      clear hR hO H1 O1 hlt
      go_wp2_with fail
      go_ret
      exact ⟨rfl, v', by have := HR.out; rwa [List.take_of_length_le (by rw [lowB_length]; omega)] at this, HO.out, HF.out⟩
end Go.Proofs.Ytghclbeoabkgcaa

namespace Go.Proofs.Ytghclbeoabkgcaa
open Go Go.RowKit
set_option linter.unusedVariables false

set_option maxHeartbeats 1000000 in
theorem rstore_size (X : Nat) (a : Int) (k : Int) (x : Int) (W : World) (hk : k ≠ 1 ∧ k ≠ 2 ∧ k ≠ 4) :
    Calls Try.prog 96 #[.pointer (some ⟨X, 0, none⟩), .int .u32 a, .int .i64 k, .int .u32 x] W fun e w' => e = .returned (.int .i64 4) ∧ LikeG W w' := by
  have t1 : (k == 1) = false := by simp; omega
  have t2 : (k == 2) = false := by simp; omega
  have t4 : (k == 4) = false := by simp; omega
  have s1 : (k != 1) = true := by simp; omega
  have s2 : (k != 2) = true := by simp; omega
  have s4 : (k != 4) = true := by simp; omega
  clear hk
  go_enter Try.func96, Try.ntmps96
  go_wp2_with fail
  go_ret
  exact ⟨rfl, .refl _⟩
set_option maxHeartbeats 1000000 in
theorem rstore_align (X a k : Nat) (x : Int) (W : World) (ha : a < 4294967296) (hk : k = 1 ∨ k = 2 ∨ k = 4) (h : a % k ≠ 0) :
    Calls Try.prog 96 #[.pointer (some ⟨X, 0, none⟩), .int .u32 (a : Nat), .int .i64 (k : Nat), .int .u32 x] W fun e w' => e = .returned (.int .i64 1) ∧ LikeG W w' := by
  rcases hk with rfl | rfl | rfl
  · omega
  · have t : (((a : Int) % 2) == 0) = false := by simp; omega
    have t' : (((a : Int) % 2) != 0) = true := by simp; omega
    clear h
    go_enter Try.func96, Try.ntmps96
    go_wp2_with fail
    go_ret
    exact ⟨rfl, .refl _⟩
  · have t : (((a : Int) % 4) == 0) = false := by simp; omega
    have t' : (((a : Int) % 4) != 0) = true := by simp; omega
    clear h
    go_enter Try.func96, Try.ntmps96
    go_wp2_with fail
    go_ret
    exact ⟨rfl, .refl _⟩
set_option maxHeartbeats 1000000 in
theorem rstore_out1 (X a : Nat) (x : Int) (W : World) (ha : a < 4294967296) (h : a % 1 = 0) (hw : RamIs X a 1 false W) :
    Calls Try.prog 96 #[.pointer (some ⟨X, 0, none⟩), .int .u32 (a : Nat), .int .i64 1, .int .u32 x] W fun e w' => e = .returned (.int .i64 4) ∧ LikeG W w' := by
  have HW := Lib.hid hw
  clear h hw
  go_enter Try.func96, Try.ntmps96
  go_wp2_with fail
  refine HW.out.mono ?_
  rintro e w1 ⟨rfl, hl⟩
  go_wp2_with fail
  go_ret
  exact ⟨rfl, hl⟩
set_option maxHeartbeats 1000000 in
theorem rstore_out2 (X a : Nat) (x : Int) (W : World) (ha : a < 4294967296) (h : a % 2 = 0) (hw : RamIs X a 2 false W) :
    Calls Try.prog 96 #[.pointer (some ⟨X, 0, none⟩), .int .u32 (a : Nat), .int .i64 2, .int .u32 x] W fun e w' => e = .returned (.int .i64 4) ∧ LikeG W w' := by
  have HW := Lib.hid hw
  have t : (((a : Int) % 2) == 0) = true := by simp; omega
  have t' : (((a : Int) % 2) != 0) = false := by simp; omega
  clear h hw
  go_enter Try.func96, Try.ntmps96
  go_wp2_with fail
  refine HW.out.mono ?_
  rintro e w1 ⟨rfl, hl⟩
  go_wp2_with fail
  go_ret
  exact ⟨rfl, hl⟩
set_option maxHeartbeats 1000000 in
theorem rstore_out4 (X a : Nat) (x : Int) (W : World) (ha : a < 4294967296) (h : a % 4 = 0) (hw : RamIs X a 4 false W) :
    Calls Try.prog 96 #[.pointer (some ⟨X, 0, none⟩), .int .u32 (a : Nat), .int .i64 4, .int .u32 x] W fun e w' => e = .returned (.int .i64 4) ∧ LikeG W w' := by
  have HW := Lib.hid hw
  have t : (((a : Int) % 4) == 0) = true := by simp; omega
  have t' : (((a : Int) % 4) != 0) = false := by simp; omega
  clear h hw
  go_enter Try.func96, Try.ntmps96
  go_wp2_with fail
  refine HW.out.mono ?_
  rintro e w1 ⟨rfl, hl⟩
  go_wp2_with fail
  go_ret
  exact ⟨rfl, hl⟩
/-- what was written, behind a store -/
def logS (r n2 : Nat) (L : List (Nat × Nat)) (a k x : Nat) : List (Nat × Nat) := if storeS r n2 a k = 0 then L ++ writes a (lowB k x) else L
theorem rstore_any {X B f n1 r n2 : Nat} {L : List (Nat × Nat)} {v : Value} {W : World} (h : RefIs X B f n1 r n2 L v W) (hb : Banks f n1 r n2) (a k x : Nat) (ha : a < 4294967296) (hx : x < 4294967296) (hk : k = 1 ∨ k = 2 ∨ k = 4) (hs : L.length + 4 ≤ 1000000) :
    Calls Try.prog 96 #[.pointer (some ⟨X, 0, none⟩), .int .u32 (a : Nat), .int .i64 (k : Nat), .int .u32 (x : Nat)] W (StoreR X B f n1 r n2 (logS r n2 L a k x) v W (storeS r n2 a k)) := by
  have q1 := hb.b; have q2 := hb.d
  unfold logS
  by_cases h0 : a % k = 0
  · have hw := rram_any h (by omega) (by omega) a k ha (by omega)
    by_cases h1 : inB r n2 a k = true
    · have e : storeS r n2 a k = 0 := by unfold storeS; rw [if_neg (by omega), if_pos h1]
      rw [e, if_pos rfl]
      have := inB_out h1
      rw [h1] at hw
      rcases hk with rfl | rfl | rfl
      · exact rstore_in1 h a x hx h0 (by omega) hs hw
      · exact rstore_in2 h a x hx h0 (by omega) hs hw
      · exact rstore_in4 h a x hx h0 (by omega) hs hw
    · have h1' := Bool.eq_false_iff.2 h1
      have e : storeS r n2 a k = 4 := by unfold storeS; rw [if_neg (by omega), if_neg h1]
      rw [e, if_neg (by decide)]
      rw [h1'] at hw
      have fin : ∀ e w', (e = Ending.returned (.int .i64 4) ∧ LikeG W w') → StoreR X B f n1 r n2 L v W 4 e w' := fun e w' ⟨he, hl⟩ => ⟨he, v, h.like hl, hl.out _, .refl _ _⟩
      rcases hk with rfl | rfl | rfl
      · exact (rstore_out1 X a x W ha h0 hw).mono fin
      · exact (rstore_out2 X a x W ha h0 hw).mono fin
      · exact (rstore_out4 X a x W ha h0 hw).mono fin
  · have e : storeS r n2 a k = 1 := by unfold storeS; rw [if_pos h0]
    rw [e, if_neg (by decide)]
    exact (rstore_align X a k x W ha hk h0).mono fun e w' ⟨he, hl⟩ => ⟨he, v, h.like hl, hl.out _, .refl _ _⟩
theorem agree_store {f r : Nat} {Fb Rb : List Nat} {L : List (Nat × Nat)} (h : Agree f r Fb Rb L) (hd : f + Fb.length ≤ r ∨ r + Rb.length ≤ f) (a k x : Nat) : Agree f r Fb (ramS r Rb.length Rb a k x) (logS r Rb.length L a k x) := by
  unfold ramS logS
  by_cases hz : storeS r Rb.length a k = 0
  · rw [if_pos hz, if_pos hz]
    have hi : inB r Rb.length a k = true := by
      unfold storeS at hz
      split at hz
      · cases hz
      · split at hz
        · assumption
        · cases hz
    have := inB_out hi
    have k1 := agree_ram h hd (a - r) (lowB k x) (by rw [lowB_length]; omega)
    rwa [show r + (a - r) = a by omega] at k1
  · rw [if_neg hz, if_neg hz]; exact h
theorem ramS_length (r : Nat) (Rb : List Nat) (a k x : Nat) : (ramS r Rb.length Rb a k x).length = Rb.length := by
  unfold ramS
  split
  · rename_i hz
    have hi : inB r Rb.length a k = true := by
      unfold storeS at hz
      split at hz
      · cases hz
      · split at hz
        · assumption
        · cases hz
    have := inB_out hi
    exact setB_length _ _ _ (by rw [lowB_length]; omega)
  · rfl
theorem logS_length (r n2 : Nat) (L : List (Nat × Nat)) (a k x : Nat) : (logS r n2 L a k x).length ≤ L.length + k := by
  unfold logS
  split
  · rw [List.length_append, writes_length, lowB_length]; exact Nat.le_refl _
  · omega

/-! noughts -/
def noughts (n : Nat) : List Nat := List.replicate n 0
theorem bytes_noughts (n o k : Nat) : bytesAt (noughts n) o k = 0 := by
  unfold bytesAt noughts
  rw [List.drop_replicate, List.take_replicate]
  induction (min k (n - o)) with
  | zero => rfl
  | succ m ih => rw [List.replicate_succ]; simp [numB, ih]
theorem low_noughts (k : Nat) : lowB k 0 = List.replicate k 0 := by
  induction k with
  | zero => rfl
  | succ k ih => simp [lowB, ih, List.replicate_succ]
theorem ram_noughts (r n a k : Nat) : ramS r n (noughts n) a k 0 = noughts n := by
  unfold ramS
  split
  · rename_i hz
    have hi : inB r n a k = true := by
      unfold storeS at hz
      split at hz
      · cases hz
      · split at hz
        · assumption
        · cases hz
    have := inB_out hi
    unfold setB noughts
    rw [low_noughts, List.length_replicate, List.take_replicate, List.drop_replicate, List.replicate_append_replicate, List.replicate_append_replicate]
    congr 1
    omega
  · rfl
/-- where the document's memory may change, all told -/
def RB (X B : Nat) (j : Nat) : Prop := j = X ∨ B ≤ j
/-- both memories, all of noughts -/
structure Pair (M F R X B f n1 r n2 cnt : Nat) (W : World) : Prop where
  m : MemIs M F R f r (noughts n1) (noughts n2) W
  x : ∃ L v, RefIs X B f n1 r n2 L v W ∧ Agree f r (noughts n1) (noughts n2) L ∧ L.length ≤ 4 * cnt
theorem Pair.like {M F R X B f n1 r n2 cnt : Nat} {W W' : World} (h : Pair M F R X B f n1 r n2 cnt W) (hl : LikeG W W') : Pair M F R X B f n1 r n2 cnt W' := by
  obtain ⟨L, v, k1, k2, k3⟩ := h.x
  exact ⟨h.m.like hl, L, v, k1.like hl, k2, k3⟩
def trapL (f n1 r n2 a k : Nat) : Int := if k = 1 ∨ k = 2 ∨ k = 4 then (loadS f n1 r n2 (noughts n1) (noughts n2) a k).2 else 3
def trapS (r n2 a k : Nat) : Int := if k = 1 ∨ k = 2 ∨ k = 4 then storeS r n2 a k else 4
theorem pair_load {M F R X B f n1 r n2 cnt : Nat} {W : World} (h : Pair M F R X B f n1 r n2 cnt W) (hb : Banks f n1 r n2) (a k : Nat) (ha : a < 4294967296) :
    Calls Try.prog 55 #[.pointer (some ⟨M, 0, none⟩), .int .u32 (a : Nat), .int .i64 (k : Nat)] W (LoadPost W 0 (trapL f n1 r n2 a k)) := by
  have l1 : (noughts n1).length = n1 := List.length_replicate ..
  have l2 : (noughts n2).length = n2 := List.length_replicate ..
  unfold trapL
  split
  · rename_i hk
    have := load_any h.m (by rw [l1, l2]; exact hb) a k ha hk
    rw [l1, l2] at this
    have e : (loadS f n1 r n2 (noughts n1) (noughts n2) a k).1 = 0 := by
      unfold loadS
      split
      · rfl
      · split
        · exact bytes_noughts _ _ _
        · split
          · exact bytes_noughts _ _ _
          · rfl
    rw [e] at this
    exact this
  · rename_i hk
    exact load_size M a k W (by omega)
theorem pair_rload {M F R X B f n1 r n2 cnt : Nat} {W : World} (h : Pair M F R X B f n1 r n2 cnt W) (hb : Banks f n1 r n2) (a k : Nat) (ha : a < 4294967296) :
    Calls Try.prog 97 #[.pointer (some ⟨X, 0, none⟩), .int .u32 (a : Nat), .int .i64 (k : Nat)] W fun e w' => ∃ n : Nat, LoadPost W n (trapL f n1 r n2 a k) e w' := by
  have l1 : (noughts n1).length = n1 := List.length_replicate ..
  have l2 : (noughts n2).length = n2 := List.length_replicate ..
  obtain ⟨L, v, k1, k2, k3⟩ := h.x
  unfold trapL
  split
  · rename_i hk
    refine (rload_any k1 hb a k ha hk).mono fun e w' hp => ?_
    have e1 := load_same k2 a k
    rw [l1, l2] at e1
    rw [e1] at hp
    exact ⟨_, hp⟩
  · rename_i hk
    exact (rload_size X a k W (by omega)).mono fun e w' hp => ⟨0, hp⟩
theorem pair_store {M F R X B f n1 r n2 cnt : Nat} {W : World} (h : Pair M F R X B f n1 r n2 cnt W) (hb : Banks f n1 r n2) (hR : R < B) (hXR : X ≠ R) (a k : Nat) (ha : a < 4294967296) :
    Calls Try.prog 73 #[.pointer (some ⟨M, 0, none⟩), .int .u32 (a : Nat), .int .i64 (k : Nat), .int .u32 0] W fun e w' => e = .returned (.int .i64 (trapS r n2 a k)) ∧ Pair M F R X B f n1 r n2 cnt w' ∧ Out (· = R) W w' := by
  have l1 : (noughts n1).length = n1 := List.length_replicate ..
  have l2 : (noughts n2).length = n2 := List.length_replicate ..
  obtain ⟨L, v, k1, k2, k3⟩ := h.x
  unfold trapS
  split
  · rename_i hk
    have := store_any h.m (by rw [l1, l2]; exact hb) a k 0 ha hk (by omega)
    rw [l2, ram_noughts] at this
    refine this.mono ?_
    rintro e w' ⟨he, hm, ho⟩
    exact ⟨he, ⟨hm, L, v, k1.out ho hXR (fun j hj e => by have := (k1.own.lt j hj).1; omega), k2, k3⟩, ho⟩
  · rename_i hk
    refine (store_size M a k 0 W (by omega)).mono ?_
    rintro e w' ⟨he, hl⟩
    exact ⟨he, h.like hl, hl.out _⟩
theorem pair_rstore {M F R X B f n1 r n2 cnt : Nat} {W : World} (h : Pair M F R X B f n1 r n2 cnt W) (hb : Banks f n1 r n2) (hM : M < B ∧ M ≠ X) (hF : F < B ∧ F ≠ X) (hR : R < B ∧ R ≠ X) (hc : cnt ≤ 1000) (a k : Nat) (ha : a < 4294967296) :
    Calls Try.prog 96 #[.pointer (some ⟨X, 0, none⟩), .int .u32 (a : Nat), .int .i64 (k : Nat), .int .u32 0] W fun e w' => e = .returned (.int .i64 (trapS r n2 a k)) ∧ Pair M F R X B f n1 r n2 (cnt + 1) w' ∧ Out (RB X B) W w' := by
  have l1 : (noughts n1).length = n1 := List.length_replicate ..
  have l2 : (noughts n2).length = n2 := List.length_replicate ..
  obtain ⟨L, v, k1, k2, k3⟩ := h.x
  unfold trapS
  split
  · rename_i hk
    refine (rstore_any k1 hb a k 0 ha (by omega) hk (by omega)).mono ?_
    rintro e w' ⟨he, v', hr, ho', _⟩
    have ho := ho'.mono (T := RB X B) fun j hj => hj.imp id fun h => (k1.own.lt j h).1
    have ag := agree_store k2 (by rw [l1, l2]; exact hb.e) a k 0
    rw [l2, ram_noughts] at ag
    have hl := logS_length r n2 L a k 0
    exact ⟨he, ⟨h.m.out ho (by unfold RB; omega) (by unfold RB; omega) (by unfold RB; omega), _, v', hr, ag, by omega⟩, ho⟩
  · rename_i hk
    refine (rstore_size X a k 0 W (by omega)).mono ?_
    rintro e w' ⟨he, hl⟩
    exact ⟨he, ⟨h.m.like hl, L, v, k1.like hl, k2, by omega⟩, hl.out _⟩
end Go.Proofs.Ytghclbeoabkgcaa
