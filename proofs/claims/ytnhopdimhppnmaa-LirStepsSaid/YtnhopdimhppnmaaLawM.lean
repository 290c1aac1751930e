/- The statements of layer 15 (loop programs) on single steps and on programs that are too long: they return true for all inputs. -/
import Derived.Test.YtnhopdimhppnmaaRows
import Derived.Test.YtnhopdimhppnmaaLirF
import Derived.Test.YtnhopdimhppnmaaOpen
import Derived.Deep.RegionHeld3
namespace Go.Proofs.Ytnhopdimhppnmaa
open Go Go.RowKit Go.ChangeShapes Go.WideShapes Go.ChangeAt
set_option linter.unusedVariables false

theorem check_one_no {x : Q5} (h : canS x = false) : checkS [x] = 1 := check_arg (x := x) (by simp) (by simp) h
theorem check_one_loop {x : Q5} (h : canS x = true) (ho : x.o = 23 ∨ x.o = 24) : checkS [x] = 4 := by
  refine check_ends (by simp) (by simpa using h) ?_
  rcases ho with ho | ho
  · simp [endsS, runE, stepE, ho]
  · simp [endsS, runE, stepE, ho]
theorem check_one_ok {x : Q5} (h : canS x = true) (h3 : x.o ≠ 23) (h4 : x.o ≠ 24) : checkS [x] = 0 := by
  have e : endsS [x] = some [-1] := by simp [endsS, runE, stepE, h3, h4]
  have c : countedS [x] = true := by simp [countedS, runC, stepC, h3, h4]
  rw [check_cnt (by simp) (by simpa using h) e, c]
  rfl
theorem reads_len (x : Q5) : (readsS x).length ≤ 1000000000000 := by
  unfold readsS
  split
  · split <;> split <;> simp
  · simp

/-- where a slice of steps lies behind a draw -/
theorem l5_drew {w : World} {a : Option Addr} {l : List Q5} (h : L5 w a l) : L5 w.drew a l := h
theorem check_lit (o d a b i : Int) (W : World) (H : Nat) (hH : W.heap.size = H) : Calls Try.prog 21 #[.slice (some ⟨H, 0, none⟩) 1 1] (W.alloc (.cells #[.int .i64 o, .int .i64 d, .int .i64 a, .int .i64 b, .int .i32 i] 34)) fun e w' => e = .returned (.int .i64 (checkS [⟨o, d, a, b, i⟩])) ∧ Below (W.alloc (.cells #[.int .i64 o, .int .i64 d, .int .i64 a, .int .i64 b, .int .i32 i] 34)).heap.size (W.alloc (.cells #[.int .i64 o, .int .i64 d, .int .i64 a, .int .i64 b, .int .i32 i] 34)) w' :=
  check_any (some ⟨H, 0, none⟩) 1 [⟨o, d, a, b, i⟩] _ (l5_lit W _ [⟨o, d, a, b, i⟩] (Q5.arr ⟨o, d, a, b, i⟩) rfl H hH (by simp))
theorem check_drew (o d a b i : Int) (W : World) (H : Nat) (hH : W.heap.size = H) : Calls Try.prog 21 #[.slice (some ⟨H, 0, none⟩) 1 1] (W.alloc (.cells #[.int .i64 o, .int .i64 d, .int .i64 a, .int .i64 b, .int .i32 i] 34)).drew fun e w' => e = .returned (.int .i64 (checkS [⟨o, d, a, b, i⟩])) ∧ Below (W.alloc (.cells #[.int .i64 o, .int .i64 d, .int .i64 a, .int .i64 b, .int .i32 i] 34)).drew.heap.size (W.alloc (.cells #[.int .i64 o, .int .i64 d, .int .i64 a, .int .i64 b, .int .i32 i] 34)).drew w' :=
  check_any (some ⟨H, 0, none⟩) 1 [⟨o, d, a, b, i⟩] _ (l5_drew (l5_lit W _ [⟨o, d, a, b, i⟩] (Q5.arr ⟨o, d, a, b, i⟩) rfl H hH (by simp)))
def wantS (x : Q5) : Int := if canS x then (if x.o = 23 ∨ x.o = 24 then 4 else 0) else 1
theorem check_one (x : Q5) : checkS [x] = wantS x := by
  unfold wantS
  cases h : canS x
  · simpa using check_one_no h
  · by_cases ho : x.o = 23 ∨ x.o = 24
    · rw [if_pos rfl, if_pos ho]; exact check_one_loop h ho
    · rw [if_pos rfl, if_neg ho]; exact check_one_ok h (by omega) (by omega)

set_option maxHeartbeats 2000000 in
theorem steps_no (o d a b i : Int) (w : World) (hI : -2147483648 ≤ i ∧ i ≤ 2147483647) (hc : canS ⟨o, d, a, b, i⟩ = false)  :
    Calls Try.prog 7 #[.agg #[.int .i64 o, .int .i64 d, .int .i64 a, .int .i64 b, .int .i32 i]] w fun e w' => e = .returned (.bool true) ∧ Below w.heap.size w w' := by
  have CK := Lib.hid (show checkS [⟨o, d, a, b, i⟩] = 1 by rw [check_one]; unfold wantS; simp [hc])
  have LN := Lib.hid (reads_len ⟨o, d, a, b, i⟩)
  have C := Lib.hid (rcan_is o d a b i · hI hc)
  clear hc 
  go_enter Try.func7, Try.ntmps7
  go_wp2_with fail
  refine (C.out _).mono ?_
  rintro e w1 ⟨rfl, hw1⟩
  have hS : w1.cell? ⟨w.heap.size, 0, none⟩ = some (.int .i64 o) ∧ w1.cell? ⟨w.heap.size, 1, none⟩ = some (.int .i64 d) ∧ w1.cell? ⟨w.heap.size, 2, none⟩ = some (.int .i64 a) ∧ w1.cell? ⟨w.heap.size, 3, none⟩ = some (.int .i64 b) ∧ w1.cell? ⟨w.heap.size, 4, none⟩ = some (.int .i32 i) ∧ w.heap.size < w1.heap.size ∧ Below w.heap.size w w1 := by
    subst hw1
    exact ⟨by simp, by simp, by simp, by simp, by simp, by simp; omega, by go_grown⟩
  clear hw1
  have c0 := hS.1
  have c1 := hS.2.1
  have c2 := hS.2.2.1
  have c3 := hS.2.2.2.1
  have c4 := hS.2.2.2.2.1
  have hz := hS.2.2.2.2.2.1
  go_wp2_with fail
  go_region_held3 (fun w' => w'.cell? ⟨w.heap.size, 0, none⟩ = some (.int .i64 o) ∧ w'.cell? ⟨w.heap.size, 1, none⟩ = some (.int .i64 d) ∧ w'.cell? ⟨w.heap.size, 2, none⟩ = some (.int .i64 a) ∧ w'.cell? ⟨w.heap.size, 3, none⟩ = some (.int .i64 b) ∧ w'.cell? ⟨w.heap.size, 4, none⟩ = some (.int .i32 i) ∧ w.heap.size < w'.heap.size ∧ Below w.heap.size w w')
    (first | (with_reducible assumption) | (obtain ⟨s0, s1, s2, s3, s4, s5, s6⟩ := ‹_ ∧ _ ∧ _ ∧ _ ∧ _ ∧ _ ∧ Below w.heap.size w _›; exact ⟨(hbl.cell (by show w.heap.size < _; omega)).trans s0, (hbl.cell (by show w.heap.size < _; omega)).trans s1, (hbl.cell (by show w.heap.size < _; omega)).trans s2, (hbl.cell (by show w.heap.size < _; omega)).trans s3, (hbl.cell (by show w.heap.size < _; omega)).trans s4, Nat.lt_of_lt_of_le s5 hbl.size, s6.trans (hbl.mono s6.size)⟩) | (obtain ⟨s0, s1, s2, s3, s4, s5, s6⟩ := ‹_ ∧ _ ∧ _ ∧ _ ∧ _ ∧ _ ∧ Below w.heap.size w _›; exact ⟨(World.cell?_alloc_past _ _ _ (by omega)).trans s0, (World.cell?_alloc_past _ _ _ (by omega)).trans s1, (World.cell?_alloc_past _ _ _ (by omega)).trans s2, (World.cell?_alloc_past _ _ _ (by omega)).trans s3, (World.cell?_alloc_past _ _ _ (by omega)).trans s4, Nat.lt_of_lt_of_le s5 (by simp), s6.alloc s6.size _⟩) | (obtain ⟨s0, s1, s2, s3, s4, s5, s6⟩ := ‹_ ∧ _ ∧ _ ∧ _ ∧ _ ∧ _ ∧ Below w.heap.size w _›; exact ⟨s0, s1, s2, s3, s4, s5, s6.drew⟩) | (obtain ⟨s0, s1, s2, s3, s4, s5, s6⟩ := ‹_ ∧ _ ∧ _ ∧ _ ∧ _ ∧ _ ∧ Below w.heap.size w _›; exact ⟨(World.cell?_alloc_past _ _ _ (by omega)).trans s0, (World.cell?_alloc_past _ _ _ (by omega)).trans s1, (World.cell?_alloc_past _ _ _ (by omega)).trans s2, (World.cell?_alloc_past _ _ _ (by omega)).trans s3, (World.cell?_alloc_past _ _ _ (by omega)).trans s4, Nat.lt_of_lt_of_le s5 (by simp), (s6.alloc s6.size _).drew⟩) | (obtain ⟨s0, s1, s2, s3, s4, s5, s6⟩ := ‹_ ∧ _ ∧ _ ∧ _ ∧ _ ∧ _ ∧ Below w.heap.size w _›; exact ⟨s0, s1, s2, s3, s4, s5, s6⟩))
    (first
    | (go_at_call 21; refine (check_lit o d a b i _ _ rfl).mono ?_; rw [CK.out]; rintro e w1 ⟨rfl, hbl⟩)
    | (go_at_call 21; refine (check_drew o d a b i _ _ rfl).mono ?_; rw [CK.out]; rintro e w1 ⟨rfl, hbl⟩)
    | (go_at_call 23; refine (reads_any _ _ _ _ _ _).mono ?_; rintro e w1 ⟨v1, rfl, o1, hbl⟩; obtain ⟨a1, c1, rfl, l1⟩ := own_i o1 LN.out; clear o1)
    | (go_at_call 24; refine (rreads_any _ _ _ _ _ _ hI).mono ?_; rintro e w1 ⟨v1, rfl, o1, hbl⟩; obtain ⟨a2, c2, rfl, l2⟩ := own_i o1 LN.out; clear o1; replace l1 := l1.later hbl)
    | (go_at_call 22; refine (ints_eq _ _ _ _ _ _ l1 l2).mono ?_; rintro e w9 ⟨rfl, hbl⟩; replace hbl := below_draw hbl; clear l1 l2)
    | (go_at_call 25; refine (writes_any _ _ _ _ _ _).mono ?_; rintro e w1 ⟨rfl, hbl⟩)
    | (go_at_call 26; refine (rwrites_any _ _ _ _ _ _ hI).mono ?_; rintro e w1 ⟨rfl, hbl⟩)
    | (go_at_call 27; refine (law15_lives _).mono ?_; rintro e w1 ⟨rfl, hbl⟩))
  obtain ⟨_, _, _, _, _, _, hB⟩ := ‹_ ∧ _ ∧ _ ∧ _ ∧ _ ∧ _ ∧ Below w.heap.size w _›
  go_wp2
  go_ret
  exact ⟨rfl, hB⟩

set_option maxHeartbeats 2000000 in
theorem steps_l3 (o d a b i : Int) (w : World) (hI : -2147483648 ≤ i ∧ i ≤ 2147483647) (hc : canS ⟨o, d, a, b, i⟩ = true) (h3 : o = 23) :
    Calls Try.prog 7 #[.agg #[.int .i64 o, .int .i64 d, .int .i64 a, .int .i64 b, .int .i32 i]] w fun e w' => e = .returned (.bool true) ∧ Below w.heap.size w w' := by
  have CK := Lib.hid (show checkS [⟨o, d, a, b, i⟩] = 4 by rw [check_one]; unfold wantS; rw [hc, if_pos rfl, if_pos (Or.inl h3)])
  have LN := Lib.hid (reads_len ⟨o, d, a, b, i⟩)
  have C := Lib.hid (rcan_is o d a b i · hI hc)
  clear hc 
  subst h3
  go_enter Try.func7, Try.ntmps7
  go_wp2_with fail
  refine (C.out _).mono ?_
  rintro e w1 ⟨rfl, hw1⟩
  have hS : w1.cell? ⟨w.heap.size, 0, none⟩ = some (.int .i64 23) ∧ w1.cell? ⟨w.heap.size, 1, none⟩ = some (.int .i64 d) ∧ w1.cell? ⟨w.heap.size, 2, none⟩ = some (.int .i64 a) ∧ w1.cell? ⟨w.heap.size, 3, none⟩ = some (.int .i64 b) ∧ w1.cell? ⟨w.heap.size, 4, none⟩ = some (.int .i32 i) ∧ w.heap.size < w1.heap.size ∧ Below w.heap.size w w1 := by
    subst hw1
    exact ⟨by simp, by simp, by simp, by simp, by simp, by simp; omega, by go_grown⟩
  clear hw1
  have c0 := hS.1
  have c1 := hS.2.1
  have c2 := hS.2.2.1
  have c3 := hS.2.2.2.1
  have c4 := hS.2.2.2.2.1
  have hz := hS.2.2.2.2.2.1
  go_wp2_with fail
  go_region_held3 (fun w' => w'.cell? ⟨w.heap.size, 0, none⟩ = some (.int .i64 23) ∧ w'.cell? ⟨w.heap.size, 1, none⟩ = some (.int .i64 d) ∧ w'.cell? ⟨w.heap.size, 2, none⟩ = some (.int .i64 a) ∧ w'.cell? ⟨w.heap.size, 3, none⟩ = some (.int .i64 b) ∧ w'.cell? ⟨w.heap.size, 4, none⟩ = some (.int .i32 i) ∧ w.heap.size < w'.heap.size ∧ Below w.heap.size w w')
    (first | (with_reducible assumption) | (obtain ⟨s0, s1, s2, s3, s4, s5, s6⟩ := ‹_ ∧ _ ∧ _ ∧ _ ∧ _ ∧ _ ∧ Below w.heap.size w _›; exact ⟨(hbl.cell (by show w.heap.size < _; omega)).trans s0, (hbl.cell (by show w.heap.size < _; omega)).trans s1, (hbl.cell (by show w.heap.size < _; omega)).trans s2, (hbl.cell (by show w.heap.size < _; omega)).trans s3, (hbl.cell (by show w.heap.size < _; omega)).trans s4, Nat.lt_of_lt_of_le s5 hbl.size, s6.trans (hbl.mono s6.size)⟩) | (obtain ⟨s0, s1, s2, s3, s4, s5, s6⟩ := ‹_ ∧ _ ∧ _ ∧ _ ∧ _ ∧ _ ∧ Below w.heap.size w _›; exact ⟨(World.cell?_alloc_past _ _ _ (by omega)).trans s0, (World.cell?_alloc_past _ _ _ (by omega)).trans s1, (World.cell?_alloc_past _ _ _ (by omega)).trans s2, (World.cell?_alloc_past _ _ _ (by omega)).trans s3, (World.cell?_alloc_past _ _ _ (by omega)).trans s4, Nat.lt_of_lt_of_le s5 (by simp), s6.alloc s6.size _⟩) | (obtain ⟨s0, s1, s2, s3, s4, s5, s6⟩ := ‹_ ∧ _ ∧ _ ∧ _ ∧ _ ∧ _ ∧ Below w.heap.size w _›; exact ⟨s0, s1, s2, s3, s4, s5, s6.drew⟩) | (obtain ⟨s0, s1, s2, s3, s4, s5, s6⟩ := ‹_ ∧ _ ∧ _ ∧ _ ∧ _ ∧ _ ∧ Below w.heap.size w _›; exact ⟨(World.cell?_alloc_past _ _ _ (by omega)).trans s0, (World.cell?_alloc_past _ _ _ (by omega)).trans s1, (World.cell?_alloc_past _ _ _ (by omega)).trans s2, (World.cell?_alloc_past _ _ _ (by omega)).trans s3, (World.cell?_alloc_past _ _ _ (by omega)).trans s4, Nat.lt_of_lt_of_le s5 (by simp), (s6.alloc s6.size _).drew⟩) | (obtain ⟨s0, s1, s2, s3, s4, s5, s6⟩ := ‹_ ∧ _ ∧ _ ∧ _ ∧ _ ∧ _ ∧ Below w.heap.size w _›; exact ⟨s0, s1, s2, s3, s4, s5, s6⟩))
    (first
    | (go_at_call 21; refine (check_lit 23 d a b i _ _ rfl).mono ?_; rw [CK.out]; rintro e w1 ⟨rfl, hbl⟩)
    | (go_at_call 21; refine (check_drew 23 d a b i _ _ rfl).mono ?_; rw [CK.out]; rintro e w1 ⟨rfl, hbl⟩)
    | (go_at_call 23; refine (reads_any _ _ _ _ _ _).mono ?_; rintro e w1 ⟨v1, rfl, o1, hbl⟩; obtain ⟨a1, c1, rfl, l1⟩ := own_i o1 LN.out; clear o1)
    | (go_at_call 24; refine (rreads_any _ _ _ _ _ _ hI).mono ?_; rintro e w1 ⟨v1, rfl, o1, hbl⟩; obtain ⟨a2, c2, rfl, l2⟩ := own_i o1 LN.out; clear o1; replace l1 := l1.later hbl)
    | (go_at_call 22; refine (ints_eq _ _ _ _ _ _ l1 l2).mono ?_; rintro e w9 ⟨rfl, hbl⟩; replace hbl := below_draw hbl; clear l1 l2)
    | (go_at_call 25; refine (writes_any _ _ _ _ _ _).mono ?_; rintro e w1 ⟨rfl, hbl⟩)
    | (go_at_call 26; refine (rwrites_any _ _ _ _ _ _ hI).mono ?_; rintro e w1 ⟨rfl, hbl⟩)
    | (go_at_call 27; refine (law15_lives _).mono ?_; rintro e w1 ⟨rfl, hbl⟩))
  obtain ⟨_, _, _, _, _, _, hB⟩ := ‹_ ∧ _ ∧ _ ∧ _ ∧ _ ∧ _ ∧ Below w.heap.size w _›
  go_wp2
  go_ret
  exact ⟨rfl, hB⟩

set_option maxHeartbeats 2000000 in
theorem steps_l4 (o d a b i : Int) (w : World) (hI : -2147483648 ≤ i ∧ i ≤ 2147483647) (hc : canS ⟨o, d, a, b, i⟩ = true) (h4 : o = 24) :
    Calls Try.prog 7 #[.agg #[.int .i64 o, .int .i64 d, .int .i64 a, .int .i64 b, .int .i32 i]] w fun e w' => e = .returned (.bool true) ∧ Below w.heap.size w w' := by
  have CK := Lib.hid (show checkS [⟨o, d, a, b, i⟩] = 4 by rw [check_one]; unfold wantS; rw [hc, if_pos rfl, if_pos (Or.inr h4)])
  have LN := Lib.hid (reads_len ⟨o, d, a, b, i⟩)
  have C := Lib.hid (rcan_is o d a b i · hI hc)
  clear hc 
  subst h4
  go_enter Try.func7, Try.ntmps7
  go_wp2_with fail
  refine (C.out _).mono ?_
  rintro e w1 ⟨rfl, hw1⟩
  have hS : w1.cell? ⟨w.heap.size, 0, none⟩ = some (.int .i64 24) ∧ w1.cell? ⟨w.heap.size, 1, none⟩ = some (.int .i64 d) ∧ w1.cell? ⟨w.heap.size, 2, none⟩ = some (.int .i64 a) ∧ w1.cell? ⟨w.heap.size, 3, none⟩ = some (.int .i64 b) ∧ w1.cell? ⟨w.heap.size, 4, none⟩ = some (.int .i32 i) ∧ w.heap.size < w1.heap.size ∧ Below w.heap.size w w1 := by
    subst hw1
    exact ⟨by simp, by simp, by simp, by simp, by simp, by simp; omega, by go_grown⟩
  clear hw1
  have c0 := hS.1
  have c1 := hS.2.1
  have c2 := hS.2.2.1
  have c3 := hS.2.2.2.1
  have c4 := hS.2.2.2.2.1
  have hz := hS.2.2.2.2.2.1
  go_wp2_with fail
  go_region_held3 (fun w' => w'.cell? ⟨w.heap.size, 0, none⟩ = some (.int .i64 24) ∧ w'.cell? ⟨w.heap.size, 1, none⟩ = some (.int .i64 d) ∧ w'.cell? ⟨w.heap.size, 2, none⟩ = some (.int .i64 a) ∧ w'.cell? ⟨w.heap.size, 3, none⟩ = some (.int .i64 b) ∧ w'.cell? ⟨w.heap.size, 4, none⟩ = some (.int .i32 i) ∧ w.heap.size < w'.heap.size ∧ Below w.heap.size w w')
    (first | (with_reducible assumption) | (obtain ⟨s0, s1, s2, s3, s4, s5, s6⟩ := ‹_ ∧ _ ∧ _ ∧ _ ∧ _ ∧ _ ∧ Below w.heap.size w _›; exact ⟨(hbl.cell (by show w.heap.size < _; omega)).trans s0, (hbl.cell (by show w.heap.size < _; omega)).trans s1, (hbl.cell (by show w.heap.size < _; omega)).trans s2, (hbl.cell (by show w.heap.size < _; omega)).trans s3, (hbl.cell (by show w.heap.size < _; omega)).trans s4, Nat.lt_of_lt_of_le s5 hbl.size, s6.trans (hbl.mono s6.size)⟩) | (obtain ⟨s0, s1, s2, s3, s4, s5, s6⟩ := ‹_ ∧ _ ∧ _ ∧ _ ∧ _ ∧ _ ∧ Below w.heap.size w _›; exact ⟨(World.cell?_alloc_past _ _ _ (by omega)).trans s0, (World.cell?_alloc_past _ _ _ (by omega)).trans s1, (World.cell?_alloc_past _ _ _ (by omega)).trans s2, (World.cell?_alloc_past _ _ _ (by omega)).trans s3, (World.cell?_alloc_past _ _ _ (by omega)).trans s4, Nat.lt_of_lt_of_le s5 (by simp), s6.alloc s6.size _⟩) | (obtain ⟨s0, s1, s2, s3, s4, s5, s6⟩ := ‹_ ∧ _ ∧ _ ∧ _ ∧ _ ∧ _ ∧ Below w.heap.size w _›; exact ⟨s0, s1, s2, s3, s4, s5, s6.drew⟩) | (obtain ⟨s0, s1, s2, s3, s4, s5, s6⟩ := ‹_ ∧ _ ∧ _ ∧ _ ∧ _ ∧ _ ∧ Below w.heap.size w _›; exact ⟨(World.cell?_alloc_past _ _ _ (by omega)).trans s0, (World.cell?_alloc_past _ _ _ (by omega)).trans s1, (World.cell?_alloc_past _ _ _ (by omega)).trans s2, (World.cell?_alloc_past _ _ _ (by omega)).trans s3, (World.cell?_alloc_past _ _ _ (by omega)).trans s4, Nat.lt_of_lt_of_le s5 (by simp), (s6.alloc s6.size _).drew⟩) | (obtain ⟨s0, s1, s2, s3, s4, s5, s6⟩ := ‹_ ∧ _ ∧ _ ∧ _ ∧ _ ∧ _ ∧ Below w.heap.size w _›; exact ⟨s0, s1, s2, s3, s4, s5, s6⟩))
    (first
    | (go_at_call 21; refine (check_lit 24 d a b i _ _ rfl).mono ?_; rw [CK.out]; rintro e w1 ⟨rfl, hbl⟩)
    | (go_at_call 21; refine (check_drew 24 d a b i _ _ rfl).mono ?_; rw [CK.out]; rintro e w1 ⟨rfl, hbl⟩)
    | (go_at_call 23; refine (reads_any _ _ _ _ _ _).mono ?_; rintro e w1 ⟨v1, rfl, o1, hbl⟩; obtain ⟨a1, c1, rfl, l1⟩ := own_i o1 LN.out; clear o1)
    | (go_at_call 24; refine (rreads_any _ _ _ _ _ _ hI).mono ?_; rintro e w1 ⟨v1, rfl, o1, hbl⟩; obtain ⟨a2, c2, rfl, l2⟩ := own_i o1 LN.out; clear o1; replace l1 := l1.later hbl)
    | (go_at_call 22; refine (ints_eq _ _ _ _ _ _ l1 l2).mono ?_; rintro e w9 ⟨rfl, hbl⟩; replace hbl := below_draw hbl; clear l1 l2)
    | (go_at_call 25; refine (writes_any _ _ _ _ _ _).mono ?_; rintro e w1 ⟨rfl, hbl⟩)
    | (go_at_call 26; refine (rwrites_any _ _ _ _ _ _ hI).mono ?_; rintro e w1 ⟨rfl, hbl⟩)
    | (go_at_call 27; refine (law15_lives _).mono ?_; rintro e w1 ⟨rfl, hbl⟩))
  obtain ⟨_, _, _, _, _, _, hB⟩ := ‹_ ∧ _ ∧ _ ∧ _ ∧ _ ∧ _ ∧ Below w.heap.size w _›
  go_wp2
  go_ret
  exact ⟨rfl, hB⟩

set_option maxHeartbeats 2000000 in
theorem steps_ok (o d a b i : Int) (w : World) (hI : -2147483648 ≤ i ∧ i ≤ 2147483647) (hc : canS ⟨o, d, a, b, i⟩ = true) (h3 : o ≠ 23) (h4 : o ≠ 24) :
    Calls Try.prog 7 #[.agg #[.int .i64 o, .int .i64 d, .int .i64 a, .int .i64 b, .int .i32 i]] w fun e w' => e = .returned (.bool true) ∧ Below w.heap.size w w' := by
  have CK := Lib.hid (show checkS [⟨o, d, a, b, i⟩] = 0 by rw [check_one]; unfold wantS; simp [hc, h3, h4])
  have LN := Lib.hid (reads_len ⟨o, d, a, b, i⟩)
  have C := Lib.hid (rcan_is o d a b i · hI hc)
  have t3 : (o == 23) = false := by simp [h3]
  have t4 : (o == 24) = false := by simp [h4]
  clear hc h3 h4 
  go_enter Try.func7, Try.ntmps7
  go_wp2_with fail
  refine (C.out _).mono ?_
  rintro e w1 ⟨rfl, hw1⟩
  have hS : w1.cell? ⟨w.heap.size, 0, none⟩ = some (.int .i64 o) ∧ w1.cell? ⟨w.heap.size, 1, none⟩ = some (.int .i64 d) ∧ w1.cell? ⟨w.heap.size, 2, none⟩ = some (.int .i64 a) ∧ w1.cell? ⟨w.heap.size, 3, none⟩ = some (.int .i64 b) ∧ w1.cell? ⟨w.heap.size, 4, none⟩ = some (.int .i32 i) ∧ w.heap.size < w1.heap.size ∧ Below w.heap.size w w1 := by
    subst hw1
    exact ⟨by simp, by simp, by simp, by simp, by simp, by simp; omega, by go_grown⟩
  clear hw1
  have c0 := hS.1
  have c1 := hS.2.1
  have c2 := hS.2.2.1
  have c3 := hS.2.2.2.1
  have c4 := hS.2.2.2.2.1
  have hz := hS.2.2.2.2.2.1
  go_wp2_with fail
  go_region_held3 (fun w' => w'.cell? ⟨w.heap.size, 0, none⟩ = some (.int .i64 o) ∧ w'.cell? ⟨w.heap.size, 1, none⟩ = some (.int .i64 d) ∧ w'.cell? ⟨w.heap.size, 2, none⟩ = some (.int .i64 a) ∧ w'.cell? ⟨w.heap.size, 3, none⟩ = some (.int .i64 b) ∧ w'.cell? ⟨w.heap.size, 4, none⟩ = some (.int .i32 i) ∧ w.heap.size < w'.heap.size ∧ Below w.heap.size w w')
    (first | (with_reducible assumption) | (obtain ⟨s0, s1, s2, s3, s4, s5, s6⟩ := ‹_ ∧ _ ∧ _ ∧ _ ∧ _ ∧ _ ∧ Below w.heap.size w _›; exact ⟨(hbl.cell (by show w.heap.size < _; omega)).trans s0, (hbl.cell (by show w.heap.size < _; omega)).trans s1, (hbl.cell (by show w.heap.size < _; omega)).trans s2, (hbl.cell (by show w.heap.size < _; omega)).trans s3, (hbl.cell (by show w.heap.size < _; omega)).trans s4, Nat.lt_of_lt_of_le s5 hbl.size, s6.trans (hbl.mono s6.size)⟩) | (obtain ⟨s0, s1, s2, s3, s4, s5, s6⟩ := ‹_ ∧ _ ∧ _ ∧ _ ∧ _ ∧ _ ∧ Below w.heap.size w _›; exact ⟨(World.cell?_alloc_past _ _ _ (by omega)).trans s0, (World.cell?_alloc_past _ _ _ (by omega)).trans s1, (World.cell?_alloc_past _ _ _ (by omega)).trans s2, (World.cell?_alloc_past _ _ _ (by omega)).trans s3, (World.cell?_alloc_past _ _ _ (by omega)).trans s4, Nat.lt_of_lt_of_le s5 (by simp), s6.alloc s6.size _⟩) | (obtain ⟨s0, s1, s2, s3, s4, s5, s6⟩ := ‹_ ∧ _ ∧ _ ∧ _ ∧ _ ∧ _ ∧ Below w.heap.size w _›; exact ⟨s0, s1, s2, s3, s4, s5, s6.drew⟩) | (obtain ⟨s0, s1, s2, s3, s4, s5, s6⟩ := ‹_ ∧ _ ∧ _ ∧ _ ∧ _ ∧ _ ∧ Below w.heap.size w _›; exact ⟨(World.cell?_alloc_past _ _ _ (by omega)).trans s0, (World.cell?_alloc_past _ _ _ (by omega)).trans s1, (World.cell?_alloc_past _ _ _ (by omega)).trans s2, (World.cell?_alloc_past _ _ _ (by omega)).trans s3, (World.cell?_alloc_past _ _ _ (by omega)).trans s4, Nat.lt_of_lt_of_le s5 (by simp), (s6.alloc s6.size _).drew⟩) | (obtain ⟨s0, s1, s2, s3, s4, s5, s6⟩ := ‹_ ∧ _ ∧ _ ∧ _ ∧ _ ∧ _ ∧ Below w.heap.size w _›; exact ⟨s0, s1, s2, s3, s4, s5, s6⟩))
    (first
    | (go_at_call 21; refine (check_lit o d a b i _ _ rfl).mono ?_; rw [CK.out]; rintro e w1 ⟨rfl, hbl⟩)
    | (go_at_call 21; refine (check_drew o d a b i _ _ rfl).mono ?_; rw [CK.out]; rintro e w1 ⟨rfl, hbl⟩)
    | (go_at_call 23; refine (reads_any _ _ _ _ _ _).mono ?_; rintro e w1 ⟨v1, rfl, o1, hbl⟩; obtain ⟨a1, c1, rfl, l1⟩ := own_i o1 LN.out; clear o1)
    | (go_at_call 24; refine (rreads_any _ _ _ _ _ _ hI).mono ?_; rintro e w1 ⟨v1, rfl, o1, hbl⟩; obtain ⟨a2, c2, rfl, l2⟩ := own_i o1 LN.out; clear o1; replace l1 := l1.later hbl)
    | (go_at_call 22; refine (ints_eq _ _ _ _ _ _ l1 l2).mono ?_; rintro e w9 ⟨rfl, hbl⟩; replace hbl := below_draw hbl; clear l1 l2)
    | (go_at_call 25; refine (writes_any _ _ _ _ _ _).mono ?_; rintro e w1 ⟨rfl, hbl⟩)
    | (go_at_call 26; refine (rwrites_any _ _ _ _ _ _ hI).mono ?_; rintro e w1 ⟨rfl, hbl⟩)
    | (go_at_call 27; refine (law15_lives _).mono ?_; rintro e w1 ⟨rfl, hbl⟩))
  obtain ⟨_, _, _, _, _, _, hB⟩ := ‹_ ∧ _ ∧ _ ∧ _ ∧ _ ∧ _ ∧ Below w.heap.size w _›
  go_wp2
  go_ret
  exact ⟨rfl, hB⟩

theorem walk_LirSteps (o d a b i : Int) (w0 : (Lit.int .i64 o).wf = true) (w1 : (Lit.int .i64 d).wf = true) (w2 : (Lit.int .i64 a).wf = true) (w3 : (Lit.int .i64 b).wf = true) (w4 : (Lit.int .i32 i).wf = true) (w : World) :
    Calls Try.prog 7 #[.agg #[.int .i64 o, .int .i64 d, .int .i64 a, .int .i64 b, .int .i32 i]] w fun e w' => e = .returned (.bool true) ∧ Below w.heap.size w w' := by
  have hI := bd_i32 w4
  cases hc : canS ⟨o, d, a, b, i⟩
  · exact steps_no o d a b i w (by omega) hc
  · by_cases h3 : o = 23
    · exact steps_l3 o d a b i w (by omega) hc h3
    · by_cases h4 : o = 24
      · exact steps_l4 o d a b i w (by omega) hc h4
      · exact steps_ok o d a b i w (by omega) hc h3 h4

theorem own : ownKnob Try.prog.godebug = none := by kernel_rfl
theorem laidOut : laidOutB Try.prog = true := by kernel_rfl
set_option maxRecDepth 100000 in
theorem lifted_LirSteps (os : Os) (started : os.Started) (H : Type) (enc : TypeId × Value → H) :
    ReturnsInHanded {} Try.checked os 7 .any (Rows.lirStepsSpec.pre6 enc Try.prog Try.f7 Rows.lirStepsRow.domain false) (Rows.lirStepsSpec.post enc Try.prog Try.f7 false true false false) := by
  refine returnsInHanded_of_change (C := Try.checked) own started (by kernel_rfl) Try.func7
    (ChangeSpec.witness6 (enc := enc) (C := Try.checked) false ⟨#[], #[.agg #[.int .i64 0, .int .i64 0, .int .i64 0, .int .i64 0, .int .i32 0]], []⟩ 8 (by kernel_rfl) (by kernel_rfl) (by kernel_rfl) (by kernel_rfl)) ?_
  intro W base args ds gs before hval0 hW hcnd _
  have hval : ∀ (j : Nat) t v, Try.f7.params[j]? = some t → args[j]? = some v → Value.okWide Try.prog W .any base t v := hval0
  have hW' := hW
  obtain ⟨p, q, hA0, hV, rfl, hfz, hnd⟩ := hW
  have hA : DataW.TrodAll enc Try.prog W 0 (fun _ => true) true Try.f7.params.toList args.toList ds p := hA0
  rw [Try.params7] at hA hval
  obtain ⟨v0, vs0, d0, ds0, p0, q0, hargs, rfl, rfl, h0, r0⟩ := trodAll_cons hA
  obtain ⟨rfl, rfl, rfl⟩ := trodAll_nil r0
  obtain rfl : args = #[v0] := by cases args; simp_all
  obtain ⟨rfl, rfl⟩ := trodVars_none hV
  have k0 := h0
  have lt0 : ∀ x ∈ p0, x.block < W.heap.size := by obtain ⟨m, hm⟩ := k0; exact DataW.trod_lt m _ _ _ hm
  obtain ⟨zs0, zl0, rfl, zw0⟩ := flat_ints [.i64, .i64, .i64, .i64, .i32] (ts := [3, 3, 3, 3, 21]) (Or.inl ⟨_, Try.underlying34⟩) (by kernel_rfl) (by kernel_rfl) (by kernel_rfl) (hval 0 34 v0 rfl rfl)
  obtain ⟨a0_0, a0_1, a0_2, a0_3, a0_4, rfl⟩ := len5 zl0
  clear hA0 hval0
  refine (walk_LirSteps a0_0 a0_1 a0_2 a0_3 a0_4 (zw0 0 .i64 _ rfl rfl) (zw0 1 .i64 _ rfl rfl) (zw0 2 .i64 _ rfl rfl) (zw0 3 .i64 _ rfl rfl) (zw0 4 .i32 _ rfl rfl) W).mono fun e W' ⟨he, bel⟩ => ?_
  subst he
  exact ⟨_, rfl, _, _, _, [], _, [], hW', trodAll_mk1 (shut_bool Try.underlying4 _), (trodAll_cons_mk (Below.trod laidOut (by kernel_rfl) (of_decide_eq_true (by kernel_rfl)) k0 bel lt0) trodAll_mk0), rfl, bel.frame _, fun h => by cases h⟩

theorem holds_LirSteps : Rows.LirStepsSaid :=
  OpenClaim.holds_of_wide 7 Try.f7 rfl rfl rfl rfl rfl rfl rfl ⟨rfl, rfl, rfl, rfl, rfl⟩ rfl rfl rfl rfl rfl (by kernel_rfl) Try.func7 (by kernel_rfl)
    (of_decide_eq_true (by kernel_rfl)) (by unfold Func.isWrapper; first | (rw [if_pos (by decide +kernel)]; kernel_rfl) | (rw [if_neg (by decide +kernel)]; exact ⟨rfl, rfl⟩))
    (fun os started H enc _ => lifted_LirSteps os started H enc)

end Go.Proofs.Ytnhopdimhppnmaa
