/- Contracts of inst.Decode and what it calls. -/
import Derived.Test.YtmlhoagcppofgaaDoorInstC
namespace Go.Proofs.YtmlhoagcppofgaaDoor
open Go Go.RowKit Pl
set_option linter.unusedVariables false

def seqI (f : Nat) : Nat → List Int
  | 0 => []
  | n + 1 => (f : Int) :: seqI (f + 1) n
theorem find_next (t : Int) (f n : Nat) : findI t (seqI f (n + 1)) = if threeI f = t then (f : Int) else findI t (seqI (f + 1) n) := rfl
set_option maxHeartbeats 400000 in
theorem find_any (t : Int) (f n : Nat) (w : World) (ht : T3 w) (hn : f + n ≤ 49) (h1 : 1 ≤ n) :
    Calls Tryd.prog 46 #[.int .u32 t, .int .i64 (f : Int), .int .i64 ((f + n - 1 : Nat) : Int)] w fun e w' => e = .returned (.int .i64 (findI t (seqI f n))) ∧ w = w' := by
  have HT := Lib.hid ht
  clear ht
  obtain ⟨g, hg⟩ : ∃ g, g = f + n - 1 := ⟨_, rfl⟩
  rw [← hg]
  have HG := Lib.hid hg
  have hg2 : g + 1 ≤ f + n := by omega
  have hg3 : f + n ≤ g + 1 := by omega
  clear hg
  go_enter Tryd.func46, Tryd.ntmps46
  go_wp2
  go_loop [7] (fun v => ∃ j : Nat, f ≤ j ∧ j ≤ f + n ∧ v = .int .i64 (j : Int) ∧ findI t (seqI j (f + n - j)) = findI t (seqI f n)) (fun v => 60 - (intOf v).toNat)
  case atStart => exact ⟨f, by omega, by omega, rfl, by rw [show f + n - f = n by omega]⟩
  case round =>
    obtain ⟨j, hj, hk, rfl, hR⟩ := hrel
    have R := Lib.hid hR
    clear hR
    by_cases hlt : j < f + n
    · obtain ⟨m, hm⟩ : ∃ m, f + n - j = m + 1 := ⟨f + n - j - 1, by omega⟩
      have hc := HT.out.1 j (by omega)
      have hm2 : f + n - (j + 1) = m := by omega
      have FN := Lib.hid (find_next t j m)
      have HM := Lib.hid hm
      have HM2 := Lib.hid hm2
      clear hm hm2
      have t1 : decide (j ≤ g) = true := by simp; omega
      have q49 : j < 49 := by omega
      have hth : threeI (j : Int) = threeL.getD j 0 := rfl
      generalize threeL.getD j 0 = q at hc hth
      have HTH := Lib.hid hth
      clear hth
      by_cases he : q = t
      · have e : (q == t) = true := by simpa using he
        have FIN := Lib.hid (show (j : Int) = findI t (seqI f n) by rw [← R.out, HM.out, FN.out, if_pos (HTH.out.trans he)])
        clear he
        go_wp2
        go_ret
        exact ⟨congrArg (fun z => Ending.returned (.int .i64 z)) FIN.out, rfl⟩
      · have e : (q == t) = false := by simpa using he
        have FIN := Lib.hid (show findI t (seqI (j + 1) (f + n - (j + 1))) = findI t (seqI f n) by rw [← R.out, HM.out, FN.out, if_neg (fun h => he (HTH.out.symm.trans h)), HM2.out])
        clear he
        go_wp2
        go_round
        case rel => exact ⟨j + 1, by omega, by omega, by go_num, FIN.out⟩
        case measure => simp [intOf]; omega
    · have t1 : decide (j ≤ g) = false := by simp; omega
      have FIN := Lib.hid (show (0 : Int) = findI t (seqI f n) by rw [← R.out, show f + n - j = 0 by omega]; rfl)
      go_wp2
      go_ret
      exact ⟨congrArg (fun z => Ending.returned (.int .i64 z)) FIN.out, rfl⟩

theorem find_r (t : Int) (w : World) (ht : T3 w) : Calls Tryd.prog 46 #[.int .u32 t, .int .i64 1, .int .i64 10] w fun e w' => e = .returned (.int .i64 (findI t [1, 2, 3, 4, 5, 6, 7, 8, 9, 10])) ∧ w = w' := find_any t 1 10 w ht (by omega) (by omega)
theorem find_i (t : Int) (w : World) (ht : T3 w) : Calls Tryd.prog 46 #[.int .u32 t, .int .i64 19, .int .i64 24] w fun e w' => e = .returned (.int .i64 (findI t [19, 20, 21, 22, 23, 24])) ∧ w = w' := find_any t 19 6 w ht (by omega) (by omega)
theorem find_l (t : Int) (w : World) (ht : T3 w) : Calls Tryd.prog 46 #[.int .u32 t, .int .i64 28, .int .i64 32] w fun e w' => e = .returned (.int .i64 (findI t [28, 29, 30, 31, 32])) ∧ w = w' := find_any t 28 5 w ht (by omega) (by omega)
theorem find_s (t : Int) (w : World) (ht : T3 w) : Calls Tryd.prog 46 #[.int .u32 t, .int .i64 33, .int .i64 35] w fun e w' => e = .returned (.int .i64 (findI t [33, 34, 35])) ∧ w = w' := find_any t 33 3 w ht (by omega) (by omega)
theorem find_b (t : Int) (w : World) (ht : T3 w) : Calls Tryd.prog 46 #[.int .u32 t, .int .i64 36, .int .i64 41] w fun e w' => e = .returned (.int .i64 (findI t [36, 37, 38, 39, 40, 41])) ∧ w = w' := find_any t 36 6 w ht (by omega) (by omega)
theorem find_j (t : Int) (w : World) (ht : T3 w) : Calls Tryd.prog 46 #[.int .u32 t, .int .i64 45, .int .i64 45] w fun e w' => e = .returned (.int .i64 (findI t [45])) ∧ w = w' := find_any t 45 1 w ht (by omega) (by omega)

def ofThreeI (t s : Int) : Int := if s = 1 then 11 + t else if s = 0 then findI t [1, 2, 3, 4, 5, 6, 7, 8, 9, 10] else if s = 32 ∧ t = 0 then 2 else if s = 32 ∧ t = 5 then 8 else 0
def ofNumI (t s : Int) : Int := if t = 1 ∧ s = 0 then 25 else if t = 5 ∧ s = 0 then 26 else if t = 5 ∧ s = 32 then 27 else findI t [19, 20, 21, 22, 23, 24]
theorem ret_op {a b : Int} (h : a = b) : Ending.returned (.int .i64 a) = .returned (.int .i64 b) := by rw [h]
set_option maxHeartbeats 400000 in
theorem ofthree_any (t s : Int) (w : World) (ht : T3 w) (t0 : 0 ≤ t ∧ t < 8) (s0 : 0 ≤ s ∧ s < 128) :
    Calls Tryd.prog 44 #[.int .u32 t, .int .u32 s] w fun e w' => e = .returned (.int .i64 (ofThreeI t s)) ∧ w = w' := by
  have F := Lib.hid (find_r t w ht)
  have c2 := ht.1 2 (by omega)
  have c8 := ht.1 8 (by omega)
  have e2 : threeL.getD 2 0 = 0 := rfl
  have e8 : threeL.getD 8 0 = 5 := rfl
  rw [e2] at c2
  rw [e8] at c8
  clear ht e2 e8
  by_cases h1 : s = 1
  · subst h1
    have E := Lib.hid (show ofThreeI t 1 = 11 + t from rfl)
    go_enter Tryd.func44, Tryd.ntmps44
    go_wp2
    go_ret
    exact ⟨ret_op E.out.symm, rfl⟩
  by_cases h0 : s = 0
  · subst h0
    have E := Lib.hid (show ofThreeI t 0 = findI t [1, 2, 3, 4, 5, 6, 7, 8, 9, 10] from rfl)
    clear h1
    go_enter Tryd.func44, Tryd.ntmps44
    go_wp2_with fail
    refine F.out.mono ?_
    rintro e w1 ⟨rfl, rfl⟩
    go_wp2_with fail
    go_ret
    exact ⟨ret_op E.out.symm, rfl⟩
  have b1 : (s == 1) = false := by simpa using h1
  have b0 : (s == 0) = false := by simpa using h0
  by_cases h3 : s = 32
  · subst h3
    clear h1 h0
    by_cases g0 : t = 0
    · subst g0
      have E := Lib.hid (show ofThreeI 0 32 = 2 from rfl)
      go_enter Tryd.func44, Tryd.ntmps44
      go_wp2
      go_ret
      exact ⟨ret_op E.out.symm, rfl⟩
    have d0 : (t == 0) = false := by simpa using g0
    by_cases g5 : t = 5
    · subst g5
      have E := Lib.hid (show ofThreeI 5 32 = 8 from rfl)
      clear g0
      go_enter Tryd.func44, Tryd.ntmps44
      go_wp2
      go_ret
      exact ⟨ret_op E.out.symm, rfl⟩
    have d5 : (t == 5) = false := by simpa using g5
    have E := Lib.hid (show ofThreeI t 32 = 0 by unfold ofThreeI; rw [if_neg (by omega), if_neg (by omega), if_neg (by omega), if_neg (by omega)])
    clear g0 g5
    go_enter Tryd.func44, Tryd.ntmps44
    go_wp2
    go_ret
    exact ⟨ret_op E.out.symm, rfl⟩
  have b3 : (s == 32) = false := by simpa using h3
  have E := Lib.hid (show ofThreeI t s = 0 by unfold ofThreeI; rw [if_neg (by omega), if_neg (by omega), if_neg (by omega), if_neg (by omega)])
  clear h1 h0 h3
  go_enter Tryd.func44, Tryd.ntmps44
  go_wp2
  go_ret
  exact ⟨ret_op E.out.symm, rfl⟩
set_option maxHeartbeats 400000 in
theorem ofnum_any (t s : Int) (w : World) (ht : T3 w) (t0 : 0 ≤ t ∧ t < 8) (s0 : 0 ≤ s ∧ s < 128) :
    Calls Tryd.prog 45 #[.int .u32 t, .int .u32 s] w fun e w' => e = .returned (.int .i64 (ofNumI t s)) ∧ w = w' := by
  have F := Lib.hid (find_i t w ht)
  have c25 := ht.1 25 (by omega)
  have c26 := ht.1 26 (by omega)
  have c27 := ht.1 27 (by omega)
  have e25 : threeL.getD 25 0 = 1 := rfl
  have e26 : threeL.getD 26 0 = 5 := rfl
  have e27 : threeL.getD 27 0 = 5 := rfl
  rw [e25] at c25
  rw [e26] at c26
  rw [e27] at c27
  clear ht e25 e26 e27
  by_cases g1 : t = 1
  · subst g1
    by_cases h0 : s = 0
    · subst h0
      have E := Lib.hid (show ofNumI 1 0 = 25 from rfl)
      go_enter Tryd.func45, Tryd.ntmps45
      go_wp2
      go_ret
      exact ⟨ret_op E.out.symm, rfl⟩
    have b0 : (s == 0) = false := by simpa using h0
    have E := Lib.hid (show ofNumI 1 s = findI 1 [19, 20, 21, 22, 23, 24] by unfold ofNumI; rw [if_neg (by omega), if_neg (by omega), if_neg (by omega)])
    clear h0
    go_enter Tryd.func45, Tryd.ntmps45
    go_wp2_with fail
    refine F.out.mono ?_
    rintro e w1 ⟨rfl, rfl⟩
    go_wp2_with fail
    go_ret
    exact ⟨ret_op E.out.symm, rfl⟩
  have d1 : (t == 1) = false := by simpa using g1
  by_cases g5 : t = 5
  · subst g5
    by_cases h0 : s = 0
    · subst h0
      have E := Lib.hid (show ofNumI 5 0 = 26 from rfl)
      clear g1
      go_enter Tryd.func45, Tryd.ntmps45
      go_wp2
      go_ret
      exact ⟨ret_op E.out.symm, rfl⟩
    by_cases h3 : s = 32
    · subst h3
      have E := Lib.hid (show ofNumI 5 32 = 27 from rfl)
      clear g1 h0
      go_enter Tryd.func45, Tryd.ntmps45
      go_wp2
      go_ret
      exact ⟨ret_op E.out.symm, rfl⟩
    have b0 : (s == 0) = false := by simpa using h0
    have b3 : (s == 32) = false := by simpa using h3
    have E := Lib.hid (show ofNumI 5 s = findI 5 [19, 20, 21, 22, 23, 24] by unfold ofNumI; rw [if_neg (by omega), if_neg (by omega), if_neg (by omega)])
    clear h0 h3 g1
    go_enter Tryd.func45, Tryd.ntmps45
    go_wp2_with fail
    refine F.out.mono ?_
    rintro e w1 ⟨rfl, rfl⟩
    go_wp2_with fail
    go_ret
    exact ⟨ret_op E.out.symm, rfl⟩
  have d5 : (t == 5) = false := by simpa using g5
  have E := Lib.hid (show ofNumI t s = findI t [19, 20, 21, 22, 23, 24] by unfold ofNumI; rw [if_neg (by omega), if_neg (by omega), if_neg (by omega)])
  clear g1 g5
  go_enter Tryd.func45, Tryd.ntmps45
  go_wp2_with fail
  refine F.out.mono ?_
  rintro e w1 ⟨rfl, rfl⟩
  go_wp2_with fail
  go_ret
  exact ⟨ret_op E.out.symm, rfl⟩
theorem and7 {b : Int} (h0 : 0 ≤ b) (h1 : b < 4294967296) : bits .and .u32 b 7 = b % 8 := by
  rw [u32_and b 7 h0 h1 (by omega) (by omega)]
  have : (7 : Int).toNat = 2 ^ 3 - 1 := rfl
  rw [this, Nat.and_two_pow_sub_one_eq_mod]
  omega
theorem and127 {b : Int} (h0 : 0 ≤ b) (h1 : b < 4294967296) : bits .and .u32 b 127 = b % 128 := by
  rw [u32_and b 127 h0 h1 (by omega) (by omega)]
  have : (127 : Int).toNat = 2 ^ 7 - 1 := rfl
  rw [this, Nat.and_two_pow_sub_one_eq_mod]
  omega

set_option maxHeartbeats 400000 in
theorem oper_51 (w : Int) (W : World) (ht : T3 W) (h0 : 0 ≤ w) (h1 : w < 4294967296) (hc : w % 128 = 51) :
    Calls Tryd.prog 32 #[.int .u32 w] W fun e w' => e = .returned (.int .i64 (opI w)) ∧ W = w' := by
  have E := Lib.hid (show opI w = ofThreeI (w / 4096 % 8) (w / 33554432) by unfold opI; rw [if_pos hc]; rfl)
  have a7 := and7 (b := w / 4096) (by omega) (by omega)
  have a127 := and127 (b := w) h0 h1
  have y : (w % 128 == 51) = true := by simp; omega
  have F := Lib.hid (ofthree_any (w / 4096 % 8) (w / 33554432) W ht (by omega) (by omega))
  clear hc ht
  go_enter Tryd.func32, Tryd.ntmps32
  go_wp2_with fail
  refine F.out.mono ?_
  rintro e w1 ⟨rfl, rfl⟩
  go_wp2_with fail
  go_ret
  exact ⟨ret_op E.out.symm, rfl⟩
set_option maxHeartbeats 400000 in
theorem oper_19 (w : Int) (W : World) (ht : T3 W) (h0 : 0 ≤ w) (h1 : w < 4294967296) (hc : w % 128 = 19) :
    Calls Tryd.prog 32 #[.int .u32 w] W fun e w' => e = .returned (.int .i64 (opI w)) ∧ W = w' := by
  have E := Lib.hid (show opI w = ofNumI (w / 4096 % 8) (w / 33554432) by unfold opI; rw [if_neg (by omega), if_pos hc]; rfl)
  have a7 := and7 (b := w / 4096) (by omega) (by omega)
  have a127 := and127 (b := w) h0 h1
  have n51 : (w % 128 == 51) = false := by simp; omega
  have y : (w % 128 == 19) = true := by simp; omega
  have F := Lib.hid (ofnum_any (w / 4096 % 8) (w / 33554432) W ht (by omega) (by omega))
  clear hc ht
  go_enter Tryd.func32, Tryd.ntmps32
  go_wp2_with fail
  refine F.out.mono ?_
  rintro e w1 ⟨rfl, rfl⟩
  go_wp2_with fail
  go_ret
  exact ⟨ret_op E.out.symm, rfl⟩
set_option maxHeartbeats 400000 in
theorem oper_3 (w : Int) (W : World) (ht : T3 W) (h0 : 0 ≤ w) (h1 : w < 4294967296) (hc : w % 128 = 3) :
    Calls Tryd.prog 32 #[.int .u32 w] W fun e w' => e = .returned (.int .i64 (opI w)) ∧ W = w' := by
  have E := Lib.hid (show opI w = findI (w / 4096 % 8) [28, 29, 30, 31, 32] by unfold opI; rw [if_neg (by omega), if_neg (by omega), if_pos hc])
  have a7 := and7 (b := w / 4096) (by omega) (by omega)
  have a127 := and127 (b := w) h0 h1
  have n51 : (w % 128 == 51) = false := by simp; omega
  have n19 : (w % 128 == 19) = false := by simp; omega
  have y : (w % 128 == 3) = true := by simp; omega
  have F := Lib.hid (find_l (w / 4096 % 8) W ht)
  clear hc ht
  go_enter Tryd.func32, Tryd.ntmps32
  go_wp2_with fail
  refine F.out.mono ?_
  rintro e w1 ⟨rfl, rfl⟩
  go_wp2_with fail
  go_ret
  exact ⟨ret_op E.out.symm, rfl⟩
set_option maxHeartbeats 400000 in
theorem oper_35 (w : Int) (W : World) (ht : T3 W) (h0 : 0 ≤ w) (h1 : w < 4294967296) (hc : w % 128 = 35) :
    Calls Tryd.prog 32 #[.int .u32 w] W fun e w' => e = .returned (.int .i64 (opI w)) ∧ W = w' := by
  have E := Lib.hid (show opI w = findI (w / 4096 % 8) [33, 34, 35] by unfold opI; rw [if_neg (by omega), if_neg (by omega), if_neg (by omega), if_pos hc])
  have a7 := and7 (b := w / 4096) (by omega) (by omega)
  have a127 := and127 (b := w) h0 h1
  have n51 : (w % 128 == 51) = false := by simp; omega
  have n19 : (w % 128 == 19) = false := by simp; omega
  have n3 : (w % 128 == 3) = false := by simp; omega
  have y : (w % 128 == 35) = true := by simp; omega
  have F := Lib.hid (find_s (w / 4096 % 8) W ht)
  clear hc ht
  go_enter Tryd.func32, Tryd.ntmps32
  go_wp2_with fail
  refine F.out.mono ?_
  rintro e w1 ⟨rfl, rfl⟩
  go_wp2_with fail
  go_ret
  exact ⟨ret_op E.out.symm, rfl⟩
set_option maxHeartbeats 400000 in
theorem oper_99 (w : Int) (W : World) (ht : T3 W) (h0 : 0 ≤ w) (h1 : w < 4294967296) (hc : w % 128 = 99) :
    Calls Tryd.prog 32 #[.int .u32 w] W fun e w' => e = .returned (.int .i64 (opI w)) ∧ W = w' := by
  have E := Lib.hid (show opI w = findI (w / 4096 % 8) [36, 37, 38, 39, 40, 41] by unfold opI; rw [if_neg (by omega), if_neg (by omega), if_neg (by omega), if_neg (by omega), if_pos hc])
  have a7 := and7 (b := w / 4096) (by omega) (by omega)
  have a127 := and127 (b := w) h0 h1
  have n51 : (w % 128 == 51) = false := by simp; omega
  have n19 : (w % 128 == 19) = false := by simp; omega
  have n3 : (w % 128 == 3) = false := by simp; omega
  have n35 : (w % 128 == 35) = false := by simp; omega
  have y : (w % 128 == 99) = true := by simp; omega
  have F := Lib.hid (find_b (w / 4096 % 8) W ht)
  clear hc ht
  go_enter Tryd.func32, Tryd.ntmps32
  go_wp2_with fail
  refine F.out.mono ?_
  rintro e w1 ⟨rfl, rfl⟩
  go_wp2_with fail
  go_ret
  exact ⟨ret_op E.out.symm, rfl⟩
set_option maxHeartbeats 400000 in
theorem oper_55 (w : Int) (W : World) (ht : T3 W) (h0 : 0 ≤ w) (h1 : w < 4294967296) (hc : w % 128 = 55) :
    Calls Tryd.prog 32 #[.int .u32 w] W fun e w' => e = .returned (.int .i64 (opI w)) ∧ W = w' := by
  have E := Lib.hid (show opI w = 42 by unfold opI; rw [if_neg (by omega), if_neg (by omega), if_neg (by omega), if_neg (by omega), if_neg (by omega), if_pos hc])
  have a7 := and7 (b := w / 4096) (by omega) (by omega)
  have a127 := and127 (b := w) h0 h1
  have n51 : (w % 128 == 51) = false := by simp; omega
  have n19 : (w % 128 == 19) = false := by simp; omega
  have n3 : (w % 128 == 3) = false := by simp; omega
  have n35 : (w % 128 == 35) = false := by simp; omega
  have n99 : (w % 128 == 99) = false := by simp; omega
  have y : (w % 128 == 55) = true := by simp; omega
  clear hc ht
  go_enter Tryd.func32, Tryd.ntmps32
  go_wp2_with fail
  go_ret
  exact ⟨ret_op E.out.symm, rfl⟩
set_option maxHeartbeats 400000 in
theorem oper_23 (w : Int) (W : World) (ht : T3 W) (h0 : 0 ≤ w) (h1 : w < 4294967296) (hc : w % 128 = 23) :
    Calls Tryd.prog 32 #[.int .u32 w] W fun e w' => e = .returned (.int .i64 (opI w)) ∧ W = w' := by
  have E := Lib.hid (show opI w = 43 by unfold opI; rw [if_neg (by omega), if_neg (by omega), if_neg (by omega), if_neg (by omega), if_neg (by omega), if_neg (by omega), if_pos hc])
  have a7 := and7 (b := w / 4096) (by omega) (by omega)
  have a127 := and127 (b := w) h0 h1
  have n51 : (w % 128 == 51) = false := by simp; omega
  have n19 : (w % 128 == 19) = false := by simp; omega
  have n3 : (w % 128 == 3) = false := by simp; omega
  have n35 : (w % 128 == 35) = false := by simp; omega
  have n99 : (w % 128 == 99) = false := by simp; omega
  have n55 : (w % 128 == 55) = false := by simp; omega
  have y : (w % 128 == 23) = true := by simp; omega
  clear hc ht
  go_enter Tryd.func32, Tryd.ntmps32
  go_wp2_with fail
  go_ret
  exact ⟨ret_op E.out.symm, rfl⟩
set_option maxHeartbeats 400000 in
theorem oper_111 (w : Int) (W : World) (ht : T3 W) (h0 : 0 ≤ w) (h1 : w < 4294967296) (hc : w % 128 = 111) :
    Calls Tryd.prog 32 #[.int .u32 w] W fun e w' => e = .returned (.int .i64 (opI w)) ∧ W = w' := by
  have E := Lib.hid (show opI w = 44 by unfold opI; rw [if_neg (by omega), if_neg (by omega), if_neg (by omega), if_neg (by omega), if_neg (by omega), if_neg (by omega), if_neg (by omega), if_pos hc])
  have a7 := and7 (b := w / 4096) (by omega) (by omega)
  have a127 := and127 (b := w) h0 h1
  have n51 : (w % 128 == 51) = false := by simp; omega
  have n19 : (w % 128 == 19) = false := by simp; omega
  have n3 : (w % 128 == 3) = false := by simp; omega
  have n35 : (w % 128 == 35) = false := by simp; omega
  have n99 : (w % 128 == 99) = false := by simp; omega
  have n55 : (w % 128 == 55) = false := by simp; omega
  have n23 : (w % 128 == 23) = false := by simp; omega
  have y : (w % 128 == 111) = true := by simp; omega
  clear hc ht
  go_enter Tryd.func32, Tryd.ntmps32
  go_wp2_with fail
  go_ret
  exact ⟨ret_op E.out.symm, rfl⟩
set_option maxHeartbeats 400000 in
theorem oper_103 (w : Int) (W : World) (ht : T3 W) (h0 : 0 ≤ w) (h1 : w < 4294967296) (hc : w % 128 = 103) :
    Calls Tryd.prog 32 #[.int .u32 w] W fun e w' => e = .returned (.int .i64 (opI w)) ∧ W = w' := by
  have E := Lib.hid (show opI w = findI (w / 4096 % 8) [45] by unfold opI; rw [if_neg (by omega), if_neg (by omega), if_neg (by omega), if_neg (by omega), if_neg (by omega), if_neg (by omega), if_neg (by omega), if_neg (by omega), if_pos hc])
  have a7 := and7 (b := w / 4096) (by omega) (by omega)
  have a127 := and127 (b := w) h0 h1
  have n51 : (w % 128 == 51) = false := by simp; omega
  have n19 : (w % 128 == 19) = false := by simp; omega
  have n3 : (w % 128 == 3) = false := by simp; omega
  have n35 : (w % 128 == 35) = false := by simp; omega
  have n99 : (w % 128 == 99) = false := by simp; omega
  have n55 : (w % 128 == 55) = false := by simp; omega
  have n23 : (w % 128 == 23) = false := by simp; omega
  have n111 : (w % 128 == 111) = false := by simp; omega
  have y : (w % 128 == 103) = true := by simp; omega
  have F := Lib.hid (find_j (w / 4096 % 8) W ht)
  clear hc ht
  go_enter Tryd.func32, Tryd.ntmps32
  go_wp2_with fail
  refine F.out.mono ?_
  rintro e w1 ⟨rfl, rfl⟩
  go_wp2_with fail
  go_ret
  exact ⟨ret_op E.out.symm, rfl⟩
set_option maxHeartbeats 400000 in
theorem oper_15y (w : Int) (W : World) (ht : T3 W) (h0 : 0 ≤ w) (h1 : w < 4294967296) (hc : w % 128 = 15) (hm : w % 1048576 = 15) :
    Calls Tryd.prog 32 #[.int .u32 w] W fun e w' => e = .returned (.int .i64 (opI w)) ∧ W = w' := by
  have E := Lib.hid (show opI w = 46 by unfold opI; rw [if_neg (by omega), if_neg (by omega), if_neg (by omega), if_neg (by omega), if_neg (by omega), if_neg (by omega), if_neg (by omega), if_neg (by omega), if_neg (by omega), if_pos hc, if_pos hm])
  have a7 := and7 (b := w / 4096) (by omega) (by omega)
  have a127 := and127 (b := w) h0 h1
  have n51 : (w % 128 == 51) = false := by simp; omega
  have n19 : (w % 128 == 19) = false := by simp; omega
  have n3 : (w % 128 == 3) = false := by simp; omega
  have n35 : (w % 128 == 35) = false := by simp; omega
  have n99 : (w % 128 == 99) = false := by simp; omega
  have n55 : (w % 128 == 55) = false := by simp; omega
  have n23 : (w % 128 == 23) = false := by simp; omega
  have n111 : (w % 128 == 111) = false := by simp; omega
  have n103 : (w % 128 == 103) = false := by simp; omega
  have y : (w % 128 == 15) = true := by simp; omega
  have sh : (w * 4096 % 4294967296 == 61440) = true := by simp; omega
  clear hc hm ht
  go_enter Tryd.func32, Tryd.ntmps32
  go_wp2_with fail
  go_ret
  exact ⟨ret_op E.out.symm, rfl⟩
set_option maxHeartbeats 400000 in
theorem oper_15n (w : Int) (W : World) (ht : T3 W) (h0 : 0 ≤ w) (h1 : w < 4294967296) (hc : w % 128 = 15) (hm : w % 1048576 ≠ 15) :
    Calls Tryd.prog 32 #[.int .u32 w] W fun e w' => e = .returned (.int .i64 (opI w)) ∧ W = w' := by
  have E := Lib.hid (show opI w = 0 by unfold opI; rw [if_neg (by omega), if_neg (by omega), if_neg (by omega), if_neg (by omega), if_neg (by omega), if_neg (by omega), if_neg (by omega), if_neg (by omega), if_neg (by omega), if_pos hc, if_neg hm])
  have a7 := and7 (b := w / 4096) (by omega) (by omega)
  have a127 := and127 (b := w) h0 h1
  have n51 : (w % 128 == 51) = false := by simp; omega
  have n19 : (w % 128 == 19) = false := by simp; omega
  have n3 : (w % 128 == 3) = false := by simp; omega
  have n35 : (w % 128 == 35) = false := by simp; omega
  have n99 : (w % 128 == 99) = false := by simp; omega
  have n55 : (w % 128 == 55) = false := by simp; omega
  have n23 : (w % 128 == 23) = false := by simp; omega
  have n111 : (w % 128 == 111) = false := by simp; omega
  have n103 : (w % 128 == 103) = false := by simp; omega
  have y : (w % 128 == 15) = true := by simp; omega
  have sh : (w * 4096 % 4294967296 == 61440) = false := by simp; omega
  have m1 : (w == 115) = false := by simp; omega
  have m2 : (w == 1048691) = false := by simp; omega
  clear hc hm ht
  go_enter Tryd.func32, Tryd.ntmps32
  go_wp2_with fail
  go_ret
  exact ⟨ret_op E.out.symm, rfl⟩
set_option maxHeartbeats 400000 in
theorem oper_no115 (w : Int) (W : World) (ht : T3 W) (h0 : 0 ≤ w) (h1 : w < 4294967296) (h51 : w % 128 ≠ 51) (h19 : w % 128 ≠ 19) (h3 : w % 128 ≠ 3) (h35 : w % 128 ≠ 35) (h99 : w % 128 ≠ 99) (h55 : w % 128 ≠ 55) (h23 : w % 128 ≠ 23) (h111 : w % 128 ≠ 111) (h103 : w % 128 ≠ 103) (h15 : w % 128 ≠ 15) (hw : w = 115) :
    Calls Tryd.prog 32 #[.int .u32 w] W fun e w' => e = .returned (.int .i64 (opI w)) ∧ W = w' := by
  have E := Lib.hid (show opI w = 47 by unfold opI; rw [if_neg (by omega), if_neg (by omega), if_neg (by omega), if_neg (by omega), if_neg (by omega), if_neg (by omega), if_neg (by omega), if_neg (by omega), if_neg (by omega), if_neg (by omega), if_pos hw])
  have a7 := and7 (b := w / 4096) (by omega) (by omega)
  have a127 := and127 (b := w) h0 h1
  have n51 : (w % 128 == 51) = false := by simp; omega
  have n19 : (w % 128 == 19) = false := by simp; omega
  have n3 : (w % 128 == 3) = false := by simp; omega
  have n35 : (w % 128 == 35) = false := by simp; omega
  have n99 : (w % 128 == 99) = false := by simp; omega
  have n55 : (w % 128 == 55) = false := by simp; omega
  have n23 : (w % 128 == 23) = false := by simp; omega
  have n111 : (w % 128 == 111) = false := by simp; omega
  have n103 : (w % 128 == 103) = false := by simp; omega
  have n15 : (w % 128 == 15) = false := by simp; omega
  have m1 : (w == 115) = true := by simp; omega
  clear hw h51 h19 h3 h35 h99 h55 h23 h111 h103 h15 ht
  go_enter Tryd.func32, Tryd.ntmps32
  go_wp2_with fail
  go_ret
  exact ⟨ret_op E.out.symm, rfl⟩
set_option maxHeartbeats 400000 in
theorem oper_no1048691 (w : Int) (W : World) (ht : T3 W) (h0 : 0 ≤ w) (h1 : w < 4294967296) (h51 : w % 128 ≠ 51) (h19 : w % 128 ≠ 19) (h3 : w % 128 ≠ 3) (h35 : w % 128 ≠ 35) (h99 : w % 128 ≠ 99) (h55 : w % 128 ≠ 55) (h23 : w % 128 ≠ 23) (h111 : w % 128 ≠ 111) (h103 : w % 128 ≠ 103) (h15 : w % 128 ≠ 15) (hw : w = 1048691) :
    Calls Tryd.prog 32 #[.int .u32 w] W fun e w' => e = .returned (.int .i64 (opI w)) ∧ W = w' := by
  have E := Lib.hid (show opI w = 48 by unfold opI; rw [if_neg (by omega), if_neg (by omega), if_neg (by omega), if_neg (by omega), if_neg (by omega), if_neg (by omega), if_neg (by omega), if_neg (by omega), if_neg (by omega), if_neg (by omega), if_neg (by omega), if_pos hw])
  have a7 := and7 (b := w / 4096) (by omega) (by omega)
  have a127 := and127 (b := w) h0 h1
  have n51 : (w % 128 == 51) = false := by simp; omega
  have n19 : (w % 128 == 19) = false := by simp; omega
  have n3 : (w % 128 == 3) = false := by simp; omega
  have n35 : (w % 128 == 35) = false := by simp; omega
  have n99 : (w % 128 == 99) = false := by simp; omega
  have n55 : (w % 128 == 55) = false := by simp; omega
  have n23 : (w % 128 == 23) = false := by simp; omega
  have n111 : (w % 128 == 111) = false := by simp; omega
  have n103 : (w % 128 == 103) = false := by simp; omega
  have n15 : (w % 128 == 15) = false := by simp; omega
  have m1 : (w == 115) = false := by simp; omega
  have m2 : (w == 1048691) = true := by simp; omega
  clear hw h51 h19 h3 h35 h99 h55 h23 h111 h103 h15 ht
  go_enter Tryd.func32, Tryd.ntmps32
  go_wp2_with fail
  go_ret
  exact ⟨ret_op E.out.symm, rfl⟩
set_option maxHeartbeats 400000 in
theorem oper_no0 (w : Int) (W : World) (ht : T3 W) (h0 : 0 ≤ w) (h1 : w < 4294967296) (h51 : w % 128 ≠ 51) (h19 : w % 128 ≠ 19) (h3 : w % 128 ≠ 3) (h35 : w % 128 ≠ 35) (h99 : w % 128 ≠ 99) (h55 : w % 128 ≠ 55) (h23 : w % 128 ≠ 23) (h111 : w % 128 ≠ 111) (h103 : w % 128 ≠ 103) (h15 : w % 128 ≠ 15) (hw : w ≠ 115) (hw2 : w ≠ 1048691) :
    Calls Tryd.prog 32 #[.int .u32 w] W fun e w' => e = .returned (.int .i64 (opI w)) ∧ W = w' := by
  have E := Lib.hid (show opI w = 0 by unfold opI; rw [if_neg (by omega), if_neg (by omega), if_neg (by omega), if_neg (by omega), if_neg (by omega), if_neg (by omega), if_neg (by omega), if_neg (by omega), if_neg (by omega), if_neg (by omega), if_neg hw, if_neg hw2])
  have a7 := and7 (b := w / 4096) (by omega) (by omega)
  have a127 := and127 (b := w) h0 h1
  have n51 : (w % 128 == 51) = false := by simp; omega
  have n19 : (w % 128 == 19) = false := by simp; omega
  have n3 : (w % 128 == 3) = false := by simp; omega
  have n35 : (w % 128 == 35) = false := by simp; omega
  have n99 : (w % 128 == 99) = false := by simp; omega
  have n55 : (w % 128 == 55) = false := by simp; omega
  have n23 : (w % 128 == 23) = false := by simp; omega
  have n111 : (w % 128 == 111) = false := by simp; omega
  have n103 : (w % 128 == 103) = false := by simp; omega
  have n15 : (w % 128 == 15) = false := by simp; omega
  have m1 : (w == 115) = false := by simp; omega
  have m2 : (w == 1048691) = false := by simp; omega
  clear hw hw2 h51 h19 h3 h35 h99 h55 h23 h111 h103 h15 ht
  go_enter Tryd.func32, Tryd.ntmps32
  go_wp2_with fail
  go_ret
  exact ⟨ret_op E.out.symm, rfl⟩
theorem oper_any (w : Int) (W : World) (ht : T3 W) (h0 : 0 ≤ w) (h1 : w < 4294967296) :
    Calls Tryd.prog 32 #[.int .u32 w] W fun e w' => e = .returned (.int .i64 (opI w)) ∧ W = w' := by
  by_cases h51 : w % 128 = 51
  · exact oper_51 w W ht h0 h1 h51
  by_cases h19 : w % 128 = 19
  · exact oper_19 w W ht h0 h1 h19
  by_cases h3 : w % 128 = 3
  · exact oper_3 w W ht h0 h1 h3
  by_cases h35 : w % 128 = 35
  · exact oper_35 w W ht h0 h1 h35
  by_cases h99 : w % 128 = 99
  · exact oper_99 w W ht h0 h1 h99
  by_cases h55 : w % 128 = 55
  · exact oper_55 w W ht h0 h1 h55
  by_cases h23 : w % 128 = 23
  · exact oper_23 w W ht h0 h1 h23
  by_cases h111 : w % 128 = 111
  · exact oper_111 w W ht h0 h1 h111
  by_cases h103 : w % 128 = 103
  · exact oper_103 w W ht h0 h1 h103
  by_cases h15 : w % 128 = 15
  · by_cases hm : w % 1048576 = 15
    · exact oper_15y w W ht h0 h1 h15 hm
    · exact oper_15n w W ht h0 h1 h15 hm
  by_cases m1 : w = 115
  · exact oper_no115 w W ht h0 h1 h51 h19 h3 h35 h99 h55 h23 h111 h103 h15 m1
  by_cases m2 : w = 1048691
  · exact oper_no1048691 w W ht h0 h1 h51 h19 h3 h35 h99 h55 h23 h111 h103 h15 m2
  exact oper_no0 w W ht h0 h1 h51 h19 h3 h35 h99 h55 h23 h111 h103 h15 m1 m2
end Go.Proofs.YtmlhoagcppofgaaDoor
