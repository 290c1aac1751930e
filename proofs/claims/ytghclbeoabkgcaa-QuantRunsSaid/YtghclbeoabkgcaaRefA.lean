/- Contracts of package pintleref01's functions: what each call answers, for all words. -/
import Derived.Test.YtghclbeoabkgcaaNum
namespace Go.Proofs.Ytghclbeoabkgcaa
open Go Go.RowKit Pl
set_option linter.unusedVariables false

theorem ret_i64p {a b c d : Int} (h : a = b) (g : c = d) : Ending.returned (.tuple #[.int .i64 a, .int .i64 c]) = .returned (.tuple #[.int .i64 b, .int .i64 d]) := by rw [h, g]

set_option maxHeartbeats 400000 in
theorem ref1_signed (a : Int) (w : World) (h0 : 0 ≤ a) (h1 : a < 4294967296) :
    Calls Try.prog 68 #[.int .u32 a] w fun e w' => e = .returned (.int .i64 (sg a)) ∧ w = w' := by
  go_enter Try.func68, Try.ntmps68
  go_wp2
  all_goals go_ret
  all_goals refine ⟨ret_i64 ?_, rfl⟩
  all_goals (show _ = sg _)
  · unfold sg; rw [if_neg (by omega)]
  · unfold sg; rw [if_pos (by omega)]

theorem word_walk (n : Int) : (IntKind.u64.wrap n).tmod 4294967296 % 4294967296 = n % 4294967296 := by
  rw [IntKind.wrap_u64, IntWalk.rem_in _ _ (by omega)]; omega

set_option maxHeartbeats 400000 in
theorem ref1_word (n : Int) (w : World) :
    Calls Try.prog 69 #[.int .i64 n] w fun e w' => e = .returned (.int .u32 (n % 4294967296)) ∧ w = w' := by
  go_enter Try.func69, Try.ntmps69
  go_wp2
  go_ret
  exact ⟨ret_u32 (word_walk n), rfl⟩

set_option maxHeartbeats 400000 in
theorem ref1_one (c : Bool) (w : World) :
    Calls Try.prog 99 #[.bool c] w fun e w' => e = .returned (.int .i64 (if c then 1 else 0)) ∧ w = w' := by
  cases c
  all_goals
    go_enter Try.func99, Try.ntmps99
    go_wp2
    go_ret
    exact ⟨rfl, rfl⟩

theorem wrap64_tdiv {x y : Int} (h0 : -9223372036854775808 < x) (h1 : x ≤ 9223372036854775807) : wrap64 (x.tdiv y) = x.tdiv y := by
  have := Int.natAbs_tdiv_le_natAbs x y
  exact wrap64_in' (by omega)

set_option maxHeartbeats 400000 in
theorem ref1_div (x y : Int) (w : World) (h0 : -9223372036854775808 < x) (h1 : x ≤ 9223372036854775807) :
    Calls Try.prog 109 #[.int .i64 x, .int .i64 y] w fun e w' => e = .returned (.tuple #[.int .i64 (if y = 0 then -1 else x.tdiv y), .int .i64 (if y = 0 then x else x.tmod y)]) ∧ ∃ n, w' = w.drewN n := by
  by_cases hy : y = 0
  · subst hy
    go_enter Try.func109, Try.ntmps109
    go_wp2
    go_ret2
    exact ⟨rfl, 0, rfl⟩
  · have hd := wrap64_tdiv (y := y) h0 h1
    have hb : (y == 0) = false := by simpa using hy
    go_enter Try.func109, Try.ntmps109
    go_wp2
    go_quiet (fail)
    go_wp2
    go_ret2
    exact ⟨rfl, _, rfl⟩

theorem pow_bd {y : Nat} (h : y ≤ 32) : (1 : Int) ≤ 2 ^ y ∧ (2 : Int) ^ y ≤ 4294967296 := by
  have h1 := pow_toNat_pos y
  have h2 : (2 : Nat) ^ y ≤ 2 ^ 32 := Nat.pow_le_pow_right (by omega) h
  have h3 : ((2 ^ y : Nat) : Int) = (2 : Int) ^ y := by simp
  omega

theorem floor_walk {x p : Int} (hp : 1 ≤ p) : (x < 0 ∧ ¬ x.tmod p = 0 → x.tdiv p - 1 = x / p) ∧ (¬ (x < 0 ∧ ¬ x.tmod p = 0) → x.tdiv p = x / p) := by
  have e := Int.tdiv_eq_ediv (a := x) (b := p)
  have hs : p.sign = 1 := Int.sign_eq_one_of_pos (by omega)
  rw [hs] at e
  by_cases h : 0 ≤ x ∨ p ∣ x
  · rw [if_pos h] at e
    refine ⟨fun ⟨a, b⟩ => ?_, fun _ => by omega⟩
    rcases h with h | h
    · omega
    · exact absurd (Int.tmod_eq_zero_of_dvd h) b
  · rw [if_neg h] at e
    refine ⟨fun _ => by omega, fun c => ?_⟩
    exfalso
    apply c
    refine ⟨by omega, fun d => h (Or.inr (Int.dvd_of_tmod_eq_zero d))⟩

set_option maxHeartbeats 400000 in
theorem ref1_floor (x y : Int) (w : World) (h0 : -9223372036854775807 < x) (h1 : x ≤ 9223372036854775807) (g0 : 0 ≤ y) (g1 : y ≤ 32) :
    Calls Try.prog 101 #[.int .i64 x, .int .i64 y] w fun e w' => e = .returned (.int .i64 (x / 2 ^ y.toNat)) ∧ w = w' := by
  obtain ⟨p0, p1⟩ := pow_bd (y := y.toNat) (by omega)
  have hd := wrap64_tdiv (y := 2 ^ y.toNat) (by omega : -9223372036854775808 < x) h1
  go_enter Try.func101, Try.ntmps101
  go_wp2
  all_goals go_ret
  · refine ⟨ret_i64 ?_, rfl⟩
    show wrap64 (x.tdiv (2 ^ y.toNat) - 1) = _
    have hx : x < 0 := by assumption
    have hm : (x.tmod (2 ^ y.toNat) != 0) = true := by assumption
    rw [wrap64_in' (by have := Int.natAbs_tdiv_le_natAbs x (2 ^ y.toNat); omega)]
    exact (floor_walk p0).1 ⟨hx, by simpa using hm⟩
  · refine ⟨ret_i64 ?_, rfl⟩
    have hm : (x.tmod (2 ^ y.toNat) != 0) = false := by assumption
    exact (floor_walk p0).2 (fun c => c.2 (by simpa using hm))
  · exact ⟨rfl, rfl⟩

theorem sext_mid {a n : Int} (h0 : 0 ≤ a) (n0 : 1 ≤ n) (n1 : n ≤ 31) :
    (2 ^ (n.toNat - 1) ≤ a % 2 ^ n.toNat → (a % 2 ^ n.toNat - 2 ^ n.toNat) % 4294967296 = sextS a n) ∧ (a % 2 ^ n.toNat < 2 ^ (n.toNat - 1) → a % 2 ^ n.toNat % 4294967296 = sextS a n) := by
  have e : (n - 1).toNat = n.toNat - 1 := by omega
  unfold sextS
  rw [if_neg (by omega), if_neg (by omega), e]
  refine ⟨fun h => by rw [if_neg (by omega)], fun h => by rw [if_pos h]⟩

set_option maxHeartbeats 400000 in
theorem ref1_sext (a n : Int) (w : World) (h0 : 0 ≤ a) (h1 : a < 4294967296) :
    Calls Try.prog 98 #[.int .u32 a, .int .i64 n] w fun e w' => e = .returned (.int .u32 (sextS a n)) ∧ w = w' := by
  by_cases n0 : n < 1
  · go_enter Try.func98, Try.ntmps98
    go_wp2
    go_ret
    exact ⟨ret_u32 (by unfold sextS; rw [if_pos n0]), rfl⟩
  · by_cases n1 : 31 < n
    · go_enter Try.func98, Try.ntmps98
      go_wp2
      go_ret
      exact ⟨ret_u32 (by unfold sextS; rw [if_neg (by omega), if_pos n1]), rfl⟩
    · obtain ⟨p0, p1⟩ := pow_bd (y := n.toNat) (by omega)
      obtain ⟨q0, q1⟩ := pow_bd (y := n.toNat - 1) (by omega)
      have hm0 : 0 ≤ a % 2 ^ n.toNat := Int.emod_nonneg _ (by omega)
      have hm1 : a % 2 ^ n.toNat < 2 ^ n.toNat := Int.emod_lt_of_pos _ (by omega)
      have sm := sext_mid h0 (by omega : 1 ≤ n) (by omega : n ≤ 31)
      have SM := Lib.hid sm
      clear sm
      have ww := fun n : Int => Lib.hid (word_walk n)
      go_enter Try.func98, Try.ntmps98
      go_wp2
      all_goals go_ret
      · refine ⟨ret_u32 ?_, rfl⟩
        show (IntKind.u64.wrap (a % 2 ^ n.toNat - 2 ^ n.toNat)).tmod 4294967296 % 4294967296 = _
        rw [word_walk]
        exact SM.out.1 (by assumption)
      · exact ⟨ret_u32 (SM.out.2 (by assumption)), rfl⟩

theorem bitI {a : Int} (h0 : 0 ≤ a) (m : Nat) : (a / 2 ^ m).tmod 2 = ((a.toNat / 2 ^ m % 2 : Nat) : Int) := by
  obtain ⟨n, rfl⟩ : ∃ n : Nat, a = n := ⟨a.toNat, by omega⟩
  rw [IntWalk.rem_in _ _ (Int.ediv_nonneg h0 (Int.le_of_lt (pow_toNat_pos m)))]
  have : ((2 ^ m : Nat) : Int) = (2 : Int) ^ m := by simp
  rw [← this]
  simp
theorem bits_next {r m v : Nat} (h : r / 2 ^ m % 2 = v) (hr : r < 4294967296) : ((r : Int) / 2 ^ (m + 1) * 2 % 4294967296 + (v : Int)) = ((r / 2 ^ m : Nat) : Int) := by
  have e := bstep r m
  have l := Nat.div_le_self r (2 ^ m)
  have : ((2 ^ (m + 1) : Nat) : Int) = (2 : Int) ^ (m + 1) := by simp
  rw [← this, ← Int.natCast_ediv]
  omega
theorem two_bits {A B : Nat} (hA : A < 2) (hB : B < 2) (k : Nat) (hk : k ≤ 2) : ((((A : Int) + (B : Int)) % 4294967296 == (k : Int)) = decide (A + B = k)) := by
  by_cases h : A + B = k
  · simp [h]; omega
  · simp [h]; omega

theorem bits_pick {s x y z : Nat} {b1 b2 : Bool} (t1 : b1 = decide (s = 1)) (t2 : b2 = decide (s = 2)) :
    (if s = 2 then z else if s = 1 then y else x) = if b2 then z else if b1 then y else x := by subst t1 t2; simp

set_option maxHeartbeats 400000 in
theorem ref1_bits (a b : Int) (x y z r : Nat) (w : World) (h0 : 0 ≤ a) (h1 : a < 4294967296) (g0 : 0 ≤ b) (g1 : b < 4294967296) (hx : x ≤ 1) (hy : y ≤ 1) (hz : z ≤ 1) (hr : r < 4294967296)
    (hb : ∀ k, r / 2 ^ k % 2 = if a.toNat / 2 ^ k % 2 + b.toNat / 2 ^ k % 2 = 2 then z else if a.toNat / 2 ^ k % 2 + b.toNat / 2 ^ k % 2 = 1 then y else x) :
    Calls Try.prog 100 #[.int .u32 a, .int .u32 b, .int .u32 (x : Int), .int .u32 (y : Int), .int .u32 (z : Int)] w fun e w' => e = .returned (.int .u32 (r : Int)) ∧ w = w' := by
  have HB := Lib.hid hb
  clear hb
  go_enter Try.func100, Try.ntmps100
  go_wp2
  go_loop [11, 12] (fun o i => ∃ k : Nat, k ≤ 32 ∧ i = .int .i64 ((k : Int) - 1) ∧ o = .int .u32 ((r / 2 ^ k : Nat) : Int)) (fun _ i => (intOf i + 1).toNat)
  case atStart => exact ⟨32, by omega, rfl, by rw [Nat.div_eq_of_lt (by simpa using hr)]; rfl⟩
  case round =>
    obtain ⟨k, hk, rfl, rfl⟩ := hrel
    by_cases hlt : 1 ≤ k
    · obtain ⟨m, rfl⟩ : ∃ m, k = m + 1 := ⟨k - 1, by omega⟩
      go_wp2
      all_goals
        go_round
        case measure => simp [intOf]
        case rel =>
          refine ⟨m, by omega, rfl, ?_⟩
          congr 1
          apply bits_next ?_ hr
          rw [HB.out m]
          have t1 := two_bits (Nat.mod_lt (a.toNat / 2 ^ m) (by omega : 0 < 2)) (Nat.mod_lt (b.toNat / 2 ^ m) (by omega : 0 < 2)) 1 (by omega)
          have t2 := two_bits (Nat.mod_lt (a.toNat / 2 ^ m) (by omega : 0 < 2)) (Nat.mod_lt (b.toNat / 2 ^ m) (by omega : 0 < 2)) 2 (by omega)
          rw [← bitI h0, ← bitI g0] at t1 t2
          rw [bits_pick t1 t2]
          simp [*]
    · obtain rfl : k = 0 := by omega
      go_wp2
      go_ret
      exact ⟨rfl, rfl⟩

theorem mul_cong {a b : Int} (h0 : 0 ≤ a) (h1 : a < 4294967296) (g0 : 0 ≤ b) (g1 : b < 4294967296) : sg a * sg b % 4294967296 = a * b % 4294967296 := by
  rw [Int.mul_emod, sg_mod h0 h1, sg_mod g0 g1]
theorem toNat32 : (32 : Int).toNat = 32 := rfl

set_option maxHeartbeats 2000000 in
theorem ref1_more (op a b : Int) (w : World) (p0 : 11 ≤ op) (p1 : op ≤ 18) (h0 : 0 ≤ a) (h1 : a < 4294967296) (g0 : 0 ≤ b) (g1 : b < 4294967296) :
    Calls Try.prog 102 #[.int .i64 op, .int .i64 (sg a), .int .i64 (sg b), .int .i64 a, .int .i64 b] w fun e w' => e = .returned (.tuple #[.int .u32 (aluS op a b), .bool true]) ∧ ∃ n, w' = w.drewN n := by
  have hss := mul_ss h0 h1 g0 g1
  have hsu := mul_su h0 h1 g0 g1
  have huu := mul_uu h0 h1 g0 g1
  have ba := sg_bd h0 h1
  have bb := sg_bd g0 g1
  by_cases hb : b = 0
  · subst hb
    have z0 : sg 0 = 0 := rfl
    obtain rfl | rfl | rfl | rfl | rfl | rfl | rfl | rfl : op = 11 ∨ op = 12 ∨ op = 13 ∨ op = 14 ∨ op = 15 ∨ op = 16 ∨ op = 17 ∨ op = 18 := by omega
    all_goals
      go_enter Try.func102, Try.ntmps102
      go_wp2_with fail
      refine (ref1_div (sg a) 0 _ (by omega) (by omega)).mono ?_
      rintro e w' ⟨rfl, n1, rfl⟩
      go_wp2_with fail
      refine (ref1_div a 0 _ (by omega) (by omega)).mono ?_
      rintro e w' ⟨rfl, n2, rfl⟩
      go_wp2_with (first | (go_at_call 69; refine (ref1_word _ _).mono ?_; rintro e w' ⟨rfl, rfl⟩) | (go_at_call 101; refine (ref1_floor _ _ _ (by omega) (by omega) (by omega) (by omega)).mono ?_; rintro e w' ⟨rfl, rfl⟩))
      go_ret2
      refine ⟨ret_u32b ?_ rfl, _, rfl⟩
      (show _ = aluS _ a 0)
      first | (simp [aluS, z0]; done) | (simp [aluS]; omega) | (simp [aluS, sg_mod h0 h1]; done)
  · have hs : ¬ sg b = 0 := fun h => hb ((sg_zero g0 g1).1 h)
    obtain rfl | rfl | rfl | rfl | rfl | rfl | rfl | rfl : op = 11 ∨ op = 12 ∨ op = 13 ∨ op = 14 ∨ op = 15 ∨ op = 16 ∨ op = 17 ∨ op = 18 := by omega
    all_goals
      go_enter Try.func102, Try.ntmps102
      go_wp2_with fail
      refine (ref1_div (sg a) (sg b) _ (by omega) (by omega)).mono ?_
      rintro e w' ⟨rfl, n1, rfl⟩
      go_wp2_with fail
      refine (ref1_div a b _ (by omega) (by omega)).mono ?_
      rintro e w' ⟨rfl, n2, rfl⟩
      go_wp2_with (first | (go_at_call 69; refine (ref1_word _ _).mono ?_; rintro e w' ⟨rfl, rfl⟩) | (go_at_call 101; refine (ref1_floor _ _ _ (by omega) (by omega) (by omega) (by omega)).mono ?_; rintro e w' ⟨rfl, rfl⟩))
      go_ret2
      refine ⟨ret_u32b ?_ rfl, _, rfl⟩
      (show _ = aluS _ a b)
    · exact mul_cong h0 h1 g0 g1
    · rfl
    · rfl
    · rfl
    · simp [aluS, hb]
    · simp only [aluS, hb, if_false]
      rw [Int.tdiv_eq_ediv_of_nonneg h0]
      have h2 := Int.ediv_le_self b h0
      have h3 := Int.ediv_nonneg h0 g0
      have : a / b % 4294967296 = a / b := Int.emod_eq_of_lt h3 (by omega)
      simpa using this
    · simp [aluS, hb]
    · simp only [aluS, hb, if_false]
      have h2 := Int.emod_nonneg a hb
      have h3 := Int.emod_lt_of_pos a (by omega : 0 < b)
      have : a % b % 4294967296 = a % b := Int.emod_eq_of_lt h2 (by omega)
      simpa using this

theorem ref1_xor (a b : Int) (w : World) (h0 : 0 ≤ a) (h1 : a < 4294967296) (g0 : 0 ≤ b) (g1 : b < 4294967296) :
    Calls Try.prog 100 #[.int .u32 a, .int .u32 b, .int .u32 0, .int .u32 1, .int .u32 0] w fun e w' => e = .returned (.int .u32 ((a.toNat ^^^ b.toNat : Nat) : Int)) ∧ w = w' :=
  ref1_bits a b 0 1 0 (a.toNat ^^^ b.toNat) w h0 h1 g0 g1 (by omega) (by omega) (by omega) (nat_lt_xor h0 h1 g0 g1) (fun k => by rw [bit_xor]; (repeat' split) <;> omega)
theorem ref1_or (a b : Int) (w : World) (h0 : 0 ≤ a) (h1 : a < 4294967296) (g0 : 0 ≤ b) (g1 : b < 4294967296) :
    Calls Try.prog 100 #[.int .u32 a, .int .u32 b, .int .u32 0, .int .u32 1, .int .u32 1] w fun e w' => e = .returned (.int .u32 ((a.toNat ||| b.toNat : Nat) : Int)) ∧ w = w' :=
  ref1_bits a b 0 1 1 (a.toNat ||| b.toNat) w h0 h1 g0 g1 (by omega) (by omega) (by omega) (nat_lt_or h0 h1 g0 g1) (fun k => by rw [bit_or]; (repeat' split) <;> omega)
theorem ref1_and (a b : Int) (w : World) (h0 : 0 ≤ a) (h1 : a < 4294967296) (g0 : 0 ≤ b) (g1 : b < 4294967296) :
    Calls Try.prog 100 #[.int .u32 a, .int .u32 b, .int .u32 0, .int .u32 0, .int .u32 1] w fun e w' => e = .returned (.int .u32 ((a.toNat &&& b.toNat : Nat) : Int)) ∧ w = w' :=
  ref1_bits a b 0 0 1 (a.toNat &&& b.toNat) w h0 h1 g0 g1 (by omega) (by omega) (by omega) (nat_lt_and h0 h1 g0 g1) (fun k => by rw [bit_and]; (repeat' split) <;> omega)

set_option maxHeartbeats 600000 in
theorem ref1_alu (op a b : Int) (w : World) (p0 : 1 ≤ op) (p1 : op ≤ 18) (h0 : 0 ≤ a) (h1 : a < 4294967296) (g0 : 0 ≤ b) (g1 : b < 4294967296) :
    Calls Try.prog 81 #[.int .i64 op, .int .u32 a, .int .u32 b] w fun e w' => e = .returned (.tuple #[.int .u32 (aluS op a b), .bool true]) ∧ ∃ n, w' = w.drewN n := by
  have ba := sg_bd h0 h1
  have bb := sg_bd g0 g1
  obtain ⟨q0, q1⟩ := pow_bd (y := (b % 32).toNat) (by omega)
  by_cases hop : op ≤ 10
  · obtain rfl | rfl | rfl | rfl | rfl | rfl | rfl | rfl | rfl | rfl : op = 1 ∨ op = 2 ∨ op = 3 ∨ op = 4 ∨ op = 5 ∨ op = 6 ∨ op = 7 ∨ op = 8 ∨ op = 9 ∨ op = 10 := by omega
    all_goals
      go_enter Try.func81, Try.ntmps81
      go_wp2_with (first | (go_at_call 68; refine (ref1_signed _ _ (by omega) (by omega)).mono ?_; rintro e w' ⟨rfl, rfl⟩) | (go_at_call 69; refine (ref1_word _ _).mono ?_; rintro e w' ⟨rfl, rfl⟩) | (go_at_call 101; refine (ref1_floor _ _ _ (by omega) (by omega) (by omega) (by omega)).mono ?_; rintro e w' ⟨rfl, rfl⟩) | (go_at_call 99; refine (ref1_one _ _).mono ?_; rintro e w' ⟨rfl, rfl⟩) | (go_at_call 100; first | ((with_reducible refine (ref1_xor _ _ _ h0 h1 g0 g1).mono ?_); rintro e w' ⟨rfl, rfl⟩) | ((with_reducible refine (ref1_or _ _ _ h0 h1 g0 g1).mono ?_); rintro e w' ⟨rfl, rfl⟩) | ((with_reducible refine (ref1_and _ _ _ h0 h1 g0 g1).mono ?_); rintro e w' ⟨rfl, rfl⟩)))
    all_goals go_ret2
    all_goals refine ⟨ret_u32b ?_ rfl, 0, rfl⟩
    all_goals (show _ = aluS _ a b)
    all_goals first | rfl | (simp [aluS, *]; done) | (rw [show aluS 3 a b = a * 2 ^ (b % 32).toNat % 4294967296 from rfl]; unfold wrap64; omega) | (rw [show aluS 7 a b = a / 2 ^ (b % 32).toNat from rfl]; have h2 := div_le_self (b % 32).toNat h0; omega)
  · go_enter Try.func81, Try.ntmps81
    go_wp2_with (first | (go_at_call 68; refine (ref1_signed _ _ (by omega) (by omega)).mono ?_; rintro e w' ⟨rfl, rfl⟩) | (go_at_call 102; refine (ref1_more _ _ _ _ (by omega) (by omega) h0 h1 g0 g1).mono ?_; rintro e w' ⟨rfl, n, rfl⟩))
    go_ret2
    exact ⟨rfl, _, rfl⟩

set_option maxHeartbeats 400000 in
theorem ref1_div_quiet (x y : Int) (w : World) (h0 : -9223372036854775808 < x) (h1 : x ≤ 9223372036854775807) :
    Calls Try.prog 109 #[.int .i64 x, .int .i64 y] w fun e w' => (∃ q r, e = .returned (.tuple #[.int .i64 q, .int .i64 r])) ∧ ∃ n, w' = w.drewN n :=
  (ref1_div x y w h0 h1).mono fun _ _ ⟨h, g⟩ => ⟨⟨_, _, h⟩, g⟩

set_option maxHeartbeats 600000 in
theorem ref1_more_none (op x y u v : Int) (w : World) (p : op < 11 ∨ 18 < op) (hx : -2147483648 ≤ x ∧ x ≤ 2147483647) (hu : 0 ≤ u ∧ u < 4294967296) :
    Calls Try.prog 102 #[.int .i64 op, .int .i64 x, .int .i64 y, .int .i64 u, .int .i64 v] w fun e w' => e = .returned (.tuple #[.int .u32 0, .bool false]) ∧ ∃ n, w' = w.drewN n := by
  go_enter Try.func102, Try.ntmps102
  go_wp2_with fail
  refine (ref1_div_quiet x y _ (by omega) (by omega)).mono ?_
  rintro e w' ⟨⟨q1, r1, rfl⟩, n1, rfl⟩
  go_wp2_with fail
  refine (ref1_div_quiet u v _ (by omega) (by omega)).mono ?_
  rintro e w' ⟨⟨q2, r2, rfl⟩, n2, rfl⟩
  go_wp2_with fail
  go_ret2
  exact ⟨rfl, _, rfl⟩
end Go.Proofs.Ytghclbeoabkgcaa
