/- Contracts of packages quant and pintleref20: numbers that are scaled. -/
import Derived.Test.YtghclbeoabkgcaaProg
import Derived.Test.YtghclbeoabkgcaaPlainA
import Derived.Test.YtghclbeoabkgcaaQuantP
import Derived.Test.YtghclbeoabkgcaaRefA
import Derived.WalkSpells
import Derived.WalkSmall
import Derived.Handy
import Derived.Lib.Hide
import Derived.BigQuiet
namespace Go.Proofs.Ytghclbeoabkgcaa
open Go Go.RowKit Pl
set_option linter.unusedVariables false

theorem wrap32_bd (n : Int) : -2147483648 ≤ wrap32 n ∧ wrap32 n ≤ 2147483647 := by unfold wrap32; omega
theorem mul_nm {n m : Int} (h : -2147483648 ≤ n ∧ n ≤ 2147483647) (g : -2147483648 ≤ m ∧ m ≤ 2147483647) : -4611686018427387904 ≤ n * m ∧ n * m ≤ 4611686018427387904 := by
  have := mul_bd (x := n) (y := m) (A := 2147483648) (B := 2147483648) (by omega) (by omega)
  omega
theorem wrap32_mod (x : Int) : wrap32 (x % 4294967296) = wrap32 x := by unfold wrap32; omega

theorem pow_bd30 {y : Nat} (h : y ≤ 30) : (1 : Int) ≤ 2 ^ y ∧ (2 : Int) ^ y ≤ 1073741824 := by
  have h1 := pow_toNat_pos y
  have h2 : (2 : Nat) ^ y ≤ 2 ^ 30 := Nat.pow_le_pow_right (by omega) h
  have h3 : ((2 ^ y : Nat) : Int) = (2 : Int) ^ y := by simp
  omega
theorem scale_no {n m s : Int} (h : s < 0 ∨ 31 < s) : scaleS n m s = 0 := by unfold scaleS; rw [if_pos h]
theorem scale_zero {n m : Int} : scaleS n m 0 = sc1 n m := by unfold scaleS; rw [if_neg (by omega), if_pos rfl]
theorem scale_some {n m s : Int} (h0 : 1 ≤ s) (h1 : s ≤ 31) : scaleS n m s = wrap32 (sc1 n m + 2 ^ (s.toNat - 1)) / 2 ^ s.toNat := by
  unfold scaleS; rw [if_neg (by omega), if_neg (by omega)]
  rw [show (s - 1).toNat = s.toNat - 1 by omega]

set_option maxHeartbeats 400000 in
theorem quant_scale (n m s : Int) (w : World) (hn : -2147483648 ≤ n ∧ n ≤ 2147483647) (hm : -2147483648 ≤ m ∧ m ≤ 2147483647) :
    Calls Try.prog 34 #[.int .i32 n, .int .i32 m, .int .i64 s] w fun e w' => e = .returned (.int .i32 (scaleS n m s)) ∧ w = w' := by
  have hp := mul_nm hn hm
  have hw := wrap32_mod ((n * m + 1073741824) / 2147483648)
  obtain h0 | h0 : s < 0 ∨ 0 ≤ s := by omega
  · go_enter Try.func34, Try.ntmps34
    go_wp2
    go_ret
    exact ⟨ret_i32 (scale_no (Or.inl h0)).symm, rfl⟩
  · obtain h1 | h1 : 31 < s ∨ s ≤ 31 := by omega
    · have hd : decide (s ≤ 31) = false := decide_eq_false (by omega)
      go_enter Try.func34, Try.ntmps34
      go_wp2
      all_goals go_ret
      exact ⟨ret_i32 (scale_no (Or.inr h1)).symm, rfl⟩
    · by_cases hz : s = 0
      · subst hz
        go_enter Try.func34, Try.ntmps34
        go_wp2
        go_ret
        exact ⟨ret_i32 ((wrap32_mod _).trans scale_zero.symm), rfl⟩
      · have h2 : 1 ≤ s := by omega
        clear hz h0
        obtain ⟨q0, q1⟩ := pow_bd (y := s.toNat) (by omega)
        obtain ⟨q2, q3⟩ := pow_bd30 (y := s.toNat - 1) (by omega)
        go_enter Try.func34, Try.ntmps34
        go_wp2
        go_ret
        exact ⟨ret_i32 (scale_some h2 h1).symm, rfl⟩

theorem floor20 {x p : Int} (hp : 1 ≤ p) : (x.tmod p < 0 → x.tdiv p - 1 = x / p) ∧ (0 ≤ x.tmod p → x.tdiv p = x / p) := by
  have e := Int.tdiv_eq_ediv (a := x) (b := p)
  have hs : p.sign = 1 := Int.sign_eq_one_of_pos (by omega)
  rw [hs] at e
  have t := Int.mul_tdiv_add_tmod x p
  have m := Int.emod_add_mul_ediv x p
  have m0 := Int.emod_nonneg x (show p ≠ 0 by omega)
  have m1 := Int.emod_lt_of_pos x (show 0 < p by omega)
  by_cases h : 0 ≤ x ∨ p ∣ x
  · rw [if_pos h] at e
    have : 0 ≤ x.tmod p := by
      rcases h with h | h
      · exact Int.tmod_nonneg _ h
      · rw [Int.tmod_eq_zero_of_dvd h]; omega
    exact ⟨fun _ => by omega, fun _ => by omega⟩
  · rw [if_neg h] at e
    have : x.tmod p < 0 := by
      have e2 : p * x.tdiv p = p * (x / p) + p := by rw [e, Int.mul_add]; omega
      omega
    exact ⟨fun _ => by omega, fun _ => by omega⟩
theorem tdiv_bd64 {x y : Int} (h : -9223372036854775807 ≤ x ∧ x ≤ 9223372036854775807) : -9223372036854775807 ≤ x.tdiv y ∧ x.tdiv y ≤ 9223372036854775807 := by
  have := Int.natAbs_tdiv_le_natAbs x y
  omega

set_option maxHeartbeats 400000 in
theorem ref20_floor (n b : Int) (w : World) (hn : -9223372036854775807 ≤ n ∧ n ≤ 9223372036854775807) (g0 : 0 ≤ b) (g1 : b ≤ 32) :
    Calls Try.prog 39 #[.int .i64 n, .int .i64 b] w fun e w' => e = .returned (.int .i64 (n / 2 ^ b.toNat)) ∧ w = w' := by
  obtain ⟨p0, p1⟩ := pow_bd (y := b.toNat) (by omega)
  have hb := tdiv_bd64 (y := 2 ^ b.toNat) hn
  go_enter Try.func39, Try.ntmps39
  go_wp2
  all_goals go_ret
  · refine ⟨ret_i64 ?_, rfl⟩
    have ht : n.tmod (2 ^ b.toNat) < 0 := by assumption
    exact (floor20 p0).1 ht
  · exact ⟨ret_i64 ((floor20 p0).2 (by assumption)), rfl⟩

theorem wrap_walk (n : Int) : (IntKind.u64.wrap n).tmod 4294967296 % 4294967296 = n % 4294967296 := by
  rw [IntKind.wrap_u64, IntWalk.rem_in _ _ (by omega)]; omega
set_option maxHeartbeats 400000 in
theorem ref20_wrap (n : Int) (w : World) (hn : -9223372036854775807 ≤ n ∧ n ≤ 9223372036854775807) :
    Calls Try.prog 38 #[.int .i64 n] w fun e w' => e = .returned (.int .i64 (wrap32 n)) ∧ w = w' := by
  have hw := wrap_walk n
  go_enter Try.func38, Try.ntmps38
  go_wp2
  all_goals go_ret
  all_goals refine ⟨ret_i64 ?_, rfl⟩
  · show n % 4294967296 - 4294967296 = wrap32 n; unfold wrap32; omega
  · show n % 4294967296 = wrap32 n; unfold wrap32; omega

theorem sc1_bd (n m : Int) : -2147483648 ≤ sc1 n m ∧ sc1 n m ≤ 2147483647 := wrap32_bd _
theorem scale_bd (n m s : Int) : -2147483648 ≤ scaleS n m s ∧ scaleS n m s ≤ 2147483647 := by
  obtain h | h : (s < 0 ∨ 31 < s) ∨ 0 ≤ s ∧ s ≤ 31 := by omega
  · rw [scale_no h]; omega
  · obtain rfl | h2 : s = 0 ∨ 1 ≤ s := by omega
    · rw [scale_zero]; exact sc1_bd n m
    · rw [scale_some h2 h.2]
      have hb := wrap32_bd (sc1 n m + 2 ^ (s.toNat - 1))
      generalize wrap32 (sc1 n m + 2 ^ (s.toNat - 1)) = x at *
      have p := pow_toNat_pos s.toNat
      constructor
      · apply Int.le_ediv_of_mul_le p
        omega
      · exact Int.le_trans (Int.ediv_le_ediv p (show x ≤ 2147483647 by omega)) (Int.ediv_le_self _ (by omega))

set_option maxHeartbeats 400000 in
theorem ref20_scale (n m s : Int) (w : World) (hn : -2147483648 ≤ n ∧ n ≤ 2147483647) (hm : -2147483648 ≤ m ∧ m ≤ 2147483647) :
    Calls Try.prog 15 #[.int .i32 n, .int .i32 m, .int .i64 s] w fun e w' => e = .returned (.int .i32 (scaleS n m s)) ∧ w = w' := by
  have hp := mul_nm hn hm
  have hc := sc1_bd n m
  obtain h0 | h0 : s < 0 ∨ 0 ≤ s := by omega
  · go_enter Try.func15, Try.ntmps15
    go_wp2
    go_ret
    exact ⟨ret_i32 (scale_no (Or.inl h0)).symm, rfl⟩
  · obtain h1 | h1 : 31 < s ∨ s ≤ 31 := by omega
    · go_enter Try.func15, Try.ntmps15
      go_wp2
      go_ret
      exact ⟨ret_i32 (scale_no (Or.inr h1)).symm, rfl⟩
    · have hsc : wrap32 ((n * m + 1073741824) / 2147483648) = sc1 n m := rfl
      by_cases hz : s = 0
      · subst hz
        go_enter Try.func15, Try.ntmps15
        go_wp2_with (first | (go_at_call 39; refine (ref20_floor _ _ _ (by omega) (by omega) (by omega)).mono ?_; rintro e w' ⟨rfl, rfl⟩) | (go_at_call 38; refine (ref20_wrap _ _ (by omega)).mono ?_; rintro e w' ⟨rfl, rfl⟩))
        go_ret
        exact ⟨ret_i32 scale_zero.symm, rfl⟩
      · have h2 : 1 ≤ s := by omega
        clear hz h0
        obtain ⟨q0, q1⟩ := pow_bd (y := s.toNat) (by omega)
        obtain ⟨q2, q3⟩ := pow_bd30 (y := s.toNat - 1) (by omega)
        have hx := wrap32_bd (sc1 n m + 2 ^ (s.toNat - 1))
        have hsb := scale_bd n m s
        rw [scale_some h2 h1] at hsb
        go_enter Try.func15, Try.ntmps15
        go_wp2_with (first | (go_at_call 39; refine (ref20_floor _ _ _ (by omega) (by omega) (by omega)).mono ?_; rintro e w' ⟨rfl, rfl⟩) | (go_at_call 38; refine (ref20_wrap _ _ (by omega)).mono ?_; rintro e w' ⟨rfl, rfl⟩))
        go_ret
        exact ⟨ret_i32 (scale_some h2 h1).symm, rfl⟩


set_option maxHeartbeats 400000 in
theorem quant_clamp (n lo hi : Int) (w : World) :
    Calls Try.prog 35 #[.int .i32 n, .int .i32 lo, .int .i32 hi] w fun e w' => e = .returned (.int .i32 (clampS n lo hi)) ∧ w = w' := by
  by_cases h : n < lo
  · go_enter Try.func35, Try.ntmps35
    go_wp2
    go_ret
    exact ⟨ret_i32 (by unfold clampS; rw [if_pos h]), rfl⟩
  · by_cases g : hi < n
    · go_enter Try.func35, Try.ntmps35
      go_wp2
      go_ret
      exact ⟨ret_i32 (by unfold clampS; rw [if_neg (by omega), if_pos g]), rfl⟩
    · go_enter Try.func35, Try.ntmps35
      go_wp2
      go_ret
      exact ⟨ret_i32 (by unfold clampS; rw [if_neg (by omega), if_neg (by omega)]), rfl⟩

set_option maxHeartbeats 400000 in
theorem ref20_clamp (n lo hi : Int) (w : World) :
    Calls Try.prog 44 #[.int .i32 n, .int .i32 lo, .int .i32 hi] w fun e w' => e = .returned (.int .i32 (clampS n lo hi)) ∧ w = w' := by
  by_cases h : n < lo
  · go_enter Try.func44, Try.ntmps44
    go_wp2
    go_ret
    exact ⟨ret_i32 (by unfold clampS; rw [if_pos h]), rfl⟩
  · by_cases g : hi < n
    · go_enter Try.func44, Try.ntmps44
      go_wp2
      go_ret
      exact ⟨ret_i32 (by unfold clampS; rw [if_neg (by omega), if_pos g]), rfl⟩
    · go_enter Try.func44, Try.ntmps44
      go_wp2
      go_ret
      exact ⟨ret_i32 (by unfold clampS; rw [if_neg (by omega), if_neg (by omega)]), rfl⟩

set_option maxHeartbeats 400000 in
theorem ref20_byte (n m s z lo hi : Int) (w : World) (hn : -2147483648 ≤ n ∧ n ≤ 2147483647) (hm : -2147483648 ≤ m ∧ m ≤ 2147483647) (hz : -2147483648 ≤ z ∧ z ≤ 2147483647) :
    Calls Try.prog 18 #[.int .i32 n, .int .i32 m, .int .i64 s, .int .i32 z, .int .i32 lo, .int .i32 hi] w fun e w' => e = .returned (.int .i32 (clampS (wrap32 (scaleS n m s + z)) lo hi)) ∧ w = w' := by
  have hb := scale_bd n m s
  have hw := wrap32_bd (scaleS n m s + z)
  go_enter Try.func18, Try.ntmps18
  go_wp2_with (first | (go_at_call 15; refine (ref20_scale _ _ _ _ hn hm).mono ?_; rintro e w' ⟨rfl, rfl⟩) | (go_at_call 38; refine (ref20_wrap _ _ (by omega)).mono ?_; rintro e w' ⟨rfl, rfl⟩) | (go_at_call 44; refine (ref20_clamp _ _ _ _).mono ?_; rintro e w' ⟨rfl, rfl⟩))
  go_ret
  exact ⟨rfl, rfl⟩
end Go.Proofs.Ytghclbeoabkgcaa
