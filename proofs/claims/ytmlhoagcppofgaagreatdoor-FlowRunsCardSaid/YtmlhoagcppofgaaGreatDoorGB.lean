/- Contracts of package num's functions: what each call answers, for all words. -/
import Derived.Test.YtmlhoagcppofgaaGreatDoorProg
import Derived.Test.YtmlhoagcppofgaaGreatDoorGA
import Derived.WalkSpells
import Derived.Handy
import Derived.Lib.Hide
import Derived.Deep.QuietTactic
import Derived.BigQuiet
import Derived.WalkSmall
import Derived.Laws.StructEq
import Derived.Deep.RegionHeld3
namespace Go.Proofs.YtmlhoagcppofgaaGreatDoor
open Go Go.RowKit Pl
set_option linter.unusedVariables false

theorem ret_u32 {a b : Int} (h : a = b) : Ending.returned (.int .u32 a) = .returned (.int .u32 b) := by rw [h]
theorem ret_i32 {a b : Int} (h : a = b) : Ending.returned (.int .i32 a) = .returned (.int .i32 b) := by rw [h]
theorem ret_i64 {a b : Int} (h : a = b) : Ending.returned (.int .i64 a) = .returned (.int .i64 b) := by rw [h]
theorem ret_u32b {a b : Int} {c d : Bool} (h : a = b) (g : c = d) : Ending.returned (.tuple #[.int .u32 a, .bool c]) = .returned (.tuple #[.int .u32 b, .bool d]) := by rw [h, g]
theorem ret_bool {a b : Bool} (h : a = b) : Ending.returned (.bool a) = .returned (.bool b) := by rw [h]

set_option maxHeartbeats 400000 in
theorem num_signed (a : Int) (w : World) (h0 : 0 ≤ a) (h1 : a < 4294967296) :
    Calls Tryz.prog 60 #[.int .u32 a] w fun e w' => e = .returned (.int .i32 (sg a)) ∧ w = w' := by
  go_enter Tryz.func60, Tryz.ntmps60
  go_wp2
  go_ret
  exact ⟨ret_i32 (wrap32_sg h0 h1), rfl⟩

set_option maxHeartbeats 400000 in
theorem num_simple (op a b : Int) (w : World) (h0 : 0 ≤ a) (h1 : a < 4294967296)  (g0 : 0 ≤ b) (g1 : b < 4294967296) (p0 : 1 ≤ op) (p1 : op ≤ 10) :
    Calls Tryz.prog 92 #[.int .i64 op, .int .u32 a, .int .u32 b] w fun e w' => e = .returned (.int .u32 (aluS op a b)) ∧ w = w' := by
  have e31 := and31 g0 g1
  have eq := wrap32_sg h0 h1
  have ew := wrap32_sg g0 g1
  have q0 : 0 ≤ b % 32 := by omega
  have q1 : b % 32 < 32 := by omega
  obtain rfl | rfl | rfl | rfl | rfl | rfl | rfl | rfl | rfl | rfl : op = 1 ∨ op = 2 ∨ op = 3 ∨ op = 4 ∨ op = 5 ∨ op = 6 ∨ op = 7 ∨ op = 8 ∨ op = 9 ∨ op = 10 := by omega
  all_goals
    go_enter Tryz.func92, Tryz.ntmps92
    go_wp2
    all_goals go_ret
    all_goals refine ⟨ret_u32 ?_, rfl⟩
    all_goals (show _ = aluS _ a b)
    all_goals first | rfl | (simp [aluS, *]; done) | (simp [aluS]; omega) | exact u32_xor a b h0 h1 g0 g1 | exact u32_or a b h0 h1 g0 g1 | exact u32_and a b h0 h1 g0 g1

set_option maxHeartbeats 400000 in
theorem num_multiply (op a b : Int) (w : World) (h0 : 0 ≤ a) (h1 : a < 4294967296)  (g0 : 0 ≤ b) (g1 : b < 4294967296) (p0 : 11 ≤ op) (p1 : op ≤ 14) :
    Calls Tryz.prog 91 #[.int .i64 op, .int .u32 a, .int .u32 b] w fun e w' => e = .returned (.int .u32 (aluS op a b)) ∧ w = w' := by
  have hss := mul_ss h0 h1 g0 g1
  have hsu := mul_su h0 h1 g0 g1
  have huu := mul_uu h0 h1 g0 g1
  have ba := sg_bd h0 h1
  have bb := sg_bd g0 g1
  have eq := wrap32_sg h0 h1
  have ew := wrap32_sg g0 g1
  obtain rfl | rfl | rfl | rfl : op = 11 ∨ op = 12 ∨ op = 13 ∨ op = 14 := by omega
  all_goals
    go_enter Tryz.func91, Tryz.ntmps91
    go_wp2
    all_goals go_ret
    all_goals refine ⟨ret_u32 ?_, rfl⟩
    all_goals (show _ = aluS _ a b)
  · rfl
  · rw [IntKind.wrap_u64, show aluS 12 a b = sg a * sg b / 4294967296 % 4294967296 from rfl]; omega
  · rw [IntKind.wrap_u64, show aluS 13 a b = sg a * b / 4294967296 % 4294967296 from rfl]; omega
  · rfl

theorem tdiv_bd {x y : Int} (h : -2147483648 ≤ x ∧ x ≤ 2147483647) : -2147483648 ≤ x.tdiv y ∧ x.tdiv y ≤ 2147483648 := by
  have := Int.natAbs_tdiv_le_natAbs x y
  omega
/-- the rest out of the quotient -/
theorem rest_of {a b : Int} (h0 : 0 ≤ a) (h1 : a < 4294967296) (g0 : 0 ≤ b) (g1 : b < 4294967296) :
    (a - (sg a).tdiv (sg b) % 4294967296 * b % 4294967296) % 4294967296 = (sg a).tmod (sg b) % 4294967296 := by
  have e : (sg a).tmod (sg b) = sg a - sg b * (sg a).tdiv (sg b) := by have := Int.mul_tdiv_add_tmod (sg a) (sg b); omega
  rw [e]
  generalize (sg a).tdiv (sg b) = q
  have ea := sg_mod h0 h1
  have eb := sg_mod g0 g1
  have e1 : q % 4294967296 * b % 4294967296 = sg b * q % 4294967296 := by
    conv => lhs; rw [← eb]
    rw [← Int.mul_emod, Int.mul_comm]
  rw [e1]
  conv => lhs; rw [← ea]
  rw [← Int.sub_emod]

set_option maxHeartbeats 400000 in
theorem num_divide (op a b : Int) (w : World) (h0 : 0 ≤ a) (h1 : a < 4294967296)  (g0 : 0 ≤ b) (g1 : b < 4294967296) (p0 : 15 ≤ op) (p1 : op ≤ 18) :
    Calls Tryz.prog 90 #[.int .i64 op, .int .u32 a, .int .u32 b] w fun e w' => e = .returned (.int .u32 (aluS op a b)) ∧ w = w' := by
  have ba := sg_bd h0 h1
  have bb := sg_bd g0 g1
  have eq := wrap32_sg h0 h1
  have ew := wrap32_sg g0 g1
  by_cases hb : b = 0
  · subst hb
    obtain rfl | rfl | rfl | rfl : op = 15 ∨ op = 16 ∨ op = 17 ∨ op = 18 := by omega
    all_goals
      go_enter Tryz.func90, Tryz.ntmps90
      go_wp2
      go_ret
      refine ⟨ret_u32 ?_, rfl⟩
      (show _ = aluS _ a 0)
      first | rfl | (simp [aluS]; omega)
  · have hs : sg b ≠ 0 := fun h => hb ((sg_zero g0 g1).1 h)
    have hb1 : 1 ≤ b := by omega
    have bq := tdiv_bd (y := sg b) ba
    obtain rfl | rfl | rfl | rfl : op = 15 ∨ op = 16 ∨ op = 17 ∨ op = 18 := by omega
    all_goals
      go_enter Tryz.func90, Tryz.ntmps90
      go_wp2
      go_ret
      refine ⟨ret_u32 ?_, rfl⟩
      (show _ = aluS _ a b)
    · simp [aluS, hb]
    · simp [aluS, hb]
    · simp only [aluS, hb, if_false]
      have := rest_of h0 h1 g0 g1
      simpa using this
    · simp [aluS, hb]

set_option maxHeartbeats 400000 in
theorem num_alu (op a b : Int) (w : World) (h0 : 0 ≤ a) (h1 : a < 4294967296)  (g0 : 0 ≤ b) (g1 : b < 4294967296) (p0 : 1 ≤ op) (p1 : op ≤ 18) :
    Calls Tryz.prog 76 #[.int .i64 op, .int .u32 a, .int .u32 b] w fun e w' => e = .returned (.tuple #[.int .u32 (aluS op a b), .bool true]) ∧ w = w' := by
  by_cases c1 : op ≤ 10
  · go_enter Tryz.func76, Tryz.ntmps76
    go_wp2_with (go_at_call 92; refine (num_simple _ _ _ _ h0 h1 g0 g1 p0 c1).mono ?_; rintro e w' ⟨rfl, rfl⟩)
    go_ret2
    exact ⟨rfl, rfl⟩
  · by_cases c2 : op ≤ 14
    · go_enter Tryz.func76, Tryz.ntmps76
      go_wp2_with (go_at_call 91; refine (num_multiply _ _ _ _ h0 h1 g0 g1 (by omega) c2).mono ?_; rintro e w' ⟨rfl, rfl⟩)
      go_ret2
      exact ⟨rfl, rfl⟩
    · go_enter Tryz.func76, Tryz.ntmps76
      go_wp2_with (go_at_call 90; refine (num_divide _ _ _ _ h0 h1 g0 g1 (by omega) p1).mono ?_; rintro e w' ⟨rfl, rfl⟩)
      go_ret2
      exact ⟨rfl, rfl⟩

set_option maxHeartbeats 400000 in
theorem num_alu_none (op a b : Int) (w : World) (p : op < 1 ∨ 18 < op) :
    Calls Tryz.prog 76 #[.int .i64 op, .int .u32 a, .int .u32 b] w fun e w' => e = .returned (.tuple #[.int .u32 0, .bool false]) ∧ w = w' := by
  obtain c | c := p
  · go_enter Tryz.func76, Tryz.ntmps76
    go_wp2
    go_ret2
    exact ⟨rfl, rfl⟩
  · go_enter Tryz.func76, Tryz.ntmps76
    go_wp2
    go_ret2
    exact ⟨rfl, rfl⟩

/-- the lowest n bits of a, with their sign -/
def sextS (a n : Int) : Int := if n < 1 then 0 else if 31 < n then a else
  (if a % 2 ^ n.toNat < 2 ^ (n - 1).toNat then a % 2 ^ n.toNat else a % 2 ^ n.toNat - 2 ^ n.toNat) % 4294967296

theorem sext_walk {a n : Int} (h0 : 0 ≤ a) (h1 : a < 4294967296) (n0 : 1 ≤ n) (n1 : n ≤ 31) :
    wrap32 (a * 2 ^ (32 - n).toNat % 4294967296) / 2 ^ (32 - n).toNat % 4294967296 = sextS a n := by
  obtain ⟨k, rfl⟩ : ∃ k : Nat, n = k := ⟨n.toNat, by omega⟩
  unfold sextS wrap32
  rw [if_neg (by omega), if_neg (by omega)]
  have hk : k = 1 ∨ k = 2 ∨ k = 3 ∨ k = 4 ∨ k = 5 ∨ k = 6 ∨ k = 7 ∨ k = 8 ∨ k = 9 ∨ k = 10 ∨ k = 11 ∨ k = 12 ∨ k = 13 ∨ k = 14 ∨ k = 15 ∨ k = 16 ∨ k = 17 ∨ k = 18 ∨ k = 19 ∨ k = 20 ∨ k = 21 ∨ k = 22 ∨ k = 23 ∨ k = 24 ∨ k = 25 ∨ k = 26 ∨ k = 27 ∨ k = 28 ∨ k = 29 ∨ k = 30 ∨ k = 31 := by omega
  rcases hk with rfl | rfl | rfl | rfl | rfl | rfl | rfl | rfl | rfl | rfl | rfl | rfl | rfl | rfl | rfl | rfl | rfl | rfl | rfl | rfl | rfl | rfl | rfl | rfl | rfl | rfl | rfl | rfl | rfl | rfl | rfl <;> simp <;> split <;> omega

set_option maxHeartbeats 400000 in
theorem num_sext (a n : Int) (w : World) (h0 : 0 ≤ a) (h1 : a < 4294967296) :
    Calls Tryz.prog 61 #[.int .u32 a, .int .i64 n] w fun e w' => e = .returned (.int .u32 (sextS a n)) ∧ w = w' := by
  go_enter Tryz.func61, Tryz.ntmps61
  go_wp2
  all_goals go_ret
  all_goals refine ⟨ret_u32 ?_, rfl⟩
  all_goals (show _ = sextS _ _)
  · unfold sextS; rw [if_pos (by assumption)]
  · unfold sextS; rw [if_neg (by omega), if_pos (by assumption)]
  · exact sext_walk h0 h1 (by assumption) (by assumption)

theorem pow_bd {y : Nat} (h : y ≤ 32) : (1 : Int) ≤ 2 ^ y ∧ (2 : Int) ^ y ≤ 4294967296 := by
  have h1 := pow_toNat_pos y
  have h2 : (2 : Nat) ^ y ≤ 2 ^ 32 := Nat.pow_le_pow_right (by omega) h
  have h3 : ((2 ^ y : Nat) : Int) = (2 : Int) ^ y := by simp
  omega

end Go.Proofs.YtmlhoagcppofgaaGreatDoor

namespace Go.Proofs.YtmlhoagcppofgaaGreatDoor
open Go Go.RowKit Pl
set_option linter.unusedVariables false

theorem sext12 {x : Int} (h0 : 0 ≤ x) (h1 : x < 4294967296) : sg (sextS x 12) = if x % 4096 < 2048 then x % 4096 else x % 4096 - 4096 := by
  have e : sextS x 12 = (if x % 4096 < 2048 then x % 4096 else x % 4096 - 4096) % 4294967296 := rfl
  rw [e]; unfold sg; repeat' split
  all_goals omega
theorem sext13 {x : Int} (h0 : 0 ≤ x) (h1 : x < 4294967296) : sg (sextS x 13) = if x % 8192 < 4096 then x % 8192 else x % 8192 - 8192 := by
  have e : sextS x 13 = (if x % 8192 < 4096 then x % 8192 else x % 8192 - 8192) % 4294967296 := rfl
  rw [e]; unfold sg; repeat' split
  all_goals omega
theorem sext21 {x : Int} (h0 : 0 ≤ x) (h1 : x < 4294967296) : sg (sextS x 21) = if x % 2097152 < 1048576 then x % 2097152 else x % 2097152 - 2097152 := by
  have e : sextS x 21 = (if x % 2097152 < 1048576 then x % 2097152 else x % 2097152 - 2097152) % 4294967296 := rfl
  rw [e]; unfold sg; repeat' split
  all_goals omega
theorem sext_bd (x n : Int) (h0 : 0 ≤ x) (h1 : x < 4294967296) : 0 ≤ sextS x n ∧ sextS x n < 4294967296 := by
  unfold sextS; repeat' (apply ite_bd <;> intro _)
  all_goals omega

set_option maxHeartbeats 400000 in
theorem imm_bits (a f m : Int) (w : World) (h0 : 0 ≤ a) (h1 : a < 4294967296) (f0 : 0 ≤ f) (f1 : f ≤ 31) (m0 : 0 ≤ m) (m1 : m ≤ 31) :
    Calls Tryz.prog 62 #[.int .u32 a, .int .u64 f, .int .u64 m] w fun e w' => e = .returned (.int .u32 (a / 2 ^ f.toNat % 2 ^ m.toNat)) ∧ w = w' := by
  obtain ⟨q0, q1⟩ := pow_bd (y := m.toNat) (by omega)
  obtain ⟨d0, d1⟩ := div_le_self f.toNat h0
  have e := and_mask m.toNat (by omega) d0 (by omega)
  go_enter Tryz.func62, Tryz.ntmps62
  go_wp2
  go_ret
  exact ⟨rfl, rfl⟩

set_option maxHeartbeats 1000000 in
theorem imm_get (form a : Int) (w : World) (h0 : 0 ≤ a) (h1 : a < 4294967296) :
    Calls Tryz.prog 48 #[.int .i64 form, .int .u32 a] w fun e w' => e = .returned (.int .i32 (getS form a)) ∧ w = w' := by
  by_cases h : 1 ≤ form ∧ form ≤ 5
  · have e2 : bits .or .u32 (a / 33554432 * 32) (a / 128 % 32) = a / 33554432 * 32 + a / 128 % 32 := or_add 5 32 rfl (by omega) (by omega) (by omega) (by omega) (by omega) (by omega)
    have e3a : bits .or .u32 (a / 2147483648 * 4096) (a / 128 % 2 * 2048) = a / 2147483648 * 4096 + a / 128 % 2 * 2048 := or_add 12 4096 rfl (by omega) (by omega) (by omega) (by omega) (by omega) (by omega)
    have e3b : bits .or .u32 (a / 2147483648 * 4096 + a / 128 % 2 * 2048) (a / 33554432 % 64 * 32) = a / 2147483648 * 4096 + a / 128 % 2 * 2048 + a / 33554432 % 64 * 32 := or_add 11 2048 rfl (by omega) (by omega) (by omega) (by omega) (by omega) (by omega)
    have e3c : bits .or .u32 (a / 2147483648 * 4096 + a / 128 % 2 * 2048 + a / 33554432 % 64 * 32) (a / 256 % 16 * 2) = a / 2147483648 * 4096 + a / 128 % 2 * 2048 + a / 33554432 % 64 * 32 + a / 256 % 16 * 2 := or_add 5 32 rfl (by omega) (by omega) (by omega) (by omega) (by omega) (by omega)
    have e5a : bits .or .u32 (a / 2147483648 * 1048576) (a / 4096 % 256 * 4096) = a / 2147483648 * 1048576 + a / 4096 % 256 * 4096 := or_add 20 1048576 rfl (by omega) (by omega) (by omega) (by omega) (by omega) (by omega)
    have e5b : bits .or .u32 (a / 2147483648 * 1048576 + a / 4096 % 256 * 4096) (a / 1048576 % 2 * 2048) = a / 2147483648 * 1048576 + a / 4096 % 256 * 4096 + a / 1048576 % 2 * 2048 := or_add 12 4096 rfl (by omega) (by omega) (by omega) (by omega) (by omega) (by omega)
    have e5c : bits .or .u32 (a / 2147483648 * 1048576 + a / 4096 % 256 * 4096 + a / 1048576 % 2 * 2048) (a / 2097152 % 1024 * 2) = a / 2147483648 * 1048576 + a / 4096 % 256 * 4096 + a / 1048576 % 2 * 2048 + a / 2097152 % 1024 * 2 := or_add 11 2048 rfl (by omega) (by omega) (by omega) (by omega) (by omega) (by omega)
    have s1 := sext_bd (a / 1048576) 12 (by omega) (by omega)
    have s2 := sext_bd (a / 33554432 * 32 + a / 128 % 32) 12 (by omega) (by omega)
    have s3 := sext_bd (a / 2147483648 * 4096 + a / 128 % 2 * 2048 + a / 33554432 % 64 * 32 + a / 256 % 16 * 2) 13 (by omega) (by omega)
    have s5 := sext_bd (a / 2147483648 * 1048576 + a / 4096 % 256 * 4096 + a / 1048576 % 2 * 2048 + a / 2097152 % 1024 * 2) 21 (by omega) (by omega)
    obtain rfl | rfl | rfl | rfl | rfl : form = 1 ∨ form = 2 ∨ form = 3 ∨ form = 4 ∨ form = 5 := by omega
    all_goals
      go_enter Tryz.func48, Tryz.ntmps48
      go_wp2_with (first | (go_at_call 62; refine (imm_bits _ _ _ _ h0 h1 (by omega) (by omega) (by omega) (by omega)).mono ?_; rintro e w' ⟨rfl, rfl⟩) | (go_at_call 61; refine (num_sext _ _ _ (by omega) (by omega)).mono ?_; rintro e w' ⟨rfl, rfl⟩) | (go_at_call 60; refine (num_signed _ _ (by omega) (by omega)).mono ?_; rintro e w' ⟨rfl, rfl⟩))
      go_ret
      refine ⟨ret_i32 ?_, rfl⟩
    · rw [sext12 (x := a / 1048576) (by omega) (by omega), get1]; split <;> omega
    · rw [sext12 (x := a / 33554432 * 32 + a / 128 % 32) (by omega) (by omega), get2]
      have t1 : a / 2147483648 = a / 33554432 / 64 := by omega
      have t2 : 0 ≤ a / 33554432 ∧ a / 33554432 ≤ 127 := by omega
      have t3 : 0 ≤ a / 128 % 32 ∧ a / 128 % 32 ≤ 31 := by omega
      rw [t1]
      clear s1 s2 s3 s5 e2 e3a e3b e3c e5a e5b e5c
      generalize a / 33554432 = x1 at *
      generalize a / 128 % 32 = x2 at *
      split <;> omega
    · rw [sext13 (x := a / 2147483648 * 4096 + a / 128 % 2 * 2048 + a / 33554432 % 64 * 32 + a / 256 % 16 * 2) (by omega) (by omega), get3]; split <;> omega
    · rw [get4]; unfold sg; split <;> omega
    · rw [sext21 (x := a / 2147483648 * 1048576 + a / 4096 % 256 * 4096 + a / 1048576 % 2 * 2048 + a / 2097152 % 1024 * 2) (by omega) (by omega), get5]
      have t1 : a / 2147483648 % 2 = a / 2147483648 := by omega
      have t2 : 0 ≤ a / 2147483648 ∧ a / 2147483648 ≤ 1 := by omega
      have t3 : 0 ≤ a / 4096 % 256 ∧ a / 4096 % 256 ≤ 255 := by omega
      have t4 : 0 ≤ a / 1048576 % 2 ∧ a / 1048576 % 2 ≤ 1 := by omega
      have t5 : 0 ≤ a / 2097152 % 1024 ∧ a / 2097152 % 1024 ≤ 1023 := by omega
      rw [t1]
      clear s1 s2 s3 s5 e2 e3a e3b e3c e5a e5b e5c
      generalize a / 2147483648 = x1 at *
      generalize a / 4096 % 256 = x2 at *
      generalize a / 1048576 % 2 = x3 at *
      generalize a / 2097152 % 1024 = x4 at *
      split <;> omega
  · have h1 : (form == 1) = false := by simp; omega
    have h2 : (form == 2) = false := by simp; omega
    have h3 : (form == 3) = false := by simp; omega
    have h4 : (form == 4) = false := by simp; omega
    have h5 : (form == 5) = false := by simp; omega
    have h6 : form < 1 ∨ 5 < form := by omega
    rw [get0 h6]
    clear h h6
    go_enter Tryz.func48, Tryz.ntmps48
    go_wp2
    go_ret
    exact ⟨rfl, rfl⟩

/-- a slice of integers in memory of its own -/
def IntsAt (L : List Int) (w : World) (e : Ending) (w' : World) : Prop :=
  ∃ b : Nat, e = .returned (.slice (some ⟨b, 0, none⟩) L.length L.length) ∧ (∀ k, k < L.length → w'.cell? ⟨b, k, none⟩ = some (.int .i64 (L.getD k 0))) ∧ Below w.heap.size w w'

theorem ints_alloc (L : List Int) (w : World) (t : TypeId) (k : Nat) (h : k < L.length) : (w.alloc (.cells (L.map (Value.int .i64)).toArray t)).cell? ⟨w.heap.size, k, none⟩ = some (.int .i64 (L.getD k 0)) := by
  rw [World.cell?_alloc_new]; simp [List.getD, h]

set_option maxHeartbeats 400000 in
theorem ref2_bits (form : Int) (w : World) :
    Calls Tryz.prog 36 #[.int .i64 form] w (IntsAt (bitsL form) w) := by
  have fin : ∀ w' : World, w' = w.alloc (.cells ((bitsL form).map (Value.int .i64)).toArray 3) → IntsAt (bitsL form) w (.returned (.slice (some ⟨w.heap.size, 0, none⟩) (bitsL form).length (bitsL form).length)) w' := by
    rintro w' rfl
    exact ⟨_, rfl, fun k hk => ints_alloc _ _ _ k hk, (Below.refl _ _).alloc (Nat.le_refl _) _⟩
  have F := Lib.hid fin
  clear fin
  by_cases h : 1 ≤ form ∧ form ≤ 5
  · obtain rfl | rfl | rfl | rfl | rfl : form = 1 ∨ form = 2 ∨ form = 3 ∨ form = 4 ∨ form = 5 := by omega
    all_goals
      go_enter Tryz.func36, Tryz.ntmps36
      go_wp2
      go_ret
      exact F.out _ rfl
  · have e : bitsL form = [] := by unfold bitsL; rw [if_neg (by omega), if_neg (by omega), if_neg (by omega), if_neg (by omega), if_neg (by omega)]
    rw [e] at F ⊢
    have h1 : (form == 1) = false := by simp; omega
    have h2 : (form == 2) = false := by simp; omega
    have h3 : (form == 3) = false := by simp; omega
    have h4 : (form == 4) = false := by simp; omega
    have h5 : (form == 5) = false := by simp; omega
    clear h e
    go_enter Tryz.func36, Tryz.ntmps36
    go_wp2
    go_ret
    exact F.out _ rfl

theorem bitsL_ok (form : Int) : (bitsL form).length ≤ 32 ∧ ∀ k, k < (bitsL form).length → -1 ≤ (bitsL form).getD k 0 ∧ (bitsL form).getD k 0 ≤ 31 := by
  unfold bitsL
  repeat' split
  all_goals decide

set_option maxHeartbeats 400000 in
theorem ref2_get (form a : Int) (w : World) (h0 : 0 ≤ a) (h1 : a < 4294967296) :
    Calls Tryz.prog 21 #[.int .i64 form, .int .u32 a] w fun e w' => e = .returned (.int .i32 (getS form a)) ∧ Below w.heap.size w w' := by
  obtain ⟨lm, lb⟩ := bitsL_ok form
  have LB := Lib.hid lb
  clear lb
  have G := Lib.hid (show wrap32 (hK a (bitsL form) (bitsL form).length) = getS form a from IntWalk.wrap32_in _ (get_bd form h0 h1))
  go_enter Tryz.func21, Tryz.ntmps21
  go_wp2_with fail
  refine (ref2_bits form _).mono ?_
  rintro e w1 ⟨b, rfl, hc, hb⟩
  generalize bitsL form = L at *
  have HC := Lib.hid hc
  clear hc
  go_wp2_with fail
  go_loop [6, 7] (fun n i => ∃ k : Nat, k ≤ L.length ∧ i = .int .i64 k ∧ n = .int .i64 (hK a L k)) (fun _ i => L.length - (intOf i).toNat)
  case atStart => exact ⟨0, Nat.zero_le _, rfl, rfl⟩
  case round =>
    obtain ⟨k, hk, rfl, rfl⟩ := hrel
    by_cases hlt : k < L.length
    · have hc := HC.out k hlt
      have hl := LB.out k hlt
      have hh := hK_bd a L k
      have hp := pow_bd (y := k) (by omega)
      have KS : hK a L (k + 1) = 2 * hK a L k + (if k = 0 then -pbit a (L.getD k 0) else pbit a (L.getD k 0)) := rfl
      have hpb := pbit_bd a (L.getD k 0)
      have hpt : 0 ≤ L.getD k 0 → (a / 2 ^ (L.getD k 0).toNat).tmod 2 = pbit a (L.getD k 0) := fun h => by
        rw [IntWalk.rem_in _ _ (div_le_self _ h0).1]; unfold pbit; rw [if_neg (by omega)]
      have hpn : L.getD k 0 < 0 → pbit a (L.getD k 0) = 0 := fun h => by unfold pbit; rw [if_pos h]
      generalize L.getD k 0 = p at *
      generalize pbit a p = q at *
      have fin : hK a L (k + 1) = 2 * hK a L k + (if k = 0 then -q else q) := KS
      have FIN := Lib.hid fin
      clear fin KS
      by_cases hn : 0 ≤ p
      · have hpt := hpt hn
        clear hpn
        by_cases hz : k = 0
        · subst hz
          have z0 : hK a L 0 = 0 := rfl
          go_wp2
          go_round
          case measure => simp [intOf]; omega
          case rel => refine ⟨1, by omega, rfl, ?_⟩; congr 1; rw [show 1 = 0 + 1 from rfl, FIN.out]; simp; omega
        · go_wp2
          go_round
          case measure => simp [intOf]; omega
          case rel => refine ⟨k + 1, by omega, by go_num, ?_⟩; congr 1; rw [FIN.out, if_neg hz]
      · have hpn := hpn (by omega)
        subst hpn
        clear hpt
        by_cases hz : k = 0
        · subst hz
          have z0 : hK a L 0 = 0 := rfl
          go_wp2
          go_round
          case measure => simp [intOf]; omega
          case rel => refine ⟨1, by omega, rfl, ?_⟩; congr 1; rw [show 1 = 0 + 1 from rfl, FIN.out]; simp; omega
        · go_wp2
          go_round
          case measure => simp [intOf]; omega
          case rel => refine ⟨k + 1, by omega, by go_num, ?_⟩; congr 1; rw [FIN.out, if_neg hz]; omega
    · obtain rfl : k = L.length := by omega
      go_wp2
      go_ret
      exact ⟨ret_i32 G.out, hb⟩


end Go.Proofs.YtmlhoagcppofgaaGreatDoor

namespace Go.Proofs.YtmlhoagcppofgaaGreatDoor
open Go Go.RowKit Pl
set_option linter.unusedVariables false

theorem bitsL_none {form : Int} (h : form < 1 ∨ 5 < form) : bitsL form = [] := by
  unfold bitsL; rw [if_neg (by omega), if_neg (by omega), if_neg (by omega), if_neg (by omega), if_neg (by omega)]
theorem bitsL_some {form : Int} (f0 : 1 ≤ form) (f1 : form ≤ 5) : 1 ≤ (bitsL form).length := by
  obtain rfl | rfl | rfl | rfl | rfl : form = 1 ∨ form = 2 ∨ form = 3 ∨ form = 4 ∨ form = 5 := by omega
  all_goals decide

set_option maxHeartbeats 400000 in
theorem ref2_put (form n : Int) (w : World) (h0 : -2147483648 ≤ n) (h1 : n ≤ 2147483647) :
    Calls Tryz.prog 38 #[.int .i64 form, .int .i32 n] w fun e w' => e = .returned (.tuple #[.int .u32 (putR form n), .bool (putOk form n)]) ∧ Below w.heap.size w w' := by
  by_cases h : 1 ≤ form ∧ form ≤ 5
  · obtain ⟨f0, f1⟩ := h
    obtain ⟨lm, lb⟩ := bitsL_ok form
    have lz := bitsL_some f0 f1
    have LB := Lib.hid lb
    clear lb
    obtain ⟨p0, p1⟩ := put_bd (m := n % 4294967296) f0 f1
    have SP := Lib.hid (show sK (n % 4294967296) (bitsL form) (bitsL form).length % 4294967296 = putW form (n % 4294967296) by rw [sum_put f0 f1]; omega)
    have PO : getS form (putW form (n % 4294967296)) = n → putOk form n = true ∧ putR form n = putW form (n % 4294967296) := fun g => by
      have : putOk form n = true := decide_eq_true ⟨f0, f1, g⟩
      exact ⟨this, by unfold putR; rw [this]; rfl⟩
    have PN : getS form (putW form (n % 4294967296)) ≠ n → putOk form n = false ∧ putR form n = 0 := fun g => by
      have : putOk form n = false := decide_eq_false (fun h => g h.2.2)
      exact ⟨this, by unfold putR; rw [this]; rfl⟩
    have POS := Lib.hid PO
    have PNS := Lib.hid PN
    clear PO PN
    go_enter Tryz.func38, Tryz.ntmps38
    go_wp2_with fail
    refine (ref2_bits form _).mono ?_
    rintro e w1 ⟨b, rfl, hc, hb⟩
    generalize hLe : bitsL form = L at *
    have HL := Lib.hid hLe
    clear hLe
    have HC := Lib.hid hc
    clear hc
    go_wp2_with fail
    go_loop [7, 8] (fun n1 i => ∃ k : Nat, k ≤ L.length ∧ i = .int .i64 k ∧ n1 = .int .u32 (sK (n % 4294967296) L k % 4294967296)) (fun _ i => L.length - (intOf i).toNat)
    case atStart => exact ⟨0, Nat.zero_le _, rfl, rfl⟩
    case round =>
      obtain ⟨k, hk, rfl, rfl⟩ := hrel
      by_cases hlt : k < L.length
      · have hc := HC.out k hlt
        have hl := LB.out k hlt
        have KS : sK (n % 4294967296) L (k + 1) = sK (n % 4294967296) L k + (if L.getD k 0 < 0 then 0 else n % 4294967296 / 2 ^ (L.length - 1 - k) % 2 * 2 ^ (L.getD k 0).toNat) := rfl
        have hd := (div_le_self (a := n % 4294967296) (L.length - 1 - k) (by omega)).1
        have tm := IntWalk.rem_in (n % 4294967296 / 2 ^ (L.length - 1 - k)) 2 hd
        generalize L.getD k 0 = p at *
        have hp := pow_bd (y := p.toNat) (by omega)
        have bit : n % 4294967296 / 2 ^ (L.length - 1 - k) % 2 = 0 ∨ n % 4294967296 / 2 ^ (L.length - 1 - k) % 2 = 1 := by omega
        have en : ((L.length : Int) - 1 - (k : Int)).toNat = L.length - 1 - k := by omega
        have FIN := Lib.hid KS
        clear KS
        by_cases hn : 0 ≤ p
        · rcases bit with bit | bit
          · have b1 : (n % 4294967296 / 2 ^ (L.length - 1 - k) % 2 == 1) = false := by rw [bit]; rfl
            have BIT := Lib.hid bit
            clear bit
            go_wp2
            go_round
            case measure => simp [intOf]; omega
            case rel => refine ⟨k + 1, by omega, by go_num, ?_⟩; congr 1; rw [FIN.out, if_neg (by omega), BIT.out]; omega
          · have b1 : (n % 4294967296 / 2 ^ (L.length - 1 - k) % 2 == 1) = true := by rw [bit]; rfl
            have BIT := Lib.hid bit
            clear bit
            go_wp2
            go_round
            case measure => simp [intOf]; omega
            case rel => refine ⟨k + 1, by omega, by go_num, ?_⟩; congr 1; rw [FIN.out, if_neg (by omega), BIT.out]; omega
        · go_wp2
          go_round
          case measure => simp [intOf]; omega
          case rel => refine ⟨k + 1, by omega, by go_num, ?_⟩; congr 1; rw [FIN.out, if_pos (by omega)]; omega
      · obtain rfl : k = L.length := by omega
        have hne : ¬ L = [] := by intro h; subst h; simp at lz
        by_cases g : getS form (putW form (n % 4294967296)) = n
        · have Q := Lib.hid (POS.out g)
          have G := Lib.hid g
          clear g
          go_wp2_with fail
          rw [SP.out]
          refine (ref2_get form _ _ p0 p1).mono ?_
          rw [G.out]
          rintro e w2 ⟨rfl, hb2⟩
          go_wp2_with fail
          go_ret2
          exact ⟨ret_u32b Q.out.2.symm Q.out.1.symm, hb.trans (hb2.mono hb.size)⟩
        · have Q := Lib.hid (PNS.out g)
          have g' : (getS form (putW form (n % 4294967296)) != n) = true := by simpa using g
          clear g
          go_wp2_with fail
          rw [SP.out]
          refine (ref2_get form _ _ p0 p1).mono ?_
          rintro e w2 ⟨rfl, hb2⟩
          go_wp2_with fail
          go_ret2
          exact ⟨ret_u32b Q.out.2.symm Q.out.1.symm, hb.trans (hb2.mono hb.size)⟩
  · have e1 : putOk form n = false := decide_eq_false (fun g => h ⟨g.1, g.2.1⟩)
    have e2 : putR form n = 0 := by unfold putR; rw [e1]; rfl
    rw [e1, e2]
    have hz := bitsL_none (form := form) (by omega)
    clear e1 e2 h
    go_enter Tryz.func38, Tryz.ntmps38
    go_wp2_with fail
    refine (ref2_bits form _).mono ?_
    rw [hz]
    rintro e w1 ⟨b, rfl, hc, hb⟩
    clear hc
    go_wp2_with fail
    go_loop [7, 8] (fun n1 i => n1 = .int .u32 0 ∧ i = .int .i64 0) (fun _ _ => 0)
    case atStart => exact ⟨rfl, rfl⟩
    case round =>
      obtain ⟨rfl, rfl⟩ := hrel
      go_wp2
      go_ret2
      exact ⟨rfl, hb⟩

end Go.Proofs.YtmlhoagcppofgaaGreatDoor

namespace Go.Proofs.YtmlhoagcppofgaaGreatDoor
open Go Go.RowKit Pl
set_option linter.unusedVariables false

def sortV (o : Int) : Array Value := #[.int .u32 (lowI o), .int .u32 (threeI o), .int .u32 (sevenI o), .int .i64 (formI o), .bool (rD o), .bool (rA o), .bool (rB o)]
def zeroV : Array Value := #[.int .u32 0, .int .u32 0, .int .u32 0, .int .i64 0, .bool false, .bool false, .bool false]
def OfP (o : Int) (w : World) (e : Ending) (w' : World) : Prop := e = .returned (.tuple #[.agg (sortV o), .bool true]) ∧ Below w.heap.size w w'
def OfN (w : World) (e : Ending) (w' : World) : Prop := e = .returned (.tuple #[.agg zeroV, .bool false]) ∧ Below w.heap.size w w'
theorem bt {w a b : World} (h : Below w.heap.size w a) (k : Below a.heap.size a b) : Below w.heap.size w b := h.trans (k.mono h.size)

end Go.Proofs.YtmlhoagcppofgaaGreatDoor
