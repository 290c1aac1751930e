/- Contracts of package num's functions: what each call answers, for all words. -/
import Derived.Test.YtghclbeoabkgcaaProg
import Derived.Test.YtghclbeoabkgcaaPlainA
import Derived.WalkSpells
import Derived.Handy
import Derived.Lib.Hide
import Derived.Deep.QuietTactic
import Derived.BigQuiet
namespace Go.Proofs.Ytghclbeoabkgcaa
open Go Go.RowKit Pl
set_option linter.unusedVariables false

theorem ret_u32 {a b : Int} (h : a = b) : Ending.returned (.int .u32 a) = .returned (.int .u32 b) := by rw [h]
theorem ret_i32 {a b : Int} (h : a = b) : Ending.returned (.int .i32 a) = .returned (.int .i32 b) := by rw [h]
theorem ret_i64 {a b : Int} (h : a = b) : Ending.returned (.int .i64 a) = .returned (.int .i64 b) := by rw [h]
theorem ret_u32b {a b : Int} {c d : Bool} (h : a = b) (g : c = d) : Ending.returned (.tuple #[.int .u32 a, .bool c]) = .returned (.tuple #[.int .u32 b, .bool d]) := by rw [h, g]
theorem ret_bool {a b : Bool} (h : a = b) : Ending.returned (.bool a) = .returned (.bool b) := by rw [h]

set_option maxHeartbeats 400000 in
theorem num_signed (a : Int) (w : World) (h0 : 0 ≤ a) (h1 : a < 4294967296) :
    Calls Try.prog 66 #[.int .u32 a] w fun e w' => e = .returned (.int .i32 (sg a)) ∧ w = w' := by
  go_enter Try.func66, Try.ntmps66
  go_wp2
  go_ret
  exact ⟨ret_i32 (wrap32_sg h0 h1), rfl⟩

set_option maxHeartbeats 400000 in
theorem num_simple (op a b : Int) (w : World) (h0 : 0 ≤ a) (h1 : a < 4294967296)  (g0 : 0 ≤ b) (g1 : b < 4294967296) (p0 : 1 ≤ op) (p1 : op ≤ 10) :
    Calls Try.prog 91 #[.int .i64 op, .int .u32 a, .int .u32 b] w fun e w' => e = .returned (.int .u32 (aluS op a b)) ∧ w = w' := by
  have e31 := and31 g0 g1
  have eq := wrap32_sg h0 h1
  have ew := wrap32_sg g0 g1
  have q0 : 0 ≤ b % 32 := by omega
  have q1 : b % 32 < 32 := by omega
  obtain rfl | rfl | rfl | rfl | rfl | rfl | rfl | rfl | rfl | rfl : op = 1 ∨ op = 2 ∨ op = 3 ∨ op = 4 ∨ op = 5 ∨ op = 6 ∨ op = 7 ∨ op = 8 ∨ op = 9 ∨ op = 10 := by omega
  all_goals
    go_enter Try.func91, Try.ntmps91
    go_wp2
    all_goals go_ret
    all_goals refine ⟨ret_u32 ?_, rfl⟩
    all_goals (show _ = aluS _ a b)
    all_goals first | rfl | (simp [aluS, *]; done) | (simp [aluS]; omega) | exact u32_xor a b h0 h1 g0 g1 | exact u32_or a b h0 h1 g0 g1 | exact u32_and a b h0 h1 g0 g1

set_option maxHeartbeats 400000 in
theorem num_multiply (op a b : Int) (w : World) (h0 : 0 ≤ a) (h1 : a < 4294967296)  (g0 : 0 ≤ b) (g1 : b < 4294967296) (p0 : 11 ≤ op) (p1 : op ≤ 14) :
    Calls Try.prog 90 #[.int .i64 op, .int .u32 a, .int .u32 b] w fun e w' => e = .returned (.int .u32 (aluS op a b)) ∧ w = w' := by
  have hss := mul_ss h0 h1 g0 g1
  have hsu := mul_su h0 h1 g0 g1
  have huu := mul_uu h0 h1 g0 g1
  have ba := sg_bd h0 h1
  have bb := sg_bd g0 g1
  have eq := wrap32_sg h0 h1
  have ew := wrap32_sg g0 g1
  obtain rfl | rfl | rfl | rfl : op = 11 ∨ op = 12 ∨ op = 13 ∨ op = 14 := by omega
  all_goals
    go_enter Try.func90, Try.ntmps90
    go_wp2
    all_goals go_ret
    all_goals refine ⟨ret_u32 ?_, rfl⟩
    all_goals (show _ = aluS _ a b)
  · rfl
  · rw [IntKind.wrap_u64, show aluS 12 a b = sg a * sg b / 4294967296 % 4294967296 from rfl]; omega
  · rw [IntKind.wrap_u64, show aluS 13 a b = sg a * b / 4294967296 % 4294967296 from rfl]; omega
  · rfl

theorem tdiv_bd {x y : Int} (h : -2147483648 ≤ x ∧ x ≤ 2147483647) : -2147483648 ≤ x.tdiv y ∧ x.tdiv y ≤ 2147483648 := by
  have := Int.natAbs_tdiv_le_natAbs x y
  omega
/-- the rest out of the quotient -/
theorem rest_of {a b : Int} (h0 : 0 ≤ a) (h1 : a < 4294967296) (g0 : 0 ≤ b) (g1 : b < 4294967296) :
    (a - (sg a).tdiv (sg b) % 4294967296 * b % 4294967296) % 4294967296 = (sg a).tmod (sg b) % 4294967296 := by
  have e : (sg a).tmod (sg b) = sg a - sg b * (sg a).tdiv (sg b) := by have := Int.mul_tdiv_add_tmod (sg a) (sg b); omega
  rw [e]
  generalize (sg a).tdiv (sg b) = q
  have ea := sg_mod h0 h1
  have eb := sg_mod g0 g1
  have e1 : q % 4294967296 * b % 4294967296 = sg b * q % 4294967296 := by
    conv => lhs; rw [← eb]
    rw [← Int.mul_emod, Int.mul_comm]
  rw [e1]
  conv => lhs; rw [← ea]
  rw [← Int.sub_emod]

set_option maxHeartbeats 400000 in
theorem num_divide (op a b : Int) (w : World) (h0 : 0 ≤ a) (h1 : a < 4294967296)  (g0 : 0 ≤ b) (g1 : b < 4294967296) (p0 : 15 ≤ op) (p1 : op ≤ 18) :
    Calls Try.prog 89 #[.int .i64 op, .int .u32 a, .int .u32 b] w fun e w' => e = .returned (.int .u32 (aluS op a b)) ∧ w = w' := by
  have ba := sg_bd h0 h1
  have bb := sg_bd g0 g1
  have eq := wrap32_sg h0 h1
  have ew := wrap32_sg g0 g1
  by_cases hb : b = 0
  · subst hb
    obtain rfl | rfl | rfl | rfl : op = 15 ∨ op = 16 ∨ op = 17 ∨ op = 18 := by omega
    all_goals
      go_enter Try.func89, Try.ntmps89
      go_wp2
      go_ret
      refine ⟨ret_u32 ?_, rfl⟩
      (show _ = aluS _ a 0)
      first | rfl | (simp [aluS]; omega)
  · have hs : sg b ≠ 0 := fun h => hb ((sg_zero g0 g1).1 h)
    have hb1 : 1 ≤ b := by omega
    have bq := tdiv_bd (y := sg b) ba
    obtain rfl | rfl | rfl | rfl : op = 15 ∨ op = 16 ∨ op = 17 ∨ op = 18 := by omega
    all_goals
      go_enter Try.func89, Try.ntmps89
      go_wp2
      go_ret
      refine ⟨ret_u32 ?_, rfl⟩
      (show _ = aluS _ a b)
    · simp [aluS, hb]
    · simp [aluS, hb]
    · simp only [aluS, hb, if_false]
      have := rest_of h0 h1 g0 g1
      simpa using this
    · simp [aluS, hb]

set_option maxHeartbeats 400000 in
theorem num_alu (op a b : Int) (w : World) (h0 : 0 ≤ a) (h1 : a < 4294967296)  (g0 : 0 ≤ b) (g1 : b < 4294967296) (p0 : 1 ≤ op) (p1 : op ≤ 18) :
    Calls Try.prog 74 #[.int .i64 op, .int .u32 a, .int .u32 b] w fun e w' => e = .returned (.tuple #[.int .u32 (aluS op a b), .bool true]) ∧ w = w' := by
  by_cases c1 : op ≤ 10
  · go_enter Try.func74, Try.ntmps74
    go_wp2_with (go_at_call 91; refine (num_simple _ _ _ _ h0 h1 g0 g1 p0 c1).mono ?_; rintro e w' ⟨rfl, rfl⟩)
    go_ret2
    exact ⟨rfl, rfl⟩
  · by_cases c2 : op ≤ 14
    · go_enter Try.func74, Try.ntmps74
      go_wp2_with (go_at_call 90; refine (num_multiply _ _ _ _ h0 h1 g0 g1 (by omega) c2).mono ?_; rintro e w' ⟨rfl, rfl⟩)
      go_ret2
      exact ⟨rfl, rfl⟩
    · go_enter Try.func74, Try.ntmps74
      go_wp2_with (go_at_call 89; refine (num_divide _ _ _ _ h0 h1 g0 g1 (by omega) p1).mono ?_; rintro e w' ⟨rfl, rfl⟩)
      go_ret2
      exact ⟨rfl, rfl⟩

set_option maxHeartbeats 400000 in
theorem num_alu_none (op a b : Int) (w : World) (p : op < 1 ∨ 18 < op) :
    Calls Try.prog 74 #[.int .i64 op, .int .u32 a, .int .u32 b] w fun e w' => e = .returned (.tuple #[.int .u32 0, .bool false]) ∧ w = w' := by
  obtain c | c := p
  · go_enter Try.func74, Try.ntmps74
    go_wp2
    go_ret2
    exact ⟨rfl, rfl⟩
  · go_enter Try.func74, Try.ntmps74
    go_wp2
    go_ret2
    exact ⟨rfl, rfl⟩

/-- the lowest n bits of a, with their sign -/
def sextS (a n : Int) : Int := if n < 1 then 0 else if 31 < n then a else
  (if a % 2 ^ n.toNat < 2 ^ (n - 1).toNat then a % 2 ^ n.toNat else a % 2 ^ n.toNat - 2 ^ n.toNat) % 4294967296

theorem sext_walk {a n : Int} (h0 : 0 ≤ a) (h1 : a < 4294967296) (n0 : 1 ≤ n) (n1 : n ≤ 31) :
    wrap32 (a * 2 ^ (32 - n).toNat % 4294967296) / 2 ^ (32 - n).toNat % 4294967296 = sextS a n := by
  obtain ⟨k, rfl⟩ : ∃ k : Nat, n = k := ⟨n.toNat, by omega⟩
  unfold sextS wrap32
  rw [if_neg (by omega), if_neg (by omega)]
  have hk : k = 1 ∨ k = 2 ∨ k = 3 ∨ k = 4 ∨ k = 5 ∨ k = 6 ∨ k = 7 ∨ k = 8 ∨ k = 9 ∨ k = 10 ∨ k = 11 ∨ k = 12 ∨ k = 13 ∨ k = 14 ∨ k = 15 ∨ k = 16 ∨ k = 17 ∨ k = 18 ∨ k = 19 ∨ k = 20 ∨ k = 21 ∨ k = 22 ∨ k = 23 ∨ k = 24 ∨ k = 25 ∨ k = 26 ∨ k = 27 ∨ k = 28 ∨ k = 29 ∨ k = 30 ∨ k = 31 := by omega
  rcases hk with rfl | rfl | rfl | rfl | rfl | rfl | rfl | rfl | rfl | rfl | rfl | rfl | rfl | rfl | rfl | rfl | rfl | rfl | rfl | rfl | rfl | rfl | rfl | rfl | rfl | rfl | rfl | rfl | rfl | rfl | rfl <;> simp <;> split <;> omega

set_option maxHeartbeats 400000 in
theorem num_sext (a n : Int) (w : World) (h0 : 0 ≤ a) (h1 : a < 4294967296) :
    Calls Try.prog 87 #[.int .u32 a, .int .i64 n] w fun e w' => e = .returned (.int .u32 (sextS a n)) ∧ w = w' := by
  go_enter Try.func87, Try.ntmps87
  go_wp2
  all_goals go_ret
  all_goals refine ⟨ret_u32 ?_, rfl⟩
  all_goals (show _ = sextS _ _)
  · unfold sextS; rw [if_pos (by assumption)]
  · unfold sextS; rw [if_neg (by omega), if_pos (by assumption)]
  · exact sext_walk h0 h1 (by assumption) (by assumption)

end Go.Proofs.Ytghclbeoabkgcaa
