/- Contracts of package num: Signed, Sext (a cut of XNum): what each call answers, for all words. -/
import Derived.Test.YtipecnofjdhobaaDoorProg
import Derived.Test.YtipecnofjdhobaaDoorPlainA
import Derived.WalkSpells
import Derived.Handy
import Derived.Lib.Hide
import Derived.Deep.QuietTactic
import Derived.BigQuiet
namespace Go.Proofs.YtipecnofjdhobaaDoor
open Go Go.RowKit Pl
set_option linter.unusedVariables false

theorem ret_u32 {a b : Int} (h : a = b) : Ending.returned (.int .u32 a) = .returned (.int .u32 b) := by rw [h]
theorem ret_i32 {a b : Int} (h : a = b) : Ending.returned (.int .i32 a) = .returned (.int .i32 b) := by rw [h]
theorem ret_i64 {a b : Int} (h : a = b) : Ending.returned (.int .i64 a) = .returned (.int .i64 b) := by rw [h]
theorem ret_u32b {a b : Int} {c d : Bool} (h : a = b) (g : c = d) : Ending.returned (.tuple #[.int .u32 a, .bool c]) = .returned (.tuple #[.int .u32 b, .bool d]) := by rw [h, g]
theorem ret_bool {a b : Bool} (h : a = b) : Ending.returned (.bool a) = .returned (.bool b) := by rw [h]

set_option maxHeartbeats 400000 in
theorem num_signed (a : Int) (w : World) (h0 : 0 ≤ a) (h1 : a < 4294967296) :
    Calls Tryd.prog 52 #[.int .u32 a] w fun e w' => e = .returned (.int .i32 (sg a)) ∧ w = w' := by
  go_enter Tryd.func52, Tryd.ntmps52
  go_wp2
  go_ret
  exact ⟨ret_i32 (wrap32_sg h0 h1), rfl⟩

/-- the lowest n bits of a, with their sign -/
def sextS (a n : Int) : Int := if n < 1 then 0 else if 31 < n then a else
  (if a % 2 ^ n.toNat < 2 ^ (n - 1).toNat then a % 2 ^ n.toNat else a % 2 ^ n.toNat - 2 ^ n.toNat) % 4294967296

theorem sext_walk {a n : Int} (h0 : 0 ≤ a) (h1 : a < 4294967296) (n0 : 1 ≤ n) (n1 : n ≤ 31) :
    wrap32 (a * 2 ^ (32 - n).toNat % 4294967296) / 2 ^ (32 - n).toNat % 4294967296 = sextS a n := by
  obtain ⟨k, rfl⟩ : ∃ k : Nat, n = k := ⟨n.toNat, by omega⟩
  unfold sextS wrap32
  rw [if_neg (by omega), if_neg (by omega)]
  have hk : k = 1 ∨ k = 2 ∨ k = 3 ∨ k = 4 ∨ k = 5 ∨ k = 6 ∨ k = 7 ∨ k = 8 ∨ k = 9 ∨ k = 10 ∨ k = 11 ∨ k = 12 ∨ k = 13 ∨ k = 14 ∨ k = 15 ∨ k = 16 ∨ k = 17 ∨ k = 18 ∨ k = 19 ∨ k = 20 ∨ k = 21 ∨ k = 22 ∨ k = 23 ∨ k = 24 ∨ k = 25 ∨ k = 26 ∨ k = 27 ∨ k = 28 ∨ k = 29 ∨ k = 30 ∨ k = 31 := by omega
  rcases hk with rfl | rfl | rfl | rfl | rfl | rfl | rfl | rfl | rfl | rfl | rfl | rfl | rfl | rfl | rfl | rfl | rfl | rfl | rfl | rfl | rfl | rfl | rfl | rfl | rfl | rfl | rfl | rfl | rfl | rfl | rfl <;> simp <;> split <;> omega

set_option maxHeartbeats 400000 in
theorem num_sext (a n : Int) (w : World) (h0 : 0 ≤ a) (h1 : a < 4294967296) :
    Calls Tryd.prog 53 #[.int .u32 a, .int .i64 n] w fun e w' => e = .returned (.int .u32 (sextS a n)) ∧ w = w' := by
  go_enter Tryd.func53, Tryd.ntmps53
  go_wp2
  all_goals go_ret
  all_goals refine ⟨ret_u32 ?_, rfl⟩
  all_goals (show _ = sextS _ _)
  · unfold sextS; rw [if_pos (by assumption)]
  · unfold sextS; rw [if_neg (by omega), if_pos (by assumption)]
  · exact sext_walk h0 h1 (by assumption) (by assumption)

theorem pow_bd {y : Nat} (h : y ≤ 32) : (1 : Int) ≤ 2 ^ y ∧ (2 : Int) ^ y ≤ 4294967296 := by
  have h1 := pow_toNat_pos y
  have h2 : (2 : Nat) ^ y ≤ 2 ^ 32 := Nat.pow_le_pow_right (by omega) h
  have h3 : ((2 ^ y : Nat) : Int) = (2 : Int) ^ y := by simp
  omega

end Go.Proofs.YtipecnofjdhobaaDoor
