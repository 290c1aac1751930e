/- Contracts of package pintleref01's functions: what each call answers, for all words. -/
import Derived.Test.YtmlhoagcppofgaaGreatDoorGB
namespace Go.Proofs.YtmlhoagcppofgaaGreatDoor
open Go Go.RowKit Pl
set_option linter.unusedVariables false

theorem ret_i64p {a b c d : Int} (h : a = b) (g : c = d) : Ending.returned (.tuple #[.int .i64 a, .int .i64 c]) = .returned (.tuple #[.int .i64 b, .int .i64 d]) := by rw [h, g]

theorem word_walk (n : Int) : (IntKind.u64.wrap n).tmod 4294967296 % 4294967296 = n % 4294967296 := by
  rw [IntKind.wrap_u64, IntWalk.rem_in _ _ (by omega)]; omega

theorem wrap64_tdiv {x y : Int} (h0 : -9223372036854775808 < x) (h1 : x ≤ 9223372036854775807) : wrap64 (x.tdiv y) = x.tdiv y := by
  have := Int.natAbs_tdiv_le_natAbs x y
  exact wrap64_in' (by omega)

theorem floor_walk {x p : Int} (hp : 1 ≤ p) : (x < 0 ∧ ¬ x.tmod p = 0 → x.tdiv p - 1 = x / p) ∧ (¬ (x < 0 ∧ ¬ x.tmod p = 0) → x.tdiv p = x / p) := by
  have e := Int.tdiv_eq_ediv (a := x) (b := p)
  have hs : p.sign = 1 := Int.sign_eq_one_of_pos (by omega)
  rw [hs] at e
  by_cases h : 0 ≤ x ∨ p ∣ x
  · rw [if_pos h] at e
    refine ⟨fun ⟨a, b⟩ => ?_, fun _ => by omega⟩
    rcases h with h | h
    · omega
    · exact absurd (Int.tmod_eq_zero_of_dvd h) b
  · rw [if_neg h] at e
    refine ⟨fun _ => by omega, fun c => ?_⟩
    exfalso
    apply c
    refine ⟨by omega, fun d => h (Or.inr (Int.dvd_of_tmod_eq_zero d))⟩

theorem sext_mid {a n : Int} (h0 : 0 ≤ a) (n0 : 1 ≤ n) (n1 : n ≤ 31) :
    (2 ^ (n.toNat - 1) ≤ a % 2 ^ n.toNat → (a % 2 ^ n.toNat - 2 ^ n.toNat) % 4294967296 = sextS a n) ∧ (a % 2 ^ n.toNat < 2 ^ (n.toNat - 1) → a % 2 ^ n.toNat % 4294967296 = sextS a n) := by
  have e : (n - 1).toNat = n.toNat - 1 := by omega
  unfold sextS
  rw [if_neg (by omega), if_neg (by omega), e]
  refine ⟨fun h => by rw [if_neg (by omega)], fun h => by rw [if_pos h]⟩

theorem bitI {a : Int} (h0 : 0 ≤ a) (m : Nat) : (a / 2 ^ m).tmod 2 = ((a.toNat / 2 ^ m % 2 : Nat) : Int) := by
  obtain ⟨n, rfl⟩ : ∃ n : Nat, a = n := ⟨a.toNat, by omega⟩
  rw [IntWalk.rem_in _ _ (Int.ediv_nonneg h0 (Int.le_of_lt (pow_toNat_pos m)))]
  have : ((2 ^ m : Nat) : Int) = (2 : Int) ^ m := by simp
  rw [← this]
  simp
theorem bits_next {r m v : Nat} (h : r / 2 ^ m % 2 = v) (hr : r < 4294967296) : ((r : Int) / 2 ^ (m + 1) * 2 % 4294967296 + (v : Int)) = ((r / 2 ^ m : Nat) : Int) := by
  have e := bstep r m
  have l := Nat.div_le_self r (2 ^ m)
  have : ((2 ^ (m + 1) : Nat) : Int) = (2 : Int) ^ (m + 1) := by simp
  rw [← this, ← Int.natCast_ediv]
  omega
theorem two_bits {A B : Nat} (hA : A < 2) (hB : B < 2) (k : Nat) (hk : k ≤ 2) : ((((A : Int) + (B : Int)) % 4294967296 == (k : Int)) = decide (A + B = k)) := by
  by_cases h : A + B = k
  · simp [h]; omega
  · simp [h]; omega

theorem bits_pick {s x y z : Nat} {b1 b2 : Bool} (t1 : b1 = decide (s = 1)) (t2 : b2 = decide (s = 2)) :
    (if s = 2 then z else if s = 1 then y else x) = if b2 then z else if b1 then y else x := by subst t1 t2; simp

theorem mul_cong {a b : Int} (h0 : 0 ≤ a) (h1 : a < 4294967296) (g0 : 0 ≤ b) (g1 : b < 4294967296) : sg a * sg b % 4294967296 = a * b % 4294967296 := by
  rw [Int.mul_emod, sg_mod h0 h1, sg_mod g0 g1]
theorem toNat32 : (32 : Int).toNat = 32 := rfl

end Go.Proofs.YtmlhoagcppofgaaGreatDoor
