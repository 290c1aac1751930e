/- Contracts of inst.Decode and what it calls. -/
import Derived.Test.YtipecnofjdhobaaDoorInstC
namespace Go.Proofs.YtipecnofjdhobaaDoor
open Go Go.RowKit Pl
set_option linter.unusedVariables false

def seqI (f : Nat) : Nat → List Int
  | 0 => []
  | n + 1 => (f : Int) :: seqI (f + 1) n
theorem find_next (t : Int) (f n : Nat) : findI t (seqI f (n + 1)) = if threeI f = t then (f : Int) else findI t (seqI (f + 1) n) := rfl
def ofThreeI (t s : Int) : Int := if s = 1 then 11 + t else if s = 0 then findI t [1, 2, 3, 4, 5, 6, 7, 8, 9, 10] else if s = 32 ∧ t = 0 then 2 else if s = 32 ∧ t = 5 then 8 else 0
def ofNumI (t s : Int) : Int := if t = 1 ∧ s = 0 then 25 else if t = 5 ∧ s = 0 then 26 else if t = 5 ∧ s = 32 then 27 else findI t [19, 20, 21, 22, 23, 24]
theorem ret_op {a b : Int} (h : a = b) : Ending.returned (.int .i64 a) = .returned (.int .i64 b) := by rw [h]
theorem and7 {b : Int} (h0 : 0 ≤ b) (h1 : b < 4294967296) : bits .and .u32 b 7 = b % 8 := by
  rw [u32_and b 7 h0 h1 (by omega) (by omega)]
  have : (7 : Int).toNat = 2 ^ 3 - 1 := rfl
  rw [this, Nat.and_two_pow_sub_one_eq_mod]
  omega
theorem and127 {b : Int} (h0 : 0 ≤ b) (h1 : b < 4294967296) : bits .and .u32 b 127 = b % 128 := by
  rw [u32_and b 127 h0 h1 (by omega) (by omega)]
  have : (127 : Int).toNat = 2 ^ 7 - 1 := rfl
  rw [this, Nat.and_two_pow_sub_one_eq_mod]
  omega

end Go.Proofs.YtipecnofjdhobaaDoor
