/- Plain facts on sums of bytes (CRC-32), bit by bit and four bits at once. -/
import Derived.WalkKit
import Derived.WalkLawsBesides
namespace Go.Proofs.Ytnhopdimhppnmaa.Pl
open Go Go.RowKit

/-- one bit goes out below -/
def st (x : Nat) : Nat := if x % 2 = 1 then (x / 2) ^^^ 3988292384 else x / 2
def st4 (x : Nat) : Nat := st (st (st (st x)))
/-- a byte more -/
def byteS (w x : Nat) : Nat := st4 (st4 (w ^^^ x))
/-- the sum of bytes behind a sum -/
def crcS (sum : Nat) (l : List Nat) : Nat := 4294967295 - l.foldl byteS (4294967295 - sum)

theorem xor_mod2 (x y : Nat) : (x ^^^ y) % 2 = (x % 2 + y % 2) % 2 := by
  have h := Nat.testBit_xor x y 0
  simp only [Nat.testBit_zero] at h
  have h1 : (x ^^^ y) % 2 = 0 ∨ (x ^^^ y) % 2 = 1 := by omega
  have h2 : x % 2 = 0 ∨ x % 2 = 1 := by omega
  have h3 : y % 2 = 0 ∨ y % 2 = 1 := by omega
  rcases h2 with h2 | h2 <;> rcases h3 with h3 | h3 <;> rcases h1 with h1 | h1 <;> simp [h1, h2, h3] at h ⊢
theorem xor_div2 (x y : Nat) : (x ^^^ y) / 2 = (x / 2) ^^^ (y / 2) := by
  have := Nat.xor_div_two_pow (a := x) (b := y) (n := 1)
  simpa using this
theorem st_xor (x y : Nat) : st (x ^^^ y) = st x ^^^ st y := by
  unfold st
  rw [xor_mod2, xor_div2]
  have h2 : x % 2 = 0 ∨ x % 2 = 1 := by omega
  have h3 : y % 2 = 0 ∨ y % 2 = 1 := by omega
  rcases h2 with h2 | h2 <;> rcases h3 with h3 | h3 <;> simp [h2, h3]
  · rw [← Nat.xor_assoc]
  · rw [Nat.xor_assoc, Nat.xor_comm (y / 2), ← Nat.xor_assoc]
  · rw [Nat.xor_assoc, Nat.xor_comm 3988292384, Nat.xor_assoc, Nat.xor_self, Nat.xor_zero]
theorem st_even (x : Nat) : st (2 * x) = x := by
  unfold st; rw [if_neg (by omega)]; omega
theorem st4_hi (x : Nat) : st4 (x * 16) = x := by
  unfold st4
  rw [show x * 16 = 2 * (2 * (2 * (2 * x))) by omega, st_even, st_even, st_even, st_even]
theorem st4_xor (x y : Nat) : st4 (x ^^^ y) = st4 x ^^^ st4 y := by
  unfold st4; rw [st_xor, st_xor, st_xor, st_xor]
theorem split16 (x : Nat) : (x / 16 * 16) ^^^ (x % 16) = x := by
  apply Nat.eq_of_testBit_eq
  intro i
  rw [Nat.testBit_xor, show (16 : Nat) = 2 ^ 4 from rfl, Nat.testBit_mul_two_pow, Nat.testBit_mod_two_pow, Nat.testBit_div_two_pow]
  by_cases h : 4 ≤ i
  · simp [h, show i - 4 + 4 = i by omega, show ¬ i < 4 by omega]
  · simp [h, show i < 4 by omega]
/-- four bits at once -/
theorem st4_four (x : Nat) : st4 x = (x / 16) ^^^ st4 (x % 16) := by
  conv => lhs; rw [← split16 x]
  rw [st4_xor, st4_hi]
theorem xor_lt {a b : Nat} (h : a < 4294967296) (g : b < 4294967296) : a ^^^ b < 4294967296 := Nat.xor_lt_two_pow (n := 32) h g
theorem st_lt {x : Nat} (h : x < 4294967296) : st x < 4294967296 := by
  unfold st; split
  · exact xor_lt (by omega) (by omega)
  · omega
theorem st4_lt {x : Nat} (h : x < 4294967296) : st4 x < 4294967296 := st_lt (st_lt (st_lt (st_lt h)))
theorem byteS_lt {w x : Nat} (h : w < 4294967296) (g : x < 256) : byteS w x < 4294967296 := st4_lt (st4_lt (xor_lt h (by omega)))
theorem fold_lt : ∀ (l : List Nat) (w : Nat), w < 4294967296 → (∀ x ∈ l, x < 256) → l.foldl byteS w < 4294967296
  | [], w, h, _ => h
  | x :: l, w, h, g => fold_lt l _ (byteS_lt h (g x (by simp))) (fun y hy => g y (by simp [hy]))
theorem crcS_lt {s : Nat} {l : List Nat} : crcS s l < 4294967296 := by unfold crcS; omega
theorem crc_parts {s : Nat} (hs : s < 4294967296) (a b : List Nat) (ha : ∀ x ∈ a, x < 256) : crcS (crcS s a) b = crcS s (a ++ b) := by
  have h := fold_lt a (4294967295 - s) (by omega) ha
  unfold crcS
  rw [List.foldl_append]
  congr 2
  omega
theorem crc_lives : crcS 0 [49, 50, 51, 52, 53, 54, 55, 56, 57] = 3421780262 := by decide +kernel
end Go.Proofs.Ytnhopdimhppnmaa.Pl
