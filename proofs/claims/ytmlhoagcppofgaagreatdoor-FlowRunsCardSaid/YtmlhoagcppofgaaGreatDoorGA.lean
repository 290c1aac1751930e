/- Plain facts on words of 32 bits, with no program in sight. -/
import Derived.WalkKit
import Derived.WalkLawsBesides
import Derived.Below
import Derived.OwnWalk
import Derived.Lib.Hide
import Derived.Handy
namespace Go.Proofs.YtmlhoagcppofgaaGreatDoor.Pl
open Go Go.RowKit

/-- a word as a number of two's complement -/
def sg (a : Int) : Int := if a < 2147483648 then a else a - 4294967296

theorem sg_bd {a : Int} (h0 : 0 ≤ a) (h1 : a < 4294967296) : -2147483648 ≤ sg a ∧ sg a ≤ 2147483647 := by
  unfold sg; split <;> omega
theorem wrap32_sg {a : Int} (h0 : 0 ≤ a) (h1 : a < 4294967296) : wrap32 a = sg a := by
  unfold wrap32 sg; split <;> omega
theorem sg_mod {a : Int} (h0 : 0 ≤ a) (h1 : a < 4294967296) : sg a % 4294967296 = a := by
  unfold sg; split <;> omega
theorem sg_zero {a : Int} (_ : 0 ≤ a) (_ : a < 4294967296) : sg a = 0 ↔ a = 0 := by
  unfold sg; split <;> omega
theorem sg_div {a : Int} (_ : 0 ≤ a) (_ : a < 4294967296) : (sg a - a) % 4294967296 = 0 := by
  unfold sg; split <;> omega
theorem wrap64_in' {n : Int} (h : -9223372036854775808 ≤ n ∧ n ≤ 9223372036854775807) : wrap64 n = n := IntWalk.wrap64_in n h

theorem and31 {b : Int} (h0 : 0 ≤ b) (h1 : b < 4294967296) : bits .and .u32 b 31 = b % 32 := by
  rw [u32_and b 31 h0 h1 (by omega) (by omega)]
  have : (31 : Int).toNat = 31 := rfl
  rw [this, nat_mask5]
  omega

theorem mul_bd {x y : Int} {A B : Nat} (hx : x.natAbs ≤ A) (hy : y.natAbs ≤ B) : (x * y).natAbs ≤ A * B := by
  rw [Int.natAbs_mul]; exact Nat.mul_le_mul hx hy

theorem mul_ss {a b : Int} (h0 : 0 ≤ a) (h1 : a < 4294967296) (g0 : 0 ≤ b) (g1 : b < 4294967296) :
    -4611686018427387904 ≤ sg a * sg b ∧ sg a * sg b ≤ 4611686018427387904 := by
  have ha := sg_bd h0 h1
  have hb := sg_bd g0 g1
  have := mul_bd (x := sg a) (y := sg b) (A := 2147483648) (B := 2147483648) (by omega) (by omega)
  omega
theorem mul_su {a b : Int} (h0 : 0 ≤ a) (h1 : a < 4294967296) (g0 : 0 ≤ b) (g1 : b < 4294967296) :
    -9223372034707292160 ≤ sg a * b ∧ sg a * b ≤ 9223372034707292160 := by
  have ha := sg_bd h0 h1
  have := mul_bd (x := sg a) (y := b) (A := 2147483648) (B := 4294967295) (by omega) (by omega)
  omega
theorem mul_uu {a b : Int} (h0 : 0 ≤ a) (h1 : a < 4294967296) (g0 : 0 ≤ b) (g1 : b < 4294967296) :
    0 ≤ a * b ∧ a * b < 18446744073709551615 := by
  have := mul_bd (x := a) (y := b) (A := 4294967295) (B := 4294967295) (by omega) (by omega)
  have := Int.mul_nonneg h0 g0
  omega

/-- what an operation of two registers answers -/
def aluS (op a b : Int) : Int :=
  if op = 1 then (a + b) % 4294967296 else
  if op = 2 then (a - b) % 4294967296 else
  if op = 3 then a * 2 ^ (b % 32).toNat % 4294967296 else
  if op = 4 then (if sg a < sg b then 1 else 0) else
  if op = 5 then (if a < b then 1 else 0) else
  if op = 6 then ((a.toNat ^^^ b.toNat : Nat) : Int) else
  if op = 7 then a / 2 ^ (b % 32).toNat else
  if op = 8 then sg a / 2 ^ (b % 32).toNat % 4294967296 else
  if op = 9 then ((a.toNat ||| b.toNat : Nat) : Int) else
  if op = 10 then ((a.toNat &&& b.toNat : Nat) : Int) else
  if op = 11 then a * b % 4294967296 else
  if op = 12 then sg a * sg b / 4294967296 % 4294967296 else
  if op = 13 then sg a * b / 4294967296 % 4294967296 else
  if op = 14 then a * b / 4294967296 else
  if op = 15 then (if b = 0 then 4294967295 else (sg a).tdiv (sg b) % 4294967296) else
  if op = 16 then (if b = 0 then 4294967295 else a / b) else
  if op = 17 then (if b = 0 then a else (sg a).tmod (sg b) % 4294967296) else
  (if b = 0 then a else a % b)

theorem pow_toNat_pos (n : Nat) : (0 : Int) < 2 ^ n := Int.pow_pos (by omega)

theorem div_le_self {a : Int} (n : Nat) (h0 : 0 ≤ a) : 0 ≤ a / 2 ^ n ∧ a / 2 ^ n ≤ a :=
  ⟨Int.ediv_nonneg h0 (Int.le_of_lt (pow_toNat_pos n)), Int.ediv_le_self _ h0⟩

theorem mod_pos_bd (x : Int) : 0 ≤ x % 4294967296 ∧ x % 4294967296 < 4294967296 := by omega

theorem nat_lt_xor {a b : Int} (h0 : 0 ≤ a) (h1 : a < 4294967296) (g0 : 0 ≤ b) (g1 : b < 4294967296) : a.toNat ^^^ b.toNat < 4294967296 :=
  Nat.xor_lt_two_pow (n := 32) (by omega) (by omega)
theorem nat_lt_or {a b : Int} (h0 : 0 ≤ a) (h1 : a < 4294967296) (g0 : 0 ≤ b) (g1 : b < 4294967296) : a.toNat ||| b.toNat < 4294967296 :=
  Nat.or_lt_two_pow (n := 32) (by omega) (by omega)
theorem nat_lt_and {a b : Int} (h0 : 0 ≤ a) (h1 : a < 4294967296) (_ : 0 ≤ b) (_ : b < 4294967296) : a.toNat &&& b.toNat < 4294967296 :=
  Nat.lt_of_le_of_lt Nat.and_le_left (by omega)

theorem ite_bd {c : Prop} [Decidable c] {x y : Int} (hx : c → 0 ≤ x ∧ x < 4294967296) (hy : ¬ c → 0 ≤ y ∧ y < 4294967296) : 0 ≤ (if c then x else y) ∧ (if c then x else y) < 4294967296 := by
  by_cases h : c
  · rw [if_pos h]; exact hx h
  · rw [if_neg h]; exact hy h

theorem aluS_bd {op a b : Int} (h0 : 0 ≤ a) (h1 : a < 4294967296) (g0 : 0 ≤ b) (g1 : b < 4294967296) : 0 ≤ aluS op a b ∧ aluS op a b < 4294967296 := by
  have hd := div_le_self (b % 32).toNat h0
  have hx := nat_lt_xor h0 h1 g0 g1
  have ho := nat_lt_or h0 h1 g0 g1
  have hn := nat_lt_and h0 h1 g0 g1
  have hm := mul_uu h0 h1 g0 g1
  have hm2 := mul_bd (x := a) (y := b) (A := 4294967295) (B := 4294967295) (by omega) (by omega)
  unfold aluS
  repeat' (apply ite_bd <;> intro hb)
  all_goals first
    | omega
    | exact mod_pos_bd _
    | (refine ⟨Int.ediv_nonneg h0 g0, ?_⟩; exact Int.lt_of_le_of_lt (Int.ediv_le_self _ h0) h1)
    | exact ⟨Int.emod_nonneg _ hb, Int.lt_trans (Int.emod_lt_of_pos _ (by omega)) g1⟩

/-! ### bit by bit -/
theorem bitq (n k : Nat) : n / 2^k % 2 = (n.testBit k).toNat := by
  rw [Nat.toNat_testBit]
theorem bstep (n k : Nat) : n / 2^k = n / 2^(k+1) * 2 + n / 2^k % 2 := by
  rw [Nat.pow_succ, ← Nat.div_div_eq_div_mul]; omega
theorem bit_xor (a b k : Nat) : (a ^^^ b) / 2^k % 2 = if a / 2^k % 2 + b / 2^k % 2 = 1 then 1 else 0 := by
  simp only [bitq, Nat.testBit_xor]
  cases a.testBit k <;> cases b.testBit k <;> rfl
theorem bit_or (a b k : Nat) : (a ||| b) / 2^k % 2 = if a / 2^k % 2 + b / 2^k % 2 = 0 then 0 else 1 := by
  simp only [bitq, Nat.testBit_or]
  cases a.testBit k <;> cases b.testBit k <;> rfl
theorem bit_and (a b k : Nat) : (a &&& b) / 2^k % 2 = if a / 2^k % 2 + b / 2^k % 2 = 2 then 1 else 0 := by
  simp only [bitq, Nat.testBit_and]
  cases a.testBit k <;> cases b.testBit k <;> rfl

end Go.Proofs.YtmlhoagcppofgaaGreatDoor.Pl

namespace Go.Proofs.YtmlhoagcppofgaaGreatDoor.Pl
open Go Go.RowKit

/-- which bits of a word a form's number has, from its highest one on -/
def bitsL (form : Int) : List Int :=
  if form = 1 then [31, 30, 29, 28, 27, 26, 25, 24, 23, 22, 21, 20]
  else if form = 2 then [31, 30, 29, 28, 27, 26, 25, 11, 10, 9, 8, 7]
  else if form = 3 then [31, 7, 30, 29, 28, 27, 26, 25, 11, 10, 9, 8, -1]
  else if form = 4 then [31, 30, 29, 28, 27, 26, 25, 24, 23, 22, 21, 20, 19, 18, 17, 16, 15, 14, 13, 12, -1, -1, -1, -1, -1, -1, -1, -1, -1, -1, -1, -1]
  else if form = 5 then [31, 19, 18, 17, 16, 15, 14, 13, 12, 20, 30, 29, 28, 27, 26, 25, 24, 23, 22, 21, -1]
  else []

/-- a place's bit -/
def pbit (w p : Int) : Int := if p < 0 then 0 else w / 2 ^ p.toNat % 2
theorem pbit_bd (w p : Int) : 0 ≤ pbit w p ∧ pbit w p ≤ 1 := by unfold pbit; split <;> omega

/-- the number behind k places -/
def hK (w : Int) (L : List Int) : Nat → Int
  | 0 => 0
  | k + 1 => 2 * hK w L k + (if k = 0 then -pbit w (L.getD k 0) else pbit w (L.getD k 0))

theorem hK_bd (w : Int) (L : List Int) : ∀ k : Nat, -(2 : Int) ^ k ≤ hK w L k ∧ hK w L k < 2 ^ k
  | 0 => by simp [hK]
  | k + 1 => by
    have ih := hK_bd w L k
    have hb := pbit_bd w (L.getD k 0)
    rw [hK, Int.pow_succ]
    generalize pbit w (L.getD k 0) = b at *
    split
    · subst k
      have : hK w L 0 = 0 := rfl
      have : (2 : Int) ^ 0 = 1 := rfl
      omega
    · omega

/-- places that go down one by one -/
theorem hK_run (w : Int) (L : List Int) (k lo : Nat) (hk : 1 ≤ k) : ∀ m : Nat, (∀ j, j < m → L.getD (k + j) 0 = ((lo + (m - 1 - j) : Nat) : Int)) →
    hK w L (k + m) = hK w L k * 2 ^ m + w / 2 ^ lo % 2 ^ m := by
  intro m
  induction m generalizing lo with
  | zero => intro _; simp
  | succ m ih =>
    intro h
    have h1 := ih (lo + 1) (fun j hj => by rw [h j (by omega)]; congr 1; omega)
    have h2 : L.getD (k + m) 0 = (lo : Int) := by rw [h m (by omega)]; congr 1; omega
    rw [show k + (m + 1) = (k + m) + 1 from rfl, hK, h1, if_neg (by omega), h2]
    have e : pbit w (lo : Int) = w / 2 ^ lo % 2 := by unfold pbit; rw [if_neg (by omega)]; simp
    rw [e]
    have p1 : w / 2 ^ (lo + 1) = w / 2 ^ lo / 2 := by rw [Int.pow_succ, Int.ediv_ediv_of_nonneg (Int.le_of_lt (pow_toNat_pos lo))]
    rw [p1]
    generalize w / 2 ^ lo = x
    have p2 : x % 2 ^ (m + 1) = 2 * (x / 2 % 2 ^ m) + x % 2 := by
      have hp := pow_toNat_pos m
      have := Int.emod_emod_of_dvd x (Int.dvd_mul_left 2 (2 ^ m))
      rw [Int.pow_succ]
      have a1 := Int.emod_add_mul_ediv x (2 ^ m * 2)
      have a2 : x / (2 ^ m * 2) = x / 2 / 2 ^ m := by rw [Int.mul_comm, Int.ediv_ediv_of_nonneg (by omega)]
      have a3 := Int.emod_add_mul_ediv (x / 2) (2 ^ m)
      rw [a2] at a1
      generalize x / 2 / 2 ^ m = q at *
      generalize (2 : Int) ^ m = P at *
      have a4 : P * 2 * q = 2 * (P * q) := by rw [Int.mul_comm P 2, Int.mul_assoc]
      omega
    rw [p2, Int.pow_succ, ← Int.mul_assoc (hK w L k)]
    generalize hK w L k * 2 ^ m = y
    omega

theorem hK_nil (w : Int) (L : List Int) (k : Nat) (hk : 1 ≤ k) : ∀ m : Nat, (∀ j, j < m → L.getD (k + j) 0 = -1) → hK w L (k + m) = hK w L k * 2 ^ m := by
  intro m
  induction m with
  | zero => intro _; simp
  | succ m ih =>
    intro h
    rw [show k + (m + 1) = (k + m) + 1 from rfl, hK, ih (fun j hj => h j (by omega)), if_neg (by omega), h m (by omega)]
    rw [Int.pow_succ, ← Int.mul_assoc (hK w L k)]
    generalize hK w L k * 2 ^ m = y
    simp [pbit]; omega
theorem hK_one (w : Int) (L : List Int) (h : L.getD 0 0 = 31) : hK w L 1 = -(w / 2147483648 % 2) := by
  rw [hK, hK, h]; simp [pbit]

/-- a word's number in a form -/
def getS (form w : Int) : Int := hK w (bitsL form) (bitsL form).length

theorem get1 (w : Int) : getS 1 w = -(w / 2147483648 % 2) * 2048 + w / 1048576 % 2048 := by
  have := hK_run w (bitsL 1) 1 20 (by omega) 11 (by decide)
  rw [hK_one w (bitsL 1) rfl] at this
  exact this
theorem get2 (w : Int) : getS 2 w = (-(w / 2147483648 % 2) * 64 + w / 33554432 % 64) * 32 + w / 128 % 32 := by
  have h1 := hK_run w (bitsL 2) 1 25 (by omega) 6 (by decide)
  have h2 := hK_run w (bitsL 2) 7 7 (by omega) 5 (by decide)
  rw [hK_one w (bitsL 2) rfl] at h1
  rw [h1] at h2
  exact h2
theorem get3 (w : Int) : getS 3 w = (((-(w / 2147483648 % 2) * 2 + w / 128 % 2) * 64 + w / 33554432 % 64) * 16 + w / 256 % 16) * 2 := by
  have h1 := hK_run w (bitsL 3) 1 7 (by omega) 1 (by decide)
  have h2 := hK_run w (bitsL 3) 2 25 (by omega) 6 (by decide)
  have h3 := hK_run w (bitsL 3) 8 8 (by omega) 4 (by decide)
  have h4 := hK_nil w (bitsL 3) 12 (by omega) 1 (by decide)
  rw [hK_one w (bitsL 3) rfl] at h1
  rw [h1] at h2
  rw [h2] at h3
  rw [h3] at h4
  exact h4
theorem get4 (w : Int) : getS 4 w = (-(w / 2147483648 % 2) * 524288 + w / 4096 % 524288) * 4096 := by
  have h1 := hK_run w (bitsL 4) 1 12 (by omega) 19 (by decide)
  have h4 := hK_nil w (bitsL 4) 20 (by omega) 12 (by decide)
  rw [hK_one w (bitsL 4) rfl] at h1
  rw [h1] at h4
  exact h4
theorem get5 (w : Int) : getS 5 w = (((-(w / 2147483648 % 2) * 256 + w / 4096 % 256) * 2 + w / 1048576 % 2) * 1024 + w / 2097152 % 1024) * 2 := by
  have h1 := hK_run w (bitsL 5) 1 12 (by omega) 8 (by decide)
  have h2 := hK_run w (bitsL 5) 9 20 (by omega) 1 (by decide)
  have h3 := hK_run w (bitsL 5) 10 21 (by omega) 10 (by decide)
  have h4 := hK_nil w (bitsL 5) 20 (by omega) 1 (by decide)
  rw [hK_one w (bitsL 5) rfl] at h1
  rw [h1] at h2
  rw [h2] at h3
  rw [h3] at h4
  exact h4
theorem get0 {form : Int} (h : form < 1 ∨ 5 < form) (w : Int) : getS form w = 0 := by
  have : bitsL form = [] := by unfold bitsL; rw [if_neg (by omega), if_neg (by omega), if_neg (by omega), if_neg (by omega), if_neg (by omega)]
  simp [getS, this, hK]

theorem or_add (k P : Nat) (hP : P = 2 ^ k) {x y : Int} (h0 : 0 ≤ x) (h1 : x < 4294967296) (g0 : 0 ≤ y) (g1 : y < 4294967296) (hy : y < P) (hx : x % P = 0) :
    bits .or .u32 x y = x + y := by
  have e : ((x.toNat : Nat) : Int) = x := by omega
  have hx' : x.toNat % 2 ^ k = 0 := by
    have : ((x.toNat % P : Nat) : Int) = x % P := by rw [Int.natCast_emod, e]
    rw [← hP]; omega
  rw [u32_or x y h0 h1 g0 g1, nat_join k x.toNat y.toNat hx' (by rw [← hP]; omega)]
  omega
theorem and_mask (m : Nat) (hm : m ≤ 31) {x : Int} (h0 : 0 ≤ x) (h1 : x < 4294967296) : bits .and .u32 x ((2 ^ m - 1) % 4294967296) = x % 2 ^ m := by
  have p0 := pow_toNat_pos m
  have p1 : (2 : Nat) ^ m ≤ 2 ^ 31 := Nat.pow_le_pow_right (by omega) hm
  have p2 : ((2 ^ m : Nat) : Int) = (2 : Int) ^ m := by simp
  have e : ((2 : Int) ^ m - 1) % 4294967296 = 2 ^ m - 1 := by omega
  rw [e, u32_and x _ h0 h1 (by omega) (by omega)]
  have e2 : ((2 : Int) ^ m - 1).toNat = 2 ^ m - 1 := by omega
  rw [e2, Nat.and_two_pow_sub_one_eq_mod]
  rw [← p2, Int.natCast_emod]
  have : ((x.toNat : Nat) : Int) = x := by omega
  rw [this]

theorem get_bd (form : Int) {w : Int} (h0 : 0 ≤ w) (h1 : w < 4294967296) : -2147483648 ≤ getS form w ∧ getS form w ≤ 2147483647 := by
  by_cases h : form < 1 ∨ 5 < form
  · rw [get0 h]; omega
  · obtain rfl | rfl | rfl | rfl | rfl : form = 1 ∨ form = 2 ∨ form = 3 ∨ form = 4 ∨ form = 5 := by omega
    · rw [get1]; omega
    · rw [get2]; omega
    · rw [get3]; omega
    · rw [get4]; omega
    · rw [get5]; omega

theorem or4I {A B C D : Int} (a0 : 0 ≤ A) (a1 : A < 4294967296) (b0 : 0 ≤ B) (b1 : B < 4294967296) (c0 : 0 ≤ C) (c1 : C < 4294967296) (d0 : 0 ≤ D) (d1 : D < 4294967296) :
    bits .or .u32 (bits .or .u32 (bits .or .u32 A B) C) D = (((A.toNat ||| B.toNat ||| C.toNat ||| D.toNat : Nat)) : Int) := by
  have h1 := nat_lt_or a0 a1 b0 b1
  have h2 : A.toNat ||| B.toNat ||| C.toNat < 4294967296 := Nat.or_lt_two_pow (n := 32) h1 (by omega)
  rw [u32_or A B a0 a1 b0 b1, u32_or _ C (by omega) (by omega) c0 c1]
  simp only [Int.toNat_natCast]
  rw [u32_or _ D (by omega) (by omega) d0 d1]
  simp only [Int.toNat_natCast]
theorem or_rc (a b c : Nat) : a ||| b ||| c = a ||| c ||| b := by rw [Nat.or_assoc, Nat.or_comm b c, ← Nat.or_assoc]
theorem or4 (k1 k2 k3 : Nat) {a b c d : Nat} (h1 : a % 2 ^ k1 = 0) (g1 : c < 2 ^ k1) (h2 : (a + c) % 2 ^ k2 = 0) (g2 : d + b < 2 ^ k2) (h3 : d % 2 ^ k3 = 0) (g3 : b < 2 ^ k3) :
    a ||| b ||| c ||| d = a + b + c + d := by
  have e : a ||| b ||| c ||| d = (a ||| c) ||| (d ||| b) := by
    rw [or_rc a b c, Nat.or_assoc (a ||| c), Nat.or_comm b d]
  rw [e, nat_join k1 a c h1 g1, nat_join k3 d b h3 g3, nat_join k2 _ _ h2 g2]
  omega

/-- the word of a number -/
def putW (form n : Int) : Int := if form = 1 then n % 4096 * 1048576 else
  if form = 2 then n / 32 % 128 * 33554432 + n % 32 * 128 else
  if form = 3 then n / 4096 % 2 * 2147483648 + n / 2048 % 2 * 128 + n / 32 % 64 * 33554432 + n / 2 % 16 * 256 else
  if form = 4 then n / 4096 % 1048576 * 4096 else
  n / 1048576 % 2 * 2147483648 + n / 4096 % 256 * 4096 + n / 2048 % 2 * 1048576 + n / 2 % 1024 * 2097152
theorem put3 (n : Int) : bits .or .u32 (bits .or .u32 (bits .or .u32 (n / 4096 % 2 * 2147483648) (n / 2048 % 2 * 128)) (n / 32 % 64 * 33554432)) (n / 2 % 16 * 256) = putW 3 n := by
  rw [or4I (by omega) (by omega) (by omega) (by omega) (by omega) (by omega) (by omega) (by omega)]
  rw [or4 31 25 8 (by omega) (by omega) (by omega) (by omega) (by omega) (by omega)]
  show _ = n / 4096 % 2 * 2147483648 + n / 2048 % 2 * 128 + n / 32 % 64 * 33554432 + n / 2 % 16 * 256
  omega
theorem put5 (n : Int) : bits .or .u32 (bits .or .u32 (bits .or .u32 (n / 1048576 % 2 * 2147483648) (n / 4096 % 256 * 4096)) (n / 2048 % 2 * 1048576)) (n / 2 % 1024 * 2097152) = putW 5 n := by
  rw [or4I (by omega) (by omega) (by omega) (by omega) (by omega) (by omega) (by omega) (by omega)]
  rw [or_rc _ (n / 2048 % 2 * 1048576).toNat]
  rw [or4 31 21 20 (by omega) (by omega) (by omega) (by omega) (by omega) (by omega)]
  show _ = n / 1048576 % 2 * 2147483648 + n / 4096 % 256 * 4096 + n / 2048 % 2 * 1048576 + n / 2 % 1024 * 2097152
  omega
end Go.Proofs.YtmlhoagcppofgaaGreatDoor.Pl

namespace Go.Proofs.YtmlhoagcppofgaaGreatDoor.Pl
open Go Go.RowKit

theorem two_step (x : Int) (m : Nat) : x % 2 ^ (m + 1) = 2 * (x / 2 % 2 ^ m) + x % 2 := by
  rw [Int.pow_succ]
  have a1 := Int.emod_add_mul_ediv x (2 ^ m * 2)
  have a2 : x / (2 ^ m * 2) = x / 2 / 2 ^ m := by rw [Int.mul_comm, Int.ediv_ediv_of_nonneg (by omega)]
  have a3 := Int.emod_add_mul_ediv (x / 2) (2 ^ m)
  rw [a2] at a1
  generalize x / 2 / 2 ^ m = q at *
  generalize (2 : Int) ^ m = P at *
  have a4 : P * 2 * q = 2 * (P * q) := by rw [Int.mul_comm P 2, Int.mul_assoc]
  omega
theorem div_next (w : Int) (lo : Nat) : w / 2 ^ (lo + 1) = w / 2 ^ lo / 2 := by
  rw [Int.pow_succ, Int.ediv_ediv_of_nonneg (Int.le_of_lt (pow_toNat_pos lo))]

/-- what place k adds to the word of m -/
def tK (m : Int) (L : List Int) (k : Nat) : Int := if L.getD k 0 < 0 then 0 else m / 2 ^ (L.length - 1 - k) % 2 * 2 ^ (L.getD k 0).toNat
def sK (m : Int) (L : List Int) : Nat → Int
  | 0 => 0
  | k + 1 => sK m L k + tK m L k
/-- a mask -/
def mK (L : List Int) : Nat → Int
  | 0 => 0
  | k + 1 => mK L k + (if L.getD k 0 < 0 then 0 else 2 ^ (L.getD k 0).toNat)

theorem sK_run (m : Int) (L : List Int) (k : Nat) : ∀ (r b lo : Nat), (∀ j, j < r → L.getD (k + j) 0 = ((lo + (r - 1 - j) : Nat) : Int) ∧ L.length - 1 - (k + j) = b + (r - 1 - j)) →
    sK m L (k + r) = sK m L k + m / 2 ^ b % 2 ^ r * 2 ^ lo := by
  intro r
  induction r with
  | zero => intro b lo _; simp
  | succ r ih =>
    intro b lo h
    have h1 := ih (b + 1) (lo + 1) (fun j hj => by
      obtain ⟨x, y⟩ := h j (by omega)
      refine ⟨by rw [x]; congr 1; omega, by rw [y]; omega⟩)
    obtain ⟨h2, h3⟩ := h r (by omega)
    rw [show k + (r + 1) = (k + r) + 1 from rfl, sK, h1]
    have e : tK m L (k + r) = m / 2 ^ b % 2 * 2 ^ lo := by
      have h2' : L.getD (k + r) 0 = (lo : Int) := by rw [h2]; congr 1; omega
      have h3' : L.length - 1 - (k + r) = b := by rw [h3]; omega
      unfold tK; rw [h2', h3', if_neg (by omega)]; simp
    rw [e, div_next, two_step, Int.pow_succ]
    generalize m / 2 ^ b = x
    generalize x / 2 % 2 ^ r = y
    generalize (2 : Int) ^ lo = P
    rw [← Int.mul_assoc, Int.add_mul]
    have : y * P * 2 = 2 * y * P := by rw [Int.mul_comm, ← Int.mul_assoc]
    omega

theorem sK_nil (m : Int) (L : List Int) (k : Nat) : ∀ r : Nat, (∀ j, j < r → L.getD (k + j) 0 = -1) → sK m L (k + r) = sK m L k := by
  intro r
  induction r with
  | zero => intro _; rfl
  | succ r ih =>
    intro h
    rw [show k + (r + 1) = (k + r) + 1 from rfl, sK, ih (fun j hj => h j (by omega)), tK, h r (by omega), if_pos (by omega)]
    omega

theorem sum_put {form m : Int} (f0 : 1 ≤ form) (f1 : form ≤ 5) : sK m (bitsL form) (bitsL form).length = putW form m := by
  have z (L : List Int) : sK m L 0 = 0 := rfl
  obtain rfl | rfl | rfl | rfl | rfl : form = 1 ∨ form = 2 ∨ form = 3 ∨ form = 4 ∨ form = 5 := by omega
  · have a1 := sK_run m (bitsL 1) 0 12 0 20 (by decide)
    rw [z] at a1
    refine a1.trans ?_
    show _ = m % 4096 * 1048576
    simp
  · have a1 := sK_run m (bitsL 2) 0 7 5 25 (by decide)
    have a2 := sK_run m (bitsL 2) 7 5 0 7 (by decide)
    rw [z] at a1
    refine a2.trans ?_
    rw [show sK m (bitsL 2) 7 = _ from a1]
    show _ = m / 32 % 128 * 33554432 + m % 32 * 128
    simp
  · have a1 := sK_run m (bitsL 3) 0 1 12 31 (by decide)
    have a2 := sK_run m (bitsL 3) 1 1 11 7 (by decide)
    have a3 := sK_run m (bitsL 3) 2 6 5 25 (by decide)
    have a4 := sK_run m (bitsL 3) 8 4 1 8 (by decide)
    have a5 := sK_nil m (bitsL 3) 12 1 (by decide)
    rw [z] at a1
    refine a5.trans ?_
    rw [show sK m (bitsL 3) 12 = _ from a4, show sK m (bitsL 3) 8 = _ from a3, show sK m (bitsL 3) 2 = _ from a2, show sK m (bitsL 3) 1 = _ from a1]
    show _ = m / 4096 % 2 * 2147483648 + m / 2048 % 2 * 128 + m / 32 % 64 * 33554432 + m / 2 % 16 * 256
    simp
  · have a1 := sK_run m (bitsL 4) 0 20 12 12 (by decide)
    have a5 := sK_nil m (bitsL 4) 20 12 (by decide)
    rw [z] at a1
    refine a5.trans ?_
    rw [show sK m (bitsL 4) 20 = _ from a1]
    show _ = m / 4096 % 1048576 * 4096
    simp
  · have a1 := sK_run m (bitsL 5) 0 1 20 31 (by decide)
    have a2 := sK_run m (bitsL 5) 1 8 12 12 (by decide)
    have a3 := sK_run m (bitsL 5) 9 1 11 20 (by decide)
    have a4 := sK_run m (bitsL 5) 10 10 1 21 (by decide)
    have a5 := sK_nil m (bitsL 5) 20 1 (by decide)
    rw [z] at a1
    refine a5.trans ?_
    rw [show sK m (bitsL 5) 20 = _ from a4, show sK m (bitsL 5) 10 = _ from a3, show sK m (bitsL 5) 9 = _ from a2, show sK m (bitsL 5) 1 = _ from a1]
    show _ = m / 1048576 % 2 * 2147483648 + m / 4096 % 256 * 4096 + m / 2048 % 2 * 1048576 + m / 2 % 1024 * 2097152
    simp

theorem put_bd {form m : Int} (f0 : 1 ≤ form) (f1 : form ≤ 5) : 0 ≤ putW form m ∧ putW form m < 4294967296 := by
  obtain rfl | rfl | rfl | rfl | rfl : form = 1 ∨ form = 2 ∨ form = 3 ∨ form = 4 ∨ form = 5 := by omega
  · show 0 ≤ m % 4096 * 1048576 ∧ m % 4096 * 1048576 < 4294967296; omega
  · show 0 ≤ m / 32 % 128 * 33554432 + m % 32 * 128 ∧ m / 32 % 128 * 33554432 + m % 32 * 128 < 4294967296; omega
  · show 0 ≤ m / 4096 % 2 * 2147483648 + m / 2048 % 2 * 128 + m / 32 % 64 * 33554432 + m / 2 % 16 * 256 ∧ m / 4096 % 2 * 2147483648 + m / 2048 % 2 * 128 + m / 32 % 64 * 33554432 + m / 2 % 16 * 256 < 4294967296; omega
  · show 0 ≤ m / 4096 % 1048576 * 4096 ∧ m / 4096 % 1048576 * 4096 < 4294967296; omega
  · show 0 ≤ m / 1048576 % 2 * 2147483648 + m / 4096 % 256 * 4096 + m / 2048 % 2 * 1048576 + m / 2 % 1024 * 2097152 ∧ m / 1048576 % 2 * 2147483648 + m / 4096 % 256 * 4096 + m / 2048 % 2 * 1048576 + m / 2 % 1024 * 2097152 < 4294967296; omega

/-- a field of a number, as a mask has it -/
theorem and_field (w r lo : Nat) : w &&& ((2 ^ r - 1) * 2 ^ lo) = w / 2 ^ lo % 2 ^ r * 2 ^ lo := by
  apply Nat.eq_of_testBit_eq
  intro i
  simp only [Nat.testBit_and, Nat.testBit_mul_two_pow, Nat.testBit_two_pow_sub_one, Nat.testBit_mod_two_pow, Nat.testBit_div_two_pow]
  by_cases h : lo ≤ i
  · simp [h, show i - lo + lo = i by omega]
    rw [Bool.and_comm]
  · simp [h]

/-- which bits a form names -/
def maskS (form : Int) : Int := if form = 1 then 4293918720 else if form = 2 ∨ form = 3 then 4261416832 else 4294963200
theorem mask_is {form : Int} (f0 : 1 ≤ form) (f1 : form ≤ 5) : mK (bitsL form) (bitsL form).length = maskS form := by
  obtain rfl | rfl | rfl | rfl | rfl : form = 1 ∨ form = 2 ∨ form = 3 ∨ form = 4 ∨ form = 5 := by omega
  all_goals decide
theorem and_maskS {form w : Int} (f0 : 1 ≤ form) (f1 : form ≤ 5) (h0 : 0 ≤ w) (h1 : w < 4294967296) :
    bits .and .u32 w (maskS form) = if form = 1 then w / 1048576 * 1048576 else if form = 2 ∨ form = 3 then w / 33554432 * 33554432 + w / 128 % 32 * 128 else w / 4096 * 4096 := by
  obtain rfl | h | h : form = 1 ∨ (form = 2 ∨ form = 3) ∨ (form = 4 ∨ form = 5) := by omega
  · show bits .and .u32 w 4293918720 = w / 1048576 * 1048576
    rw [u32_and w _ h0 h1 (by omega) (by omega)]
    have := and_field w.toNat 12 20
    rw [show (4293918720 : Int).toNat = (2 ^ 12 - 1) * 2 ^ 20 from rfl, this]
    simp; omega
  · have e : maskS form = 4261416832 := by rcases h with rfl | rfl <;> rfl
    rw [e, if_neg (by omega), if_pos h, u32_and w _ h0 h1 (by omega) (by omega)]
    have t1 := and_field w.toNat 7 25
    have t2 := and_field w.toNat 5 7
    rw [show (4261416832 : Int).toNat = (2 ^ 7 - 1) * 2 ^ 25 ||| (2 ^ 5 - 1) * 2 ^ 7 by decide, Nat.and_or_distrib_left, t1, t2, nat_join 25 _ _ (by omega) (by omega)]
    simp; omega
  · have e : maskS form = 4294963200 := by rcases h with rfl | rfl <;> rfl
    rw [e, if_neg (by omega), if_neg (by omega), u32_and w _ h0 h1 (by omega) (by omega)]
    have := and_field w.toNat 20 12
    rw [show (4294963200 : Int).toNat = (2 ^ 20 - 1) * 2 ^ 12 from rfl, this]
    simp; omega

/-- what is left of a word's number: its bits that the form names -/
def named (form w : Int) : Int := if form = 1 then w / 1048576 * 1048576 else if form = 2 ∨ form = 3 then w / 33554432 * 33554432 + w / 128 % 32 * 128 else w / 4096 * 4096

theorem f3 {b f r : Int} (hb : 0 ≤ b ∧ b ≤ 1) (hf : 0 ≤ f ∧ f ≤ 63) (hr : 0 ≤ r ∧ r ≤ 15) (s : Int) (hs : s = 0 ∨ s = 1) :
    (4294963200 * s + (b * 2048 + f * 32 + r * 2)) / 4096 % 2 = s ∧ (4294963200 * s + (b * 2048 + f * 32 + r * 2)) / 2048 % 2 = b ∧
    (4294963200 * s + (b * 2048 + f * 32 + r * 2)) / 32 % 64 = f ∧ (4294963200 * s + (b * 2048 + f * 32 + r * 2)) / 2 % 16 = r := by
  rcases hs with rfl | rfl
  all_goals refine ⟨?_, ?_, ?_, ?_⟩
  all_goals omega
theorem f3v {b f r : Int} (hb : 0 ≤ b ∧ b ≤ 1) (hf : 0 ≤ f ∧ f ≤ 63) (hr : 0 ≤ r ∧ r ≤ 15) (s : Int) (hs : s = 0 ∨ s = 1) :
    ((((-s * 2 + b) * 64 + f) * 16 + r) * 2) % 4294967296 = 4294963200 * s + (b * 2048 + f * 32 + r * 2) := by
  rcases hs with rfl | rfl
  all_goals omega
theorem f5 {x c d : Int} (hx : 0 ≤ x ∧ x ≤ 255) (hc : 0 ≤ c ∧ c ≤ 1) (hd : 0 ≤ d ∧ d ≤ 1023) (s : Int) (hs : s = 0 ∨ s = 1) :
    (s * 4293918720 + (x * 4096 + c * 2048 + d * 2)) / 1048576 % 2 = s ∧ (s * 4293918720 + (x * 4096 + c * 2048 + d * 2)) / 4096 % 256 = x ∧
    (s * 4293918720 + (x * 4096 + c * 2048 + d * 2)) / 2048 % 2 = c ∧ (s * 4293918720 + (x * 4096 + c * 2048 + d * 2)) / 2 % 1024 = d := by
  rcases hs with rfl | rfl
  all_goals refine ⟨?_, ?_, ?_, ?_⟩
  all_goals omega
theorem f5v {x c d : Int} (hx : 0 ≤ x ∧ x ≤ 255) (hc : 0 ≤ c ∧ c ≤ 1) (hd : 0 ≤ d ∧ d ≤ 1023) (s : Int) (hs : s = 0 ∨ s = 1) :
    ((((-s * 256 + x) * 2 + c) * 1024 + d) * 2) % 4294967296 = s * 4293918720 + (x * 4096 + c * 2048 + d * 2) := by
  rcases hs with rfl | rfl
  all_goals omega
theorem g2 {x y : Int} (hx : 0 ≤ x ∧ x ≤ 127) (hy : 0 ≤ y ∧ y ≤ 31) :
    (x * 33554432 + y * 128) / 2147483648 % 2 = x / 64 ∧ (x * 33554432 + y * 128) / 33554432 % 64 = x % 64 ∧ (x * 33554432 + y * 128) / 128 % 32 = y := by
  have e : (x * 33554432 + y * 128) / 2147483648 = (x * 33554432 + y * 128) / 33554432 / 64 := by omega
  have e2 : (x * 33554432 + y * 128) / 33554432 = x := by omega
  rw [e, e2]
  refine ⟨by omega, rfl, by omega⟩
theorem g3 {x1 x2 x3 x4 : Int} (h1 : x1 = 0 ∨ x1 = 1) (h2 : 0 ≤ x2 ∧ x2 ≤ 1) (h3 : 0 ≤ x3 ∧ x3 ≤ 63) (h4 : 0 ≤ x4 ∧ x4 ≤ 15) :
    (x1 * 2147483648 + x2 * 128 + x3 * 33554432 + x4 * 256) / 2147483648 % 2 = x1 ∧ (x1 * 2147483648 + x2 * 128 + x3 * 33554432 + x4 * 256) / 128 % 2 = x2 ∧
    (x1 * 2147483648 + x2 * 128 + x3 * 33554432 + x4 * 256) / 33554432 % 64 = x3 ∧ (x1 * 2147483648 + x2 * 128 + x3 * 33554432 + x4 * 256) / 256 % 16 = x4 := by
  rcases h1 with rfl | rfl
  all_goals refine ⟨?_, ?_, ?_, ?_⟩
  all_goals omega
theorem g5 {x1 x2 x3 x4 : Int} (h1 : x1 = 0 ∨ x1 = 1) (h2 : 0 ≤ x2 ∧ x2 ≤ 255) (h3 : 0 ≤ x3 ∧ x3 ≤ 1) (h4 : 0 ≤ x4 ∧ x4 ≤ 1023) :
    (x1 * 2147483648 + x2 * 4096 + x3 * 1048576 + x4 * 2097152) / 2147483648 % 2 = x1 ∧ (x1 * 2147483648 + x2 * 4096 + x3 * 1048576 + x4 * 2097152) / 4096 % 256 = x2 ∧
    (x1 * 2147483648 + x2 * 4096 + x3 * 1048576 + x4 * 2097152) / 1048576 % 2 = x3 ∧ (x1 * 2147483648 + x2 * 4096 + x3 * 1048576 + x4 * 2097152) / 2097152 % 1024 = x4 := by
  rcases h1 with rfl | rfl
  all_goals refine ⟨?_, ?_, ?_, ?_⟩
  all_goals omega

theorem back1 {w : Int} (h0 : 0 ≤ w) (h1 : w < 4294967296) : putW 1 (getS 1 w % 4294967296) = w / 1048576 * 1048576 := by
  show getS 1 w % 4294967296 % 4096 * 1048576 = _
  rw [get1]; omega
theorem back2 {w : Int} (h0 : 0 ≤ w) (h1 : w < 4294967296) : putW 2 (getS 2 w % 4294967296) = w / 33554432 * 33554432 + w / 128 % 32 * 128 := by
  show getS 2 w % 4294967296 / 32 % 128 * 33554432 + getS 2 w % 4294967296 % 32 * 128 = _
  rw [get2]
  have t1 : w / 2147483648 = w / 33554432 / 64 := by omega
  have t2 : 0 ≤ w / 33554432 ∧ w / 33554432 ≤ 127 := by omega
  rw [t1]
  generalize w / 33554432 = x at *
  generalize w / 128 = y
  omega
theorem back3 {w : Int} (h0 : 0 ≤ w) (h1 : w < 4294967296) : putW 3 (getS 3 w % 4294967296) = w / 33554432 * 33554432 + w / 128 % 32 * 128 := by
  show getS 3 w % 4294967296 / 4096 % 2 * 2147483648 + getS 3 w % 4294967296 / 2048 % 2 * 128 + getS 3 w % 4294967296 / 32 % 64 * 33554432 + getS 3 w % 4294967296 / 2 % 16 * 256 = _
  rw [get3]
  have t1 : w / 2147483648 = w / 33554432 / 64 := by omega
  have t2 : 0 ≤ w / 33554432 ∧ w / 33554432 ≤ 127 := by omega
  have t3 : w / 256 = w / 128 / 2 := by omega
  rw [t1, t3]
  generalize w / 33554432 = x at *
  generalize w / 128 = y
  obtain ⟨s, f, rfl, g1, g2, g3, g4⟩ : ∃ s f, x = s * 64 + f ∧ 0 ≤ s ∧ s ≤ 1 ∧ 0 ≤ f ∧ f ≤ 63 := ⟨x / 64, x % 64, by omega, by omega, by omega, by omega, by omega⟩
  obtain ⟨q, r, b, rfl, k1, k2, k3, k4⟩ : ∃ q r b, y = (q * 16 + r) * 2 + b ∧ 0 ≤ r ∧ r ≤ 15 ∧ 0 ≤ b ∧ b ≤ 1 := ⟨y / 32, y / 2 % 16, y % 2, by omega, by omega, by omega, by omega, by omega⟩
  have u1 : (s * 64 + f) / 64 % 2 = s := by omega
  have u2 : (s * 64 + f) % 64 = f := by omega
  have u3 : ((q * 16 + r) * 2 + b) % 2 = b := by omega
  have u4 : ((q * 16 + r) * 2 + b) / 2 % 16 = r := by omega
  have u5 : ((q * 16 + r) * 2 + b) % 32 = r * 2 + b := by omega
  rw [u1, u2, u3, u4, u5]
  have hs : s = 0 ∨ s = 1 := by omega
  obtain ⟨v1, v2, v3, v4⟩ := f3 ⟨k3, k4⟩ ⟨g3, g4⟩ ⟨k1, k2⟩ s hs
  rw [f3v ⟨k3, k4⟩ ⟨g3, g4⟩ ⟨k1, k2⟩ s hs, v1, v2, v3, v4]
  clear u1 u2 u3 u4 u5 t1 t2 t3 v1 v2 v3 v4
  omega
theorem back4 {w : Int} (h0 : 0 ≤ w) (h1 : w < 4294967296) : putW 4 (getS 4 w % 4294967296) = w / 4096 * 4096 := by
  show getS 4 w % 4294967296 / 4096 % 1048576 * 4096 = _
  rw [get4]; omega
theorem back5 {w : Int} (h0 : 0 ≤ w) (h1 : w < 4294967296) : putW 5 (getS 5 w % 4294967296) = w / 4096 * 4096 := by
  show getS 5 w % 4294967296 / 1048576 % 2 * 2147483648 + getS 5 w % 4294967296 / 4096 % 256 * 4096 + getS 5 w % 4294967296 / 2048 % 2 * 1048576 + getS 5 w % 4294967296 / 2 % 1024 * 2097152 = _
  rw [get5]
  obtain ⟨s, d, c, x, e, rfl, g1, g2, g3, g4, g5, g6, g7, g8, g9, g10⟩ : ∃ s d c x e, w = s * 2147483648 + d * 2097152 + c * 1048576 + x * 4096 + e ∧ 0 ≤ s ∧ s ≤ 1 ∧ 0 ≤ d ∧ d ≤ 1023 ∧ 0 ≤ c ∧ c ≤ 1 ∧ 0 ≤ x ∧ x ≤ 255 ∧ 0 ≤ e ∧ e ≤ 4095 :=
    ⟨w / 2147483648, w / 2097152 % 1024, w / 1048576 % 2, w / 4096 % 256, w % 4096, by omega, by omega, by omega, by omega, by omega, by omega, by omega, by omega, by omega, by omega, by omega⟩
  have u1 : (s * 2147483648 + d * 2097152 + c * 1048576 + x * 4096 + e) / 2147483648 % 2 = s := by omega
  have u2 : (s * 2147483648 + d * 2097152 + c * 1048576 + x * 4096 + e) / 4096 % 256 = x := by omega
  have u3 : (s * 2147483648 + d * 2097152 + c * 1048576 + x * 4096 + e) / 1048576 % 2 = c := by omega
  have u4 : (s * 2147483648 + d * 2097152 + c * 1048576 + x * 4096 + e) / 2097152 % 1024 = d := by omega
  have u5 : (s * 2147483648 + d * 2097152 + c * 1048576 + x * 4096 + e) / 4096 * 4096 = s * 2147483648 + d * 2097152 + c * 1048576 + x * 4096 := by omega
  rw [u1, u2, u3, u4, u5]
  clear u1 u2 u3 u4 u5
  have hs : s = 0 ∨ s = 1 := by omega
  obtain ⟨v1, v2, v3, v4⟩ := f5 ⟨g7, g8⟩ ⟨g5, g6⟩ ⟨g3, g4⟩ s hs
  rw [f5v ⟨g7, g8⟩ ⟨g5, g6⟩ ⟨g3, g4⟩ s hs, v1, v2, v3, v4]
  omega
theorem back {form w : Int} (f0 : 1 ≤ form) (f1 : form ≤ 5) (h0 : 0 ≤ w) (h1 : w < 4294967296) : putW form (getS form w % 4294967296) = named form w := by
  obtain rfl | rfl | rfl | rfl | rfl : form = 1 ∨ form = 2 ∨ form = 3 ∨ form = 4 ∨ form = 5 := by omega
  · exact back1 h0 h1
  · exact back2 h0 h1
  · exact back3 h0 h1
  · exact back4 h0 h1
  · exact back5 h0 h1
theorem get_named {form w : Int} (f0 : 1 ≤ form) (f1 : form ≤ 5)  : getS form (named form w) = getS form w := by
  obtain rfl | rfl | rfl | rfl | rfl : form = 1 ∨ form = 2 ∨ form = 3 ∨ form = 4 ∨ form = 5 := by omega
  · show getS 1 (w / 1048576 * 1048576) = _; rw [get1, get1]; omega
  · show getS 2 (w / 33554432 * 33554432 + w / 128 % 32 * 128) = _; rw [get2, get2]
    have u1 : (w / 33554432 * 33554432 + w / 128 % 32 * 128) / 2147483648 = w / 2147483648 := by omega
    have u2 : (w / 33554432 * 33554432 + w / 128 % 32 * 128) / 33554432 = w / 33554432 := by omega
    have u3 : (w / 33554432 * 33554432 + w / 128 % 32 * 128) / 128 % 32 = w / 128 % 32 := by omega
    rw [u1, u2, u3]
  · show getS 3 (w / 33554432 * 33554432 + w / 128 % 32 * 128) = _; rw [get3, get3]
    have u1 : (w / 33554432 * 33554432 + w / 128 % 32 * 128) / 2147483648 = w / 2147483648 := by omega
    have u2 : (w / 33554432 * 33554432 + w / 128 % 32 * 128) / 33554432 = w / 33554432 := by omega
    have u3 : (w / 33554432 * 33554432 + w / 128 % 32 * 128) / 128 % 2 = w / 128 % 2 := by omega
    have u4 : (w / 33554432 * 33554432 + w / 128 % 32 * 128) / 256 % 16 = w / 256 % 16 := by omega
    rw [u1, u2, u3, u4]
  · show getS 4 (w / 4096 * 4096) = _; rw [get4, get4]; omega
  · show getS 5 (w / 4096 * 4096) = _; rw [get5, get5]
    have u1 : w / 4096 * 4096 / 2147483648 = w / 2147483648 := by omega
    have u2 : w / 4096 * 4096 / 4096 = w / 4096 := by omega
    have u3 : w / 4096 * 4096 / 1048576 = w / 1048576 := by omega
    have u4 : w / 4096 * 4096 / 2097152 = w / 2097152 := by omega
    rw [u1, u2, u3, u4]

/-- which numbers a form has -/
def hasS (form n : Int) : Prop := if form = 3 then -4096 ≤ n ∧ n ≤ 4095 ∧ n % 2 = 0 else if form = 4 then n % 4096 = 0 else if form = 5 then -1048576 ≤ n ∧ n ≤ 1048575 ∧ n % 2 = 0 else -2048 ≤ n ∧ n ≤ 2047
theorem has_iff {form n : Int} (f0 : 1 ≤ form) (f1 : form ≤ 5) (h0 : -2147483648 ≤ n) (h1 : n ≤ 2147483647) : getS form (putW form (n % 4294967296)) = n ↔ hasS form n := by
  obtain rfl | rfl | rfl | rfl | rfl : form = 1 ∨ form = 2 ∨ form = 3 ∨ form = 4 ∨ form = 5 := by omega
  · show getS 1 (n % 4294967296 % 4096 * 1048576) = n ↔ (-2048 ≤ n ∧ n ≤ 2047); rw [get1]; omega
  · show getS 2 (n % 4294967296 / 32 % 128 * 33554432 + n % 4294967296 % 32 * 128) = n ↔ (-2048 ≤ n ∧ n ≤ 2047); rw [get2]
    have e1 : n % 4294967296 / 32 % 128 = n / 32 % 128 := by omega
    have e2 : n % 4294967296 % 32 = n % 32 := by omega
    rw [e1, e2]
    have k : n = n / 4096 * 4096 + n / 32 % 128 * 32 + n % 32 := by omega
    have b1 : 0 ≤ n / 32 % 128 ∧ n / 32 % 128 ≤ 127 := by omega
    have b2 : 0 ≤ n % 32 ∧ n % 32 ≤ 31 := by omega
    generalize n / 4096 = t at *
    generalize n / 32 % 128 = x at *
    generalize n % 32 = y at *
    obtain ⟨u1, u2, u3⟩ := g2 b1 b2
    rw [u1, u2, u3]
    clear u1 u2 u3 e1 e2
    omega
  · show getS 3 (n % 4294967296 / 4096 % 2 * 2147483648 + n % 4294967296 / 2048 % 2 * 128 + n % 4294967296 / 32 % 64 * 33554432 + n % 4294967296 / 2 % 16 * 256) = n ↔ (-4096 ≤ n ∧ n ≤ 4095 ∧ n % 2 = 0); rw [get3]
    have e1 : n % 4294967296 / 4096 % 2 = n / 4096 % 2 := by omega
    have e2 : n % 4294967296 / 2048 % 2 = n / 2048 % 2 := by omega
    have e3 : n % 4294967296 / 32 % 64 = n / 32 % 64 := by omega
    have e4 : n % 4294967296 / 2 % 16 = n / 2 % 16 := by omega
    rw [e1, e2, e3, e4]
    have b1 : 0 ≤ n / 4096 % 2 ∧ n / 4096 % 2 ≤ 1 := by omega
    have b2 : 0 ≤ n / 2048 % 2 ∧ n / 2048 % 2 ≤ 1 := by omega
    have b3 : 0 ≤ n / 32 % 64 ∧ n / 32 % 64 ≤ 63 := by omega
    have b4 : 0 ≤ n / 2 % 16 ∧ n / 2 % 16 ≤ 15 := by omega
    have k : n = n / 8192 * 8192 + n / 4096 % 2 * 4096 + n / 2048 % 2 * 2048 + n / 32 % 64 * 32 + n / 2 % 16 * 2 + n % 2 := by omega
    have b5 : 0 ≤ n % 2 ∧ n % 2 ≤ 1 := by omega
    generalize n / 8192 = t at *
    generalize n / 4096 % 2 = x1 at *
    generalize n / 2048 % 2 = x2 at *
    generalize n / 32 % 64 = x3 at *
    generalize n / 2 % 16 = x4 at *
    generalize n % 2 = x5 at *
    obtain ⟨u1, u2, u3, u4⟩ := g3 (x1 := x1) (by omega) b2 b3 b4
    rw [u1, u2, u3, u4]
    clear u1 u2 u3 u4 e1 e2 e3 e4
    omega
  · show getS 4 (n % 4294967296 / 4096 % 1048576 * 4096) = n ↔ n % 4096 = 0; rw [get4]; omega
  · show getS 5 (n % 4294967296 / 1048576 % 2 * 2147483648 + n % 4294967296 / 4096 % 256 * 4096 + n % 4294967296 / 2048 % 2 * 1048576 + n % 4294967296 / 2 % 1024 * 2097152) = n ↔ (-1048576 ≤ n ∧ n ≤ 1048575 ∧ n % 2 = 0); rw [get5]
    have e1 : n % 4294967296 / 1048576 % 2 = n / 1048576 % 2 := by omega
    have e2 : n % 4294967296 / 4096 % 256 = n / 4096 % 256 := by omega
    have e3 : n % 4294967296 / 2048 % 2 = n / 2048 % 2 := by omega
    have e4 : n % 4294967296 / 2 % 1024 = n / 2 % 1024 := by omega
    rw [e1, e2, e3, e4]
    have b1 : 0 ≤ n / 1048576 % 2 ∧ n / 1048576 % 2 ≤ 1 := by omega
    have b2 : 0 ≤ n / 4096 % 256 ∧ n / 4096 % 256 ≤ 255 := by omega
    have b3 : 0 ≤ n / 2048 % 2 ∧ n / 2048 % 2 ≤ 1 := by omega
    have b4 : 0 ≤ n / 2 % 1024 ∧ n / 2 % 1024 ≤ 1023 := by omega
    have k : n = n / 2097152 * 2097152 + n / 1048576 % 2 * 1048576 + n / 4096 % 256 * 4096 + n / 2048 % 2 * 2048 + n / 2 % 1024 * 2 + n % 2 := by omega
    have b5 : 0 ≤ n % 2 ∧ n % 2 ≤ 1 := by omega
    generalize n / 2097152 = t at *
    generalize n / 1048576 % 2 = x1 at *
    generalize n / 4096 % 256 = x2 at *
    generalize n / 2048 % 2 = x3 at *
    generalize n / 2 % 1024 = x4 at *
    generalize n % 2 = x5 at *
    obtain ⟨u1, u2, u3, u4⟩ := g5 (x1 := x1) (by omega) b2 b3 b4
    rw [u1, u2, u3, u4]
    clear u1 u2 u3 u4 e1 e2 e3 e4
    omega
end Go.Proofs.YtmlhoagcppofgaaGreatDoor.Pl

namespace Go.Proofs.YtmlhoagcppofgaaGreatDoor
open Go Go.RowKit
set_option linter.unusedVariables false

/-- five numbers: op, d, a, b, and a number of 32 bits -/
structure Q5 where
  o : Int
  d : Int
  a : Int
  b : Int
  i : Int
deriving DecidableEq

def Q5.cells (x : Q5) : List Value := [.int .i64 x.o, .int .i64 x.d, .int .i64 x.a, .int .i64 x.b, .int .i32 x.i]
def Q5.arr (x : Q5) : Array Value := #[.int .i64 x.o, .int .i64 x.d, .int .i64 x.a, .int .i64 x.b, .int .i32 x.i]
/-- the numbers are such as their kinds have -/
def Q5.wf (x : Q5) : Prop := (Lit.int .i64 x.o).wf = true ∧ (Lit.int .i64 x.d).wf = true ∧ (Lit.int .i64 x.a).wf = true ∧ (Lit.int .i64 x.b).wf = true ∧ (Lit.int .i32 x.i).wf = true
def flat (l : List Q5) : List Value := l.flatMap Q5.cells
theorem flat_nil : flat [] = [] := rfl
theorem flat_cons (x : Q5) (l : List Q5) : flat (x :: l) = x.cells ++ flat l := by simp [flat]
theorem flat_app (l m : List Q5) : flat (l ++ m) = flat l ++ flat m := by simp [flat]
theorem flat_len (l : List Q5) : (flat l).length = l.length * 5 := by
  induction l with
  | nil => rfl
  | cons x l ih => rw [flat_cons, List.length_append, ih]; simp [Q5.cells]; omega
theorem flat_get : ∀ (l : List Q5) (k : Nat) (x : Q5), l[k]? = some x → ∀ j, j < 5 → (flat l)[k * 5 + j]? = x.cells[j]? := by
  intro l
  induction l with
  | nil => intro k x h; simp at h
  | cons y l ih =>
    intro k x h j hj
    rw [flat_cons]
    cases k with
    | zero =>
      obtain rfl : y = x := by simpa using h
      rw [List.getElem?_append_left (by simp [Q5.cells]; omega)]
      congr 1; omega
    | succ k =>
      have h' : l[k]? = some x := by simpa using h
      rw [List.getElem?_append_right (by simp [Q5.cells]; omega)]
      rw [← ih k x h' j hj]
      congr 1
      simp [Q5.cells]; omega
theorem flat_one (l : List Q5) : ∀ u ∈ flat l, u.oneCell' = true := by
  intro u hu
  simp only [flat, List.mem_flatMap] at hu
  obtain ⟨x, _, hx⟩ := hu
  simp [Q5.cells] at hx
  rcases hx with rfl | rfl | rfl | rfl | rfl <;> rfl
theorem flat_take (l : List Q5) (n : Nat) : flat (l.take n) = (flat l).take (n * 5) := by
  induction l generalizing n with
  | nil => simp [flat]
  | cons x l ih =>
    cases n with
    | zero => simp [flat]
    | succ n =>
      rw [List.take_succ_cons, flat_cons, flat_cons, ih, show (n + 1) * 5 = x.cells.length + n * 5 by simp [Q5.cells]; omega, List.take_length_add_append]

/-- a slice of such: where its cells lie -/
def L5 (w : World) (a : Option Addr) (l : List Q5) : Prop :=
  l.length ≤ 1000000000000 ∧ (l = [] ∨ ∃ b off, a = some ⟨b, off, none⟩ ∧ b < w.heap.size ∧ ∀ k x, l[k]? = some x →
    w.cell? ⟨b, off + k * 5, none⟩ = some (.int .i64 x.o) ∧ w.cell? ⟨b, off + k * 5 + 1, none⟩ = some (.int .i64 x.d) ∧ w.cell? ⟨b, off + k * 5 + 2, none⟩ = some (.int .i64 x.a) ∧
    w.cell? ⟨b, off + k * 5 + 3, none⟩ = some (.int .i64 x.b) ∧ w.cell? ⟨b, off + k * 5 + 4, none⟩ = some (.int .i32 x.i))
theorem add_at (b off j : Nat) : (⟨b, off, none⟩ : Addr).add j = ⟨b, off + j, none⟩ := by unfold Addr.add; split <;> simp_all
theorem l5_mk {w : World} {b off : Nat} {l : List Q5} (hlen : l.length ≤ 1000000000000) (hb : b < w.heap.size) (h : ∀ j u, (flat l)[j]? = some u → w.cell? ⟨b, off + j, none⟩ = some u) : L5 w (some ⟨b, off, none⟩) l := by
  refine ⟨hlen, Or.inr ⟨b, off, rfl, hb, fun k x hx => ?_⟩⟩
  have g := flat_get l k x hx
  refine ⟨h (k * 5) _ (by rw [show k * 5 = k * 5 + 0 by omega, g 0 (by omega)]; rfl), ?_, ?_, ?_, ?_⟩
  · have := h (k * 5 + 1) _ (by rw [g 1 (by omega)]; rfl); rw [← Nat.add_assoc] at this; exact this
  · have := h (k * 5 + 2) _ (by rw [g 2 (by omega)]; rfl); rw [← Nat.add_assoc] at this; exact this
  · have := h (k * 5 + 3) _ (by rw [g 3 (by omega)]; rfl); rw [← Nat.add_assoc] at this; exact this
  · have := h (k * 5 + 4) _ (by rw [g 4 (by omega)]; rfl); rw [← Nat.add_assoc] at this; exact this
theorem L5.news {w : World} {b off : Nat} {l : List Q5} (h : L5 w (some ⟨b, off, none⟩) l) : ∀ j u, (flat l)[j]? = some u → w.cell? ((⟨b, off, none⟩ : Addr).add j) = some u := by
  intro j u hj
  rw [add_at]
  obtain ⟨_, rfl | ⟨b', off', e, _, hc⟩⟩ := h
  · simp [flat] at hj
  · obtain ⟨rfl, rfl⟩ : b = b' ∧ off = off' := by simpa using e
    have hlt : j < (flat l).length := by
      rcases Nat.lt_or_ge j (flat l).length with g | g
      · exact g
      · rw [List.getElem?_eq_none g] at hj; cases hj
    rw [flat_len] at hlt
    have hk : j / 5 < l.length := by omega
    obtain ⟨x, hx⟩ : ∃ x, l[j / 5]? = some x := ⟨_, List.getElem?_eq_getElem hk⟩
    have g := flat_get l (j / 5) x hx (j % 5) (by omega)
    rw [show j / 5 * 5 + j % 5 = j by omega, hj] at g
    obtain ⟨c0, c1, c2, c3, c4⟩ := hc _ x hx
    have hm : j % 5 = 0 ∨ j % 5 = 1 ∨ j % 5 = 2 ∨ j % 5 = 3 ∨ j % 5 = 4 := by omega
    rcases hm with e | e | e | e | e <;> rw [e] at g <;> simp [Q5.cells] at g <;> subst g
    · rw [show off + j = off + j / 5 * 5 by omega]; exact c0
    · rw [show off + j = off + j / 5 * 5 + 1 by omega]; exact c1
    · rw [show off + j = off + j / 5 * 5 + 2 by omega]; exact c2
    · rw [show off + j = off + j / 5 * 5 + 3 by omega]; exact c3
    · rw [show off + j = off + j / 5 * 5 + 4 by omega]; exact c4
theorem L5.later {w w' : World} {a : Option Addr} {l : List Q5} (h : L5 w a l) (hb : Below w.heap.size w w') : L5 w' a l := by
  obtain ⟨h1, h | ⟨b, off, rfl, hlt, hc⟩⟩ := h
  · exact ⟨h1, Or.inl h⟩
  · refine ⟨h1, Or.inr ⟨b, off, rfl, Nat.lt_of_lt_of_le hlt hb.size, fun k x hx => ?_⟩⟩
    obtain ⟨c0, c1, c2, c3, c4⟩ := hc k x hx
    exact ⟨(hb.cell hlt).trans c0, (hb.cell hlt).trans c1, (hb.cell hlt).trans c2, (hb.cell hlt).trans c3, (hb.cell hlt).trans c4⟩
theorem L5.empty (w : World) (a : Option Addr) : L5 w a [] := ⟨by simp, Or.inl rfl⟩
/-- a row of the call's own that has these -/
theorem l5_own {w : World} {base : Nat} {e : TypeId} {v : Value} {n : Nat} {l : List Q5} (h : w.ownsRow base e 5 v n (flat l)) (hn : n = l.length) (hl : l.length ≤ 1000000000000) :
    ∃ a c, v = .slice a l.length c ∧ L5 w a l ∧ l.length ≤ c ∧ c ≤ 9223372036854775807 := by
  subst hn
  have hlt := h.lt
  have h' := h
  obtain ⟨_, ⟨hv, hn⟩ | ⟨g, cap, cur, hv, hg, hh, hc, hcm, _⟩⟩ := h
  · have : l = [] := List.eq_nil_of_length_eq_zero hn
    subst this
    exact ⟨none, 0, hv, L5.empty _ _, by simp, by omega⟩
  · refine ⟨some ⟨g, 0, none⟩, cap, hv, l5_mk hl (hlt g (by rw [hv]; rfl)).2 ?_, hc, by simpa [maxLen] using hcm⟩
    intro j u hj
    have := h'.cells (g := g) (by rw [hv]; rfl) j u hj
    rw [add_at] at this
    exact this
/-- one element, laid into a block of its own -/
theorem l5_lit (w : World) (e : TypeId) (l : List Q5) (xs : Array Value) (h : flat l = xs.toList) (H : Nat) (hH : w.heap.size = H) (hl : l.length ≤ 1000000000000) : L5 (w.alloc (.cells xs e)) (some ⟨H, 0, none⟩) l := by
  subst hH
  refine l5_mk hl (by simp) fun j u hj => ?_
  rw [Nat.zero_add, World.cell?_alloc_new]
  rw [h] at hj
  simpa using hj
end Go.Proofs.YtmlhoagcppofgaaGreatDoor

namespace Go.Proofs.YtmlhoagcppofgaaGreatDoor
open Go Go.RowKit Pl
set_option linter.unusedVariables false

def isOpI (o : Int) : Bool := decide (1 ≤ o ∧ o ≤ 48)
def rD (o : Int) : Bool := decide (1 ≤ o ∧ o ≤ 32 ∨ 42 ≤ o ∧ o ≤ 45)
def rA (o : Int) : Bool := decide (1 ≤ o ∧ o ≤ 41 ∨ o = 45)
def rB (o : Int) : Bool := decide (1 ≤ o ∧ o ≤ 18 ∨ 33 ≤ o ∧ o ≤ 41)
/-- the number's form; 0: none; 6: a shift's -/
def formI (o : Int) : Int := if o ≤ 18 then 0 else if o ≤ 24 then 1 else if o ≤ 27 then 6 else if o ≤ 32 then 1 else if o ≤ 35 then 2 else if o ≤ 41 then 3 else if o ≤ 43 then 4 else if o = 44 then 5 else if o ≤ 46 then 1 else 0
/-- the number's form as the layouts have it -/
def formL (o : Int) : Int := if formI o = 6 then 1 else formI o
def lowI (o : Int) : Int := if o ≤ 18 then 51 else if o ≤ 27 then 19 else if o ≤ 32 then 3 else if o ≤ 35 then 35 else if o ≤ 41 then 99 else if o = 42 then 55 else if o = 43 then 23 else if o = 44 then 111 else if o = 45 then 103 else if o = 46 then 15 else if o = 47 then 115 else 1048691
def threeL : List Int := [0, 0, 0, 1, 2, 3, 4, 5, 5, 6, 7, 0, 1, 2, 3, 4, 5, 6, 7, 0, 2, 3, 4, 6, 7, 1, 5, 5, 0, 1, 2, 4, 5, 0, 1, 2, 0, 1, 4, 5, 6, 7, 0, 0, 0, 0, 0, 0, 0]
def threeI (o : Int) : Int := threeL.getD o.toNat 0
def sevenI (o : Int) : Int := if o = 2 ∨ o = 8 ∨ o = 27 then 32 else if 11 ≤ o ∧ o ≤ 18 then 1 else 0
def regOk (n : Int) (has : Bool) : Bool := if has then decide (0 ≤ n ∧ n < 32) else decide (n = 0)
/-- whether a number has a word -/
def putOk (form n : Int) : Bool := decide (1 ≤ form ∧ form ≤ 5 ∧ getS form (putW form (n % 4294967296)) = n)
def putR (form n : Int) : Int := if putOk form n then putW form (n % 4294967296) else 0
def numOk (form n : Int) : Bool := if form = 0 then decide (n = 0) else if form = 6 then decide (0 ≤ n ∧ n < 32) else putOk form n
def numW (form n : Int) : Int := if form = 0 then 0 else if form = 6 then n * 1048576 else putW form (n % 4294967296)
def canI (x : Q5) : Bool := isOpI x.o && regOk x.d (rD x.o) && regOk x.a (rA x.o) && regOk x.b (rB x.o) && numOk (formI x.o) x.i
/-- the word, where there is one -/
def wordI (x : Q5) : Int := lowI x.o + threeI x.o * 4096 + sevenI x.o * 33554432 + x.d * 128 + x.a * 32768 + x.b * 1048576 + numW (formI x.o) x.i
def encI (x : Q5) : Int := if canI x then wordI x else 0
def readsI (x : Q5) : List Int := if canI x then (if rA x.o then [x.a] else []) ++ (if rB x.o then [x.b] else []) else []
def writesI (x : Q5) : Int := if canI x then x.d else 0

/-- the instruction that a word would be, were it of this operation -/
def recI (o w : Int) : Q5 := ⟨o, if rD o then w / 128 % 32 else 0, if rA o then w / 32768 % 32 else 0, if rB o then w / 1048576 % 32 else 0,
  if formI o = 0 then 0 else if formI o = 6 then w / 1048576 % 32 else getS (formI o) w⟩

/-- which operation's word it is; 0: none's -/
def findI (t : Int) (l : List Int) : Int := match l with
  | [] => 0
  | o :: l => if threeI o = t then o else findI t l
def opI (w : Int) : Int :=
  if w % 128 = 51 then (if w / 33554432 = 1 then 11 + w / 4096 % 8 else if w / 33554432 = 0 then findI (w / 4096 % 8) [1, 2, 3, 4, 5, 6, 7, 8, 9, 10] else if w / 33554432 = 32 ∧ w / 4096 % 8 = 0 then 2 else if w / 33554432 = 32 ∧ w / 4096 % 8 = 5 then 8 else 0)
  else if w % 128 = 19 then (if w / 4096 % 8 = 1 ∧ w / 33554432 = 0 then 25 else if w / 4096 % 8 = 5 ∧ w / 33554432 = 0 then 26 else if w / 4096 % 8 = 5 ∧ w / 33554432 = 32 then 27 else findI (w / 4096 % 8) [19, 20, 21, 22, 23, 24])
  else if w % 128 = 3 then findI (w / 4096 % 8) [28, 29, 30, 31, 32]
  else if w % 128 = 35 then findI (w / 4096 % 8) [33, 34, 35]
  else if w % 128 = 99 then findI (w / 4096 % 8) [36, 37, 38, 39, 40, 41]
  else if w % 128 = 55 then 42
  else if w % 128 = 23 then 43
  else if w % 128 = 111 then 44
  else if w % 128 = 103 then findI (w / 4096 % 8) [45]
  else if w % 128 = 15 then (if w % 1048576 = 15 then 46 else 0)
  else if w = 115 then 47
  else if w = 1048691 then 48
  else 0
theorem op48 {o : Int} (h : 1 ≤ o ∧ o ≤ 48) : o = 1 ∨ o = 2 ∨ o = 3 ∨ o = 4 ∨ o = 5 ∨ o = 6 ∨ o = 7 ∨ o = 8 ∨ o = 9 ∨ o = 10 ∨ o = 11 ∨ o = 12 ∨ o = 13 ∨ o = 14 ∨ o = 15 ∨ o = 16 ∨ o = 17 ∨ o = 18 ∨ o = 19 ∨ o = 20 ∨ o = 21 ∨ o = 22 ∨ o = 23 ∨ o = 24 ∨ o = 25 ∨ o = 26 ∨ o = 27 ∨ o = 28 ∨ o = 29 ∨ o = 30 ∨ o = 31 ∨ o = 32 ∨ o = 33 ∨ o = 34 ∨ o = 35 ∨ o = 36 ∨ o = 37 ∨ o = 38 ∨ o = 39 ∨ o = 40 ∨ o = 41 ∨ o = 42 ∨ o = 43 ∨ o = 44 ∨ o = 45 ∨ o = 46 ∨ o = 47 ∨ o = 48 := by omega
theorem findI_cases (t : Int) : ∀ l : List Int, findI t l = 0 ∨ findI t l ∈ l
  | [] => Or.inl rfl
  | o :: l => by
    unfold findI
    split
    · right; simp
    · rcases findI_cases t l with h | h
      · exact Or.inl h
      · right; simp [h]

/-- when the instruction that a word would be has just this word -/
def fitI (o w : Int) : Prop := canI (recI o w) = true ∧ wordI (recI o w) = w
def condI (o w : Int) : Prop := if o ≤ 18 then w % 128 = 51 ∧ w / 4096 % 8 = threeI o ∧ w / 33554432 = sevenI o
  else if o ≤ 24 then w % 128 = 19 ∧ w / 4096 % 8 = threeI o
  else if o ≤ 27 then w % 128 = 19 ∧ w / 4096 % 8 = threeI o ∧ w / 33554432 = sevenI o
  else if o ≤ 41 then w % 128 = lowI o ∧ w / 4096 % 8 = threeI o
  else if o ≤ 44 then w % 128 = lowI o
  else if o = 45 then w % 128 = 103 ∧ w / 4096 % 8 = 0
  else if o = 46 then w % 1048576 = 15
  else w = lowI o
theorem three_bd {o : Int} (h : 1 ≤ o ∧ o ≤ 48) : 0 ≤ threeI o ∧ threeI o < 8 := by
  rcases op48 h with h | h | h | h | h | h | h | h | h | h | h | h | h | h | h | h | h | h | h | h | h | h | h | h | h | h | h | h | h | h | h | h | h | h | h | h | h | h | h | h | h | h | h | h | h | h | h | h <;> subst h <;> decide
theorem reg_mod (x : Int) (b : Bool) : regOk (if b then x % 32 else 0) b = true := by
  cases b <;> simp [regOk]; omega
theorem put_get {form w : Int} (f0 : 1 ≤ form) (f1 : form ≤ 5) (h0 : 0 ≤ w) (h1 : w < 4294967296) : putOk form (getS form w) = true := by
  unfold putOk
  rw [back f0 f1 h0 h1, get_named f0 f1]
  simp [f0, f1]
theorem form_cases (o : Int) : formI o = 0 ∨ formI o = 6 ∨ (1 ≤ formI o ∧ formI o ≤ 5) := by
  unfold formI; (repeat' split) <;> simp
theorem can_rec {o w : Int} (h0 : 0 ≤ w) (h1 : w < 4294967296) (ho : 1 ≤ o ∧ o ≤ 48) : canI (recI o w) = true := by
  have e1 : isOpI o = true := by unfold isOpI; simp; omega
  have e2 : numOk (formI o) (if formI o = 0 then 0 else if formI o = 6 then w / 1048576 % 32 else getS (formI o) w) = true := by
    unfold numOk
    rcases form_cases o with h | h | h
    · rw [h]; simp
    · rw [h]; simp; omega
    · rw [if_neg (by omega), if_neg (by omega), if_neg (by omega), if_neg (by omega)]
      exact put_get h.1 h.2 h0 h1
  unfold canI recI
  simp only [e1, e2, reg_mod, Bool.and_self]
theorem dig_lin {w c A d B t C a D b s : Int} (e1 : c + 128 * A = w) (e2 : d + 32 * B = A) (e3 : t + 8 * C = B) (e4 : a + 32 * D = C) (e5 : b + 32 * s = D) :
    w = c + 128 * d + 4096 * t + 32768 * a + 1048576 * b + 33554432 * s ∧ D = b + 32 * s ∧ B = t + 8 * a + 256 * b + 8192 * s ∧ w - D * 1048576 = c + 128 * d + 4096 * t + 32768 * a := by
  subst e5 e4 e3 e2 e1; refine ⟨?_, rfl, ?_, ?_⟩ <;> omega
/-- a word's parts -/
structure Digs (w c d t a b s : Int) : Prop where
  hc : 0 ≤ c ∧ c < 128
  hd : 0 ≤ d ∧ d < 32
  ht : 0 ≤ t ∧ t < 8
  ha : 0 ≤ a ∧ a < 32
  hb : 0 ≤ b ∧ b < 32
  hs : 0 ≤ s ∧ s < 128
  e : w = c + 128 * d + 4096 * t + 32768 * a + 1048576 * b + 33554432 * s
  ec : w % 128 = c
  ed : w / 128 % 32 = d
  et : w / 4096 % 8 = t
  ea : w / 32768 % 32 = a
  eb : w / 1048576 % 32 = b
  es : w / 33554432 = s
  e20 : w / 1048576 = b + 32 * s
  e12 : w / 4096 = t + 8 * a + 256 * b + 8192 * s
  em : w % 1048576 = c + 128 * d + 4096 * t + 32768 * a
theorem digits {w : Int} (h0 : 0 ≤ w) (h1 : w < 4294967296) : ∃ c d t a b s : Int, Digs w c d t a b s := by
  have e1 := Int.emod_add_mul_ediv w 128
  have e2 := Int.emod_add_mul_ediv (w / 128) 32
  have e3 := Int.emod_add_mul_ediv (w / 4096) 8
  have e4 := Int.emod_add_mul_ediv (w / 32768) 32
  have e5 := Int.emod_add_mul_ediv (w / 1048576) 32
  have f2 : w / 128 / 32 = w / 4096 := by omega
  have f3 : w / 4096 / 8 = w / 32768 := by omega
  have f4 : w / 32768 / 32 = w / 1048576 := by omega
  have f5 : w / 1048576 / 32 = w / 33554432 := by omega
  rw [f2] at e2
  rw [f3] at e3
  rw [f4] at e4
  rw [f5] at e5
  obtain ⟨k1, k2, k3, k4⟩ := dig_lin e1 e2 e3 e4 e5
  have e6 : w % 1048576 = w - w / 1048576 * 1048576 := by omega
  exact ⟨_, _, _, _, _, _, by omega, by omega, by omega, by omega, by omega, by omega, k1, rfl, rfl, rfl, rfl, rfl, rfl, k2, k3, by rw [e6]; exact k4⟩

theorem fit_0 {o w c d t a b s : Int} (h0 : 0 ≤ w) (h1 : w < 4294967296) (hT : 0 ≤ threeI o ∧ threeI o < 8) (D : Digs w c d t a b s) (h : 1 ≤ o ∧ o ≤ 18) : wordI (recI o w) = w ↔ condI o w := by
  have r1 : rD o = true := by unfold rD; simp; omega
  have r2 : rA o = true := by unfold rA; simp; omega
  have r3 : rB o = true := by unfold rB; simp; omega
  have f : formI o = 0 := by unfold formI; rw [if_pos (by omega)]
  have l : lowI o = 51 := by unfold lowI; rw [if_pos (by omega)]
  have s0 : 0 ≤ sevenI o ∧ sevenI o < 128 := by unfold sevenI; (repeat' split) <;> omega
  have k : condI o w ↔ (w % 128 = 51 ∧ w / 4096 % 8 = threeI o ∧ w / 33554432 = sevenI o) := by unfold condI; rw [if_pos (by omega)]
  rw [k]
  unfold wordI recI numW
  simp only [r1, r2, r3, f, l, if_true, if_false, Int.reduceEq, D.ec, D.ed, D.ea, D.es, D.e20, D.e12]
  obtain ⟨q1, q2, q3, q4, q5, q6, e, _, _, _, _, _, _, _, _, _⟩ := D
  clear k r1 r2 r3 f l
  omega
theorem fit_1 {o w c d t a b s : Int} (h0 : 0 ≤ w) (h1 : w < 4294967296) (hT : 0 ≤ threeI o ∧ threeI o < 8) (D : Digs w c d t a b s) (h : 19 ≤ o ∧ o ≤ 24) : wordI (recI o w) = w ↔ condI o w := by
  have r1 : rD o = true := by unfold rD; simp; omega
  have r2 : rA o = true := by unfold rA; simp; omega
  have r3 : rB o = false := by unfold rB; simp; omega
  have f : formI o = 1 := by unfold formI; rw [if_neg (by omega), if_pos (by omega)]
  have l : lowI o = 19 := by unfold lowI; rw [if_neg (by omega), if_pos (by omega)]
  have s0 : sevenI o = 0 := by unfold sevenI; rw [if_neg (by omega), if_neg (by omega)]
  have k : condI o w ↔ (w % 128 = 19 ∧ w / 4096 % 8 = threeI o) := by unfold condI; rw [if_neg (by omega), if_pos (by omega)]
  rw [k]
  unfold wordI recI numW
  have BK := back1 h0 h1
  simp only [r1, r2, r3, f, l, s0, if_true, if_false, Bool.false_eq_true, Int.reduceEq, BK, D.ec, D.ed, D.ea, D.e20, D.e12]
  obtain ⟨q1, q2, q3, q4, q5, q6, e, _, _, _, _, _, _, _, _, _⟩ := D
  clear BK k r1 r2 r3 f l
  omega
theorem fit_2 {o w c d t a b s : Int} (h0 : 0 ≤ w) (h1 : w < 4294967296) (hT : 0 ≤ threeI o ∧ threeI o < 8) (D : Digs w c d t a b s) (h : 25 ≤ o ∧ o ≤ 27) : wordI (recI o w) = w ↔ condI o w := by
  have r1 : rD o = true := by unfold rD; simp; omega
  have r2 : rA o = true := by unfold rA; simp; omega
  have r3 : rB o = false := by unfold rB; simp; omega
  have f : formI o = 6 := by unfold formI; rw [if_neg (by omega), if_neg (by omega), if_pos (by omega)]
  have l : lowI o = 19 := by unfold lowI; rw [if_neg (by omega), if_pos (by omega)]
  have s0 : 0 ≤ sevenI o ∧ sevenI o < 128 := by unfold sevenI; (repeat' split) <;> omega
  have k : condI o w ↔ (w % 128 = 19 ∧ w / 4096 % 8 = threeI o ∧ w / 33554432 = sevenI o) := by unfold condI; rw [if_neg (by omega), if_neg (by omega), if_pos (by omega)]
  rw [k]
  unfold wordI recI numW
  simp only [r1, r2, r3, f, l, if_true, if_false, Bool.false_eq_true, Int.reduceEq, D.ec, D.ed, D.ea, D.es, D.e20, D.e12]
  obtain ⟨q1, q2, q3, q4, q5, q6, e, _, _, _, _, _, _, _, _, _⟩ := D
  clear k r1 r2 r3 f l
  omega
theorem fit_3 {o w c d t a b s : Int} (h0 : 0 ≤ w) (h1 : w < 4294967296) (hT : 0 ≤ threeI o ∧ threeI o < 8) (D : Digs w c d t a b s) (h : 28 ≤ o ∧ o ≤ 32) : wordI (recI o w) = w ↔ condI o w := by
  have r1 : rD o = true := by unfold rD; simp; omega
  have r2 : rA o = true := by unfold rA; simp; omega
  have r3 : rB o = false := by unfold rB; simp; omega
  have f : formI o = 1 := by unfold formI; rw [if_neg (by omega), if_neg (by omega), if_neg (by omega), if_pos (by omega)]
  have l : lowI o = 3 := by unfold lowI; rw [if_neg (by omega), if_neg (by omega), if_pos (by omega)]
  have s0 : sevenI o = 0 := by unfold sevenI; rw [if_neg (by omega), if_neg (by omega)]
  have k : condI o w ↔ (w % 128 = lowI o ∧ w / 4096 % 8 = threeI o) := by unfold condI; rw [if_neg (by omega), if_neg (by omega), if_neg (by omega), if_pos (by omega)]
  rw [k]
  unfold wordI recI numW
  have BK := back1 h0 h1
  simp only [r1, r2, r3, f, l, s0, if_true, if_false, Bool.false_eq_true, Int.reduceEq, BK, D.ec, D.ed, D.ea, D.e20, D.e12]
  obtain ⟨q1, q2, q3, q4, q5, q6, e, _, _, _, _, _, _, _, _, _⟩ := D
  clear BK k r1 r2 r3 f l
  omega
theorem fit_4 {o w c d t a b s : Int} (h0 : 0 ≤ w) (h1 : w < 4294967296) (hT : 0 ≤ threeI o ∧ threeI o < 8) (D : Digs w c d t a b s) (h : 33 ≤ o ∧ o ≤ 35) : wordI (recI o w) = w ↔ condI o w := by
  have r1 : rD o = false := by unfold rD; simp; omega
  have r2 : rA o = true := by unfold rA; simp; omega
  have r3 : rB o = true := by unfold rB; simp; omega
  have f : formI o = 2 := by unfold formI; rw [if_neg (by omega), if_neg (by omega), if_neg (by omega), if_neg (by omega), if_pos (by omega)]
  have l : lowI o = 35 := by unfold lowI; rw [if_neg (by omega), if_neg (by omega), if_neg (by omega), if_pos (by omega)]
  have s0 : sevenI o = 0 := by unfold sevenI; rw [if_neg (by omega), if_neg (by omega)]
  have k : condI o w ↔ (w % 128 = lowI o ∧ w / 4096 % 8 = threeI o) := by unfold condI; rw [if_neg (by omega), if_neg (by omega), if_neg (by omega), if_pos (by omega)]
  rw [k]
  unfold wordI recI numW
  have BK := back2 h0 h1
  simp only [r1, r2, r3, f, l, s0, if_true, if_false, Bool.false_eq_true, Int.reduceEq, BK, D.ec, D.ed, D.ea, D.es, D.e20, D.e12]
  obtain ⟨q1, q2, q3, q4, q5, q6, e, _, _, _, _, _, _, _, _, _⟩ := D
  clear BK k r1 r2 r3 f l
  omega
theorem fit_5 {o w c d t a b s : Int} (h0 : 0 ≤ w) (h1 : w < 4294967296) (hT : 0 ≤ threeI o ∧ threeI o < 8) (D : Digs w c d t a b s) (h : 36 ≤ o ∧ o ≤ 41) : wordI (recI o w) = w ↔ condI o w := by
  have r1 : rD o = false := by unfold rD; simp; omega
  have r2 : rA o = true := by unfold rA; simp; omega
  have r3 : rB o = true := by unfold rB; simp; omega
  have f : formI o = 3 := by unfold formI; rw [if_neg (by omega), if_neg (by omega), if_neg (by omega), if_neg (by omega), if_neg (by omega), if_pos (by omega)]
  have l : lowI o = 99 := by unfold lowI; rw [if_neg (by omega), if_neg (by omega), if_neg (by omega), if_neg (by omega), if_pos (by omega)]
  have s0 : sevenI o = 0 := by unfold sevenI; rw [if_neg (by omega), if_neg (by omega)]
  have k : condI o w ↔ (w % 128 = lowI o ∧ w / 4096 % 8 = threeI o) := by unfold condI; rw [if_neg (by omega), if_neg (by omega), if_neg (by omega), if_pos (by omega)]
  rw [k]
  unfold wordI recI numW
  have BK := back3 h0 h1
  simp only [r1, r2, r3, f, l, s0, if_true, if_false, Bool.false_eq_true, Int.reduceEq, BK, D.ec, D.ed, D.ea, D.es, D.e20, D.e12]
  obtain ⟨q1, q2, q3, q4, q5, q6, e, _, _, _, _, _, _, _, _, _⟩ := D
  clear BK k r1 r2 r3 f l
  omega
theorem fit_6 {o w c d t a b s : Int} (h0 : 0 ≤ w) (h1 : w < 4294967296) (hT : 0 ≤ threeI o ∧ threeI o < 8) (D : Digs w c d t a b s) (h : o = 42) : wordI (recI o w) = w ↔ condI o w := by
  have r1 : rD o = true := by unfold rD; simp; omega
  have r2 : rA o = false := by unfold rA; simp; omega
  have r3 : rB o = false := by unfold rB; simp; omega
  have f : formI o = 4 := by unfold formI; rw [if_neg (by omega), if_neg (by omega), if_neg (by omega), if_neg (by omega), if_neg (by omega), if_neg (by omega), if_pos (by omega)]
  have l : lowI o = 55 := by unfold lowI; rw [if_neg (by omega), if_neg (by omega), if_neg (by omega), if_neg (by omega), if_neg (by omega), if_pos (by omega)]
  have s0 : sevenI o = 0 := by unfold sevenI; rw [if_neg (by omega), if_neg (by omega)]
  have th : threeI o = 0 := by subst h; rfl
  have k : condI o w ↔ (w % 128 = lowI o) := by unfold condI; rw [if_neg (by omega), if_neg (by omega), if_neg (by omega), if_neg (by omega), if_pos (by omega)]
  rw [k]
  unfold wordI recI numW
  have BK := back4 h0 h1
  simp only [r1, r2, r3, f, l, s0, th, if_true, if_false, Bool.false_eq_true, Int.reduceEq, BK, D.ec, D.ed, D.ea, D.e20, D.e12]
  obtain ⟨q1, q2, q3, q4, q5, q6, e, _, _, _, _, _, _, _, _, _⟩ := D
  clear BK k r1 r2 r3 f l
  omega
theorem fit_7 {o w c d t a b s : Int} (h0 : 0 ≤ w) (h1 : w < 4294967296) (hT : 0 ≤ threeI o ∧ threeI o < 8) (D : Digs w c d t a b s) (h : o = 43) : wordI (recI o w) = w ↔ condI o w := by
  have r1 : rD o = true := by unfold rD; simp; omega
  have r2 : rA o = false := by unfold rA; simp; omega
  have r3 : rB o = false := by unfold rB; simp; omega
  have f : formI o = 4 := by unfold formI; rw [if_neg (by omega), if_neg (by omega), if_neg (by omega), if_neg (by omega), if_neg (by omega), if_neg (by omega), if_pos (by omega)]
  have l : lowI o = 23 := by unfold lowI; rw [if_neg (by omega), if_neg (by omega), if_neg (by omega), if_neg (by omega), if_neg (by omega), if_neg (by omega), if_pos (by omega)]
  have s0 : sevenI o = 0 := by unfold sevenI; rw [if_neg (by omega), if_neg (by omega)]
  have th : threeI o = 0 := by subst h; rfl
  have k : condI o w ↔ (w % 128 = lowI o) := by unfold condI; rw [if_neg (by omega), if_neg (by omega), if_neg (by omega), if_neg (by omega), if_pos (by omega)]
  rw [k]
  unfold wordI recI numW
  have BK := back4 h0 h1
  simp only [r1, r2, r3, f, l, s0, th, if_true, if_false, Bool.false_eq_true, Int.reduceEq, BK, D.ec, D.ed, D.ea, D.e20, D.e12]
  obtain ⟨q1, q2, q3, q4, q5, q6, e, _, _, _, _, _, _, _, _, _⟩ := D
  clear BK k r1 r2 r3 f l
  omega
theorem fit_8 {o w c d t a b s : Int} (h0 : 0 ≤ w) (h1 : w < 4294967296) (hT : 0 ≤ threeI o ∧ threeI o < 8) (D : Digs w c d t a b s) (h : o = 44) : wordI (recI o w) = w ↔ condI o w := by
  have r1 : rD o = true := by unfold rD; simp; omega
  have r2 : rA o = false := by unfold rA; simp; omega
  have r3 : rB o = false := by unfold rB; simp; omega
  have f : formI o = 5 := by unfold formI; rw [if_neg (by omega), if_neg (by omega), if_neg (by omega), if_neg (by omega), if_neg (by omega), if_neg (by omega), if_neg (by omega), if_pos (by omega)]
  have l : lowI o = 111 := by unfold lowI; rw [if_neg (by omega), if_neg (by omega), if_neg (by omega), if_neg (by omega), if_neg (by omega), if_neg (by omega), if_neg (by omega), if_pos (by omega)]
  have s0 : sevenI o = 0 := by unfold sevenI; rw [if_neg (by omega), if_neg (by omega)]
  have th : threeI o = 0 := by subst h; rfl
  have k : condI o w ↔ (w % 128 = lowI o) := by unfold condI; rw [if_neg (by omega), if_neg (by omega), if_neg (by omega), if_neg (by omega), if_pos (by omega)]
  rw [k]
  unfold wordI recI numW
  have BK := back5 h0 h1
  simp only [r1, r2, r3, f, l, s0, th, if_true, if_false, Bool.false_eq_true, Int.reduceEq, BK, D.ec, D.ed, D.ea, D.e20, D.e12]
  obtain ⟨q1, q2, q3, q4, q5, q6, e, _, _, _, _, _, _, _, _, _⟩ := D
  clear BK k r1 r2 r3 f l
  omega
theorem fit_9 {o w c d t a b s : Int} (h0 : 0 ≤ w) (h1 : w < 4294967296) (hT : 0 ≤ threeI o ∧ threeI o < 8) (D : Digs w c d t a b s) (h : o = 45) : wordI (recI o w) = w ↔ condI o w := by
  have r1 : rD o = true := by unfold rD; simp; omega
  have r2 : rA o = true := by unfold rA; simp; omega
  have r3 : rB o = false := by unfold rB; simp; omega
  have f : formI o = 1 := by unfold formI; rw [if_neg (by omega), if_neg (by omega), if_neg (by omega), if_neg (by omega), if_neg (by omega), if_neg (by omega), if_neg (by omega), if_neg (by omega), if_pos (by omega)]
  have l : lowI o = 103 := by unfold lowI; rw [if_neg (by omega), if_neg (by omega), if_neg (by omega), if_neg (by omega), if_neg (by omega), if_neg (by omega), if_neg (by omega), if_neg (by omega), if_pos (by omega)]
  have s0 : sevenI o = 0 := by unfold sevenI; rw [if_neg (by omega), if_neg (by omega)]
  have th : threeI o = 0 := by subst h; rfl
  have k : condI o w ↔ (w % 128 = 103 ∧ w / 4096 % 8 = 0) := by unfold condI; rw [if_neg (by omega), if_neg (by omega), if_neg (by omega), if_neg (by omega), if_neg (by omega), if_pos (by omega)]
  rw [k]
  unfold wordI recI numW
  have BK := back1 h0 h1
  simp only [r1, r2, r3, f, l, s0, th, if_true, if_false, Bool.false_eq_true, Int.reduceEq, BK, D.ec, D.ed, D.ea, D.e20, D.e12]
  obtain ⟨q1, q2, q3, q4, q5, q6, e, _, _, _, _, _, _, _, _, _⟩ := D
  clear BK k r1 r2 r3 f l
  omega
theorem fit_10 {o w c d t a b s : Int} (h0 : 0 ≤ w) (h1 : w < 4294967296) (hT : 0 ≤ threeI o ∧ threeI o < 8) (D : Digs w c d t a b s) (h : o = 46) : wordI (recI o w) = w ↔ condI o w := by
  have r1 : rD o = false := by unfold rD; simp; omega
  have r2 : rA o = false := by unfold rA; simp; omega
  have r3 : rB o = false := by unfold rB; simp; omega
  have f : formI o = 1 := by unfold formI; rw [if_neg (by omega), if_neg (by omega), if_neg (by omega), if_neg (by omega), if_neg (by omega), if_neg (by omega), if_neg (by omega), if_neg (by omega), if_pos (by omega)]
  have l : lowI o = 15 := by unfold lowI; rw [if_neg (by omega), if_neg (by omega), if_neg (by omega), if_neg (by omega), if_neg (by omega), if_neg (by omega), if_neg (by omega), if_neg (by omega), if_neg (by omega), if_pos (by omega)]
  have s0 : sevenI o = 0 := by unfold sevenI; rw [if_neg (by omega), if_neg (by omega)]
  have th : threeI o = 0 := by subst h; rfl
  have k : condI o w ↔ (w % 1048576 = 15) := by unfold condI; rw [if_neg (by omega), if_neg (by omega), if_neg (by omega), if_neg (by omega), if_neg (by omega), if_neg (by omega), if_pos (by omega)]
  rw [k]
  unfold wordI recI numW
  have BK := back1 h0 h1
  simp only [r1, r2, r3, f, l, s0, th, if_false, Bool.false_eq_true, Int.reduceEq, BK, D.ed, D.ea, D.e20, D.em]
  obtain ⟨q1, q2, q3, q4, q5, q6, e, _, _, _, _, _, _, _, _, _⟩ := D
  clear BK k r1 r2 r3 f l
  omega
theorem fit_11 {o w c d t a b s : Int} (h0 : 0 ≤ w) (h1 : w < 4294967296) (hT : 0 ≤ threeI o ∧ threeI o < 8) (D : Digs w c d t a b s) (h : o = 47) : wordI (recI o w) = w ↔ condI o w := by
  have r1 : rD o = false := by unfold rD; simp; omega
  have r2 : rA o = false := by unfold rA; simp; omega
  have r3 : rB o = false := by unfold rB; simp; omega
  have f : formI o = 0 := by unfold formI; rw [if_neg (by omega), if_neg (by omega), if_neg (by omega), if_neg (by omega), if_neg (by omega), if_neg (by omega), if_neg (by omega), if_neg (by omega), if_neg (by omega)]
  have l : lowI o = 115 := by unfold lowI; rw [if_neg (by omega), if_neg (by omega), if_neg (by omega), if_neg (by omega), if_neg (by omega), if_neg (by omega), if_neg (by omega), if_neg (by omega), if_neg (by omega), if_neg (by omega), if_pos (by omega)]
  have s0 : sevenI o = 0 := by unfold sevenI; rw [if_neg (by omega), if_neg (by omega)]
  have th : threeI o = 0 := by subst h; rfl
  have k : condI o w ↔ (w = lowI o) := by unfold condI; rw [if_neg (by omega), if_neg (by omega), if_neg (by omega), if_neg (by omega), if_neg (by omega), if_neg (by omega), if_neg (by omega)]
  rw [k]
  unfold wordI recI numW
  simp only [r1, r2, r3, f, l, s0, th, if_true, if_false, Bool.false_eq_true, Int.reduceEq, D.ed, D.ea, D.e20]
  obtain ⟨q1, q2, q3, q4, q5, q6, e, _, _, _, _, _, _, _, _, _⟩ := D
  clear k r1 r2 r3 f l
  omega
theorem fit_12 {o w c d t a b s : Int} (h0 : 0 ≤ w) (h1 : w < 4294967296) (hT : 0 ≤ threeI o ∧ threeI o < 8) (D : Digs w c d t a b s) (h : o = 48) : wordI (recI o w) = w ↔ condI o w := by
  have r1 : rD o = false := by unfold rD; simp; omega
  have r2 : rA o = false := by unfold rA; simp; omega
  have r3 : rB o = false := by unfold rB; simp; omega
  have f : formI o = 0 := by unfold formI; rw [if_neg (by omega), if_neg (by omega), if_neg (by omega), if_neg (by omega), if_neg (by omega), if_neg (by omega), if_neg (by omega), if_neg (by omega), if_neg (by omega)]
  have l : lowI o = 1048691 := by unfold lowI; rw [if_neg (by omega), if_neg (by omega), if_neg (by omega), if_neg (by omega), if_neg (by omega), if_neg (by omega), if_neg (by omega), if_neg (by omega), if_neg (by omega), if_neg (by omega), if_neg (by omega)]
  have s0 : sevenI o = 0 := by unfold sevenI; rw [if_neg (by omega), if_neg (by omega)]
  have th : threeI o = 0 := by subst h; rfl
  have k : condI o w ↔ (w = lowI o) := by unfold condI; rw [if_neg (by omega), if_neg (by omega), if_neg (by omega), if_neg (by omega), if_neg (by omega), if_neg (by omega), if_neg (by omega)]
  rw [k]
  unfold wordI recI numW
  simp only [r1, r2, r3, f, l, s0, th, if_true, if_false, Bool.false_eq_true, Int.reduceEq, D.ed, D.ea, D.e20]
  obtain ⟨q1, q2, q3, q4, q5, q6, e, _, _, _, _, _, _, _, _, _⟩ := D
  clear k r1 r2 r3 f l
  omega
theorem fit_cond {o w : Int} (h0 : 0 ≤ w) (h1 : w < 4294967296) (ho : 1 ≤ o ∧ o ≤ 48) : wordI (recI o w) = w ↔ condI o w := by
  have hT := three_bd ho
  obtain ⟨c, d, t, a, b, s, D⟩ := digits h0 h1
  have cs : (1 ≤ o ∧ o ≤ 18) ∨ (19 ≤ o ∧ o ≤ 24) ∨ (25 ≤ o ∧ o ≤ 27) ∨ (28 ≤ o ∧ o ≤ 32) ∨ (33 ≤ o ∧ o ≤ 35) ∨ (36 ≤ o ∧ o ≤ 41) ∨ (o = 42) ∨ (o = 43) ∨ (o = 44) ∨ (o = 45) ∨ (o = 46) ∨ (o = 47) ∨ (o = 48) := by omega
  rcases cs with cc | cc | cc | cc | cc | cc | cc | cc | cc | cc | cc | cc | cc
  · exact fit_0 h0 h1 hT D cc
  · exact fit_1 h0 h1 hT D cc
  · exact fit_2 h0 h1 hT D cc
  · exact fit_3 h0 h1 hT D cc
  · exact fit_4 h0 h1 hT D cc
  · exact fit_5 h0 h1 hT D cc
  · exact fit_6 h0 h1 hT D cc
  · exact fit_7 h0 h1 hT D cc
  · exact fit_8 h0 h1 hT D cc
  · exact fit_9 h0 h1 hT D cc
  · exact fit_10 h0 h1 hT D cc
  · exact fit_11 h0 h1 hT D cc
  · exact fit_12 h0 h1 hT D cc
theorem findI_spec {t o : Int} (ho : o ≠ 0) : ∀ {l : List Int}, findI t l = o → threeI o = t ∧ o ∈ l
  | [], h => absurd h.symm ho
  | p :: l, h => by
    unfold findI at h
    split at h
    · subst h; rename_i g; exact ⟨g, by simp⟩
    · obtain ⟨a, b⟩ := findI_spec ho h; exact ⟨a, by simp [b]⟩
theorem cond_is1 {w : Int} : condI 1 w ↔ (w % 128 = 51 ∧ w / 4096 % 8 = 0 ∧ w / 33554432 = 0) := Iff.rfl
theorem cond_is2 {w : Int} : condI 2 w ↔ (w % 128 = 51 ∧ w / 4096 % 8 = 0 ∧ w / 33554432 = 32) := Iff.rfl
theorem cond_is3 {w : Int} : condI 3 w ↔ (w % 128 = 51 ∧ w / 4096 % 8 = 1 ∧ w / 33554432 = 0) := Iff.rfl
theorem cond_is4 {w : Int} : condI 4 w ↔ (w % 128 = 51 ∧ w / 4096 % 8 = 2 ∧ w / 33554432 = 0) := Iff.rfl
theorem cond_is5 {w : Int} : condI 5 w ↔ (w % 128 = 51 ∧ w / 4096 % 8 = 3 ∧ w / 33554432 = 0) := Iff.rfl
theorem cond_is6 {w : Int} : condI 6 w ↔ (w % 128 = 51 ∧ w / 4096 % 8 = 4 ∧ w / 33554432 = 0) := Iff.rfl
theorem cond_is7 {w : Int} : condI 7 w ↔ (w % 128 = 51 ∧ w / 4096 % 8 = 5 ∧ w / 33554432 = 0) := Iff.rfl
theorem cond_is8 {w : Int} : condI 8 w ↔ (w % 128 = 51 ∧ w / 4096 % 8 = 5 ∧ w / 33554432 = 32) := Iff.rfl
theorem cond_is9 {w : Int} : condI 9 w ↔ (w % 128 = 51 ∧ w / 4096 % 8 = 6 ∧ w / 33554432 = 0) := Iff.rfl
theorem cond_is10 {w : Int} : condI 10 w ↔ (w % 128 = 51 ∧ w / 4096 % 8 = 7 ∧ w / 33554432 = 0) := Iff.rfl
theorem cond_is11 {w : Int} : condI 11 w ↔ (w % 128 = 51 ∧ w / 4096 % 8 = 0 ∧ w / 33554432 = 1) := Iff.rfl
theorem cond_is12 {w : Int} : condI 12 w ↔ (w % 128 = 51 ∧ w / 4096 % 8 = 1 ∧ w / 33554432 = 1) := Iff.rfl
theorem cond_is13 {w : Int} : condI 13 w ↔ (w % 128 = 51 ∧ w / 4096 % 8 = 2 ∧ w / 33554432 = 1) := Iff.rfl
theorem cond_is14 {w : Int} : condI 14 w ↔ (w % 128 = 51 ∧ w / 4096 % 8 = 3 ∧ w / 33554432 = 1) := Iff.rfl
theorem cond_is15 {w : Int} : condI 15 w ↔ (w % 128 = 51 ∧ w / 4096 % 8 = 4 ∧ w / 33554432 = 1) := Iff.rfl
theorem cond_is16 {w : Int} : condI 16 w ↔ (w % 128 = 51 ∧ w / 4096 % 8 = 5 ∧ w / 33554432 = 1) := Iff.rfl
theorem cond_is17 {w : Int} : condI 17 w ↔ (w % 128 = 51 ∧ w / 4096 % 8 = 6 ∧ w / 33554432 = 1) := Iff.rfl
theorem cond_is18 {w : Int} : condI 18 w ↔ (w % 128 = 51 ∧ w / 4096 % 8 = 7 ∧ w / 33554432 = 1) := Iff.rfl
theorem cond_is19 {w : Int} : condI 19 w ↔ (w % 128 = 19 ∧ w / 4096 % 8 = 0) := Iff.rfl
theorem cond_is20 {w : Int} : condI 20 w ↔ (w % 128 = 19 ∧ w / 4096 % 8 = 2) := Iff.rfl
theorem cond_is21 {w : Int} : condI 21 w ↔ (w % 128 = 19 ∧ w / 4096 % 8 = 3) := Iff.rfl
theorem cond_is22 {w : Int} : condI 22 w ↔ (w % 128 = 19 ∧ w / 4096 % 8 = 4) := Iff.rfl
theorem cond_is23 {w : Int} : condI 23 w ↔ (w % 128 = 19 ∧ w / 4096 % 8 = 6) := Iff.rfl
theorem cond_is24 {w : Int} : condI 24 w ↔ (w % 128 = 19 ∧ w / 4096 % 8 = 7) := Iff.rfl
theorem cond_is25 {w : Int} : condI 25 w ↔ (w % 128 = 19 ∧ w / 4096 % 8 = 1 ∧ w / 33554432 = 0) := Iff.rfl
theorem cond_is26 {w : Int} : condI 26 w ↔ (w % 128 = 19 ∧ w / 4096 % 8 = 5 ∧ w / 33554432 = 0) := Iff.rfl
theorem cond_is27 {w : Int} : condI 27 w ↔ (w % 128 = 19 ∧ w / 4096 % 8 = 5 ∧ w / 33554432 = 32) := Iff.rfl
theorem cond_is28 {w : Int} : condI 28 w ↔ (w % 128 = 3 ∧ w / 4096 % 8 = 0) := Iff.rfl
theorem cond_is29 {w : Int} : condI 29 w ↔ (w % 128 = 3 ∧ w / 4096 % 8 = 1) := Iff.rfl
theorem cond_is30 {w : Int} : condI 30 w ↔ (w % 128 = 3 ∧ w / 4096 % 8 = 2) := Iff.rfl
theorem cond_is31 {w : Int} : condI 31 w ↔ (w % 128 = 3 ∧ w / 4096 % 8 = 4) := Iff.rfl
theorem cond_is32 {w : Int} : condI 32 w ↔ (w % 128 = 3 ∧ w / 4096 % 8 = 5) := Iff.rfl
theorem cond_is33 {w : Int} : condI 33 w ↔ (w % 128 = 35 ∧ w / 4096 % 8 = 0) := Iff.rfl
theorem cond_is34 {w : Int} : condI 34 w ↔ (w % 128 = 35 ∧ w / 4096 % 8 = 1) := Iff.rfl
theorem cond_is35 {w : Int} : condI 35 w ↔ (w % 128 = 35 ∧ w / 4096 % 8 = 2) := Iff.rfl
theorem cond_is36 {w : Int} : condI 36 w ↔ (w % 128 = 99 ∧ w / 4096 % 8 = 0) := Iff.rfl
theorem cond_is37 {w : Int} : condI 37 w ↔ (w % 128 = 99 ∧ w / 4096 % 8 = 1) := Iff.rfl
theorem cond_is38 {w : Int} : condI 38 w ↔ (w % 128 = 99 ∧ w / 4096 % 8 = 4) := Iff.rfl
theorem cond_is39 {w : Int} : condI 39 w ↔ (w % 128 = 99 ∧ w / 4096 % 8 = 5) := Iff.rfl
theorem cond_is40 {w : Int} : condI 40 w ↔ (w % 128 = 99 ∧ w / 4096 % 8 = 6) := Iff.rfl
theorem cond_is41 {w : Int} : condI 41 w ↔ (w % 128 = 99 ∧ w / 4096 % 8 = 7) := Iff.rfl
theorem cond_is42 {w : Int} : condI 42 w ↔ (w % 128 = 55) := Iff.rfl
theorem cond_is43 {w : Int} : condI 43 w ↔ (w % 128 = 23) := Iff.rfl
theorem cond_is44 {w : Int} : condI 44 w ↔ (w % 128 = 111) := Iff.rfl
theorem cond_is45 {w : Int} : condI 45 w ↔ (w % 128 = 103 ∧ w / 4096 % 8 = 0) := Iff.rfl
theorem cond_is46 {w : Int} : condI 46 w ↔ (w % 1048576 = 15) := Iff.rfl
theorem cond_is47 {w : Int} : condI 47 w ↔ (w = 115) := Iff.rfl
theorem cond_is48 {w : Int} : condI 48 w ↔ (w = 1048691) := Iff.rfl
theorem cond_op {o w : Int} (h0 : 0 ≤ w) (h1 : w < 4294967296) (ho : 1 ≤ o ∧ o ≤ 48) (h : condI o w) : opI w = o := by
  rcases op48 ho with rfl | rfl | rfl | rfl | rfl | rfl | rfl | rfl | rfl | rfl | rfl | rfl | rfl | rfl | rfl | rfl | rfl | rfl | rfl | rfl | rfl | rfl | rfl | rfl | rfl | rfl | rfl | rfl | rfl | rfl | rfl | rfl | rfl | rfl | rfl | rfl | rfl | rfl | rfl | rfl | rfl | rfl | rfl | rfl | rfl | rfl | rfl | rfl
  · obtain ⟨a, b, c⟩ := cond_is1.1 h; unfold opI; simp only [a, b, c, Int.reduceEq, reduceIte, and_true, and_false]; try rfl
  · obtain ⟨a, b, c⟩ := cond_is2.1 h; unfold opI; simp only [a, b, c, Int.reduceEq, reduceIte, and_true, and_false]; try rfl
  · obtain ⟨a, b, c⟩ := cond_is3.1 h; unfold opI; simp only [a, b, c, Int.reduceEq, reduceIte, and_true, and_false]; try rfl
  · obtain ⟨a, b, c⟩ := cond_is4.1 h; unfold opI; simp only [a, b, c, Int.reduceEq, reduceIte, and_true, and_false]; try rfl
  · obtain ⟨a, b, c⟩ := cond_is5.1 h; unfold opI; simp only [a, b, c, Int.reduceEq, reduceIte, and_true, and_false]; try rfl
  · obtain ⟨a, b, c⟩ := cond_is6.1 h; unfold opI; simp only [a, b, c, Int.reduceEq, reduceIte, and_true, and_false]; try rfl
  · obtain ⟨a, b, c⟩ := cond_is7.1 h; unfold opI; simp only [a, b, c, Int.reduceEq, reduceIte, and_true, and_false]; try rfl
  · obtain ⟨a, b, c⟩ := cond_is8.1 h; unfold opI; simp only [a, b, c, Int.reduceEq, reduceIte, and_true, and_false]; try rfl
  · obtain ⟨a, b, c⟩ := cond_is9.1 h; unfold opI; simp only [a, b, c, Int.reduceEq, reduceIte, and_true, and_false]; try rfl
  · obtain ⟨a, b, c⟩ := cond_is10.1 h; unfold opI; simp only [a, b, c, Int.reduceEq, reduceIte, and_true, and_false]; try rfl
  · obtain ⟨a, b, c⟩ := cond_is11.1 h; unfold opI; simp only [a, b, c, Int.reduceEq, reduceIte, and_true, and_false]; try rfl
  · obtain ⟨a, b, c⟩ := cond_is12.1 h; unfold opI; simp only [a, b, c, Int.reduceEq, reduceIte, and_false]; try rfl
  · obtain ⟨a, b, c⟩ := cond_is13.1 h; unfold opI; simp only [a, b, c, Int.reduceEq, reduceIte, and_false]; try rfl
  · obtain ⟨a, b, c⟩ := cond_is14.1 h; unfold opI; simp only [a, b, c, Int.reduceEq, reduceIte, and_false]; try rfl
  · obtain ⟨a, b, c⟩ := cond_is15.1 h; unfold opI; simp only [a, b, c, Int.reduceEq, reduceIte, and_false]; try rfl
  · obtain ⟨a, b, c⟩ := cond_is16.1 h; unfold opI; simp only [a, b, c, Int.reduceEq, reduceIte, and_true, and_false]; try rfl
  · obtain ⟨a, b, c⟩ := cond_is17.1 h; unfold opI; simp only [a, b, c, Int.reduceEq, reduceIte, and_false]; try rfl
  · obtain ⟨a, b, c⟩ := cond_is18.1 h; unfold opI; simp only [a, b, c, Int.reduceEq, reduceIte, and_false]; try rfl
  · obtain ⟨a, b⟩ := cond_is19.1 h; unfold opI; simp only [a, b, Int.reduceEq, reduceIte, and_true, and_false, false_and]; try rfl
  · obtain ⟨a, b⟩ := cond_is20.1 h; unfold opI; simp only [a, b, Int.reduceEq, reduceIte, and_false, false_and]; try rfl
  · obtain ⟨a, b⟩ := cond_is21.1 h; unfold opI; simp only [a, b, Int.reduceEq, reduceIte, and_false, false_and]; try rfl
  · obtain ⟨a, b⟩ := cond_is22.1 h; unfold opI; simp only [a, b, Int.reduceEq, reduceIte, and_false, false_and]; try rfl
  · obtain ⟨a, b⟩ := cond_is23.1 h; unfold opI; simp only [a, b, Int.reduceEq, reduceIte, and_false, false_and]; try rfl
  · obtain ⟨a, b⟩ := cond_is24.1 h; unfold opI; simp only [a, b, Int.reduceEq, reduceIte, and_false, false_and]; try rfl
  · obtain ⟨a, b, c⟩ := cond_is25.1 h; unfold opI; simp only [a, b, c, Int.reduceEq, reduceIte, and_true, and_false]; try rfl
  · obtain ⟨a, b, c⟩ := cond_is26.1 h; unfold opI; simp only [a, b, c, Int.reduceEq, reduceIte, and_true, and_false]; try rfl
  · obtain ⟨a, b, c⟩ := cond_is27.1 h; unfold opI; simp only [a, b, c, Int.reduceEq, reduceIte, and_true, and_false]; try rfl
  · obtain ⟨a, b⟩ := cond_is28.1 h; unfold opI; simp only [a, b, Int.reduceEq, reduceIte, and_true, and_false, false_and]; try rfl
  · obtain ⟨a, b⟩ := cond_is29.1 h; unfold opI; simp only [a, b, Int.reduceEq, reduceIte, and_false, true_and, false_and]; try rfl
  · obtain ⟨a, b⟩ := cond_is30.1 h; unfold opI; simp only [a, b, Int.reduceEq, reduceIte, and_false, false_and]; try rfl
  · obtain ⟨a, b⟩ := cond_is31.1 h; unfold opI; simp only [a, b, Int.reduceEq, reduceIte, and_false, false_and]; try rfl
  · obtain ⟨a, b⟩ := cond_is32.1 h; unfold opI; simp only [a, b, Int.reduceEq, reduceIte, and_true, and_false, true_and, false_and]; try rfl
  · obtain ⟨a, b⟩ := cond_is33.1 h; unfold opI; simp only [a, b, Int.reduceEq, reduceIte, and_true, and_false, false_and]; try rfl
  · obtain ⟨a, b⟩ := cond_is34.1 h; unfold opI; simp only [a, b, Int.reduceEq, reduceIte, and_false, true_and, false_and]; try rfl
  · obtain ⟨a, b⟩ := cond_is35.1 h; unfold opI; simp only [a, b, Int.reduceEq, reduceIte, and_false, false_and]; try rfl
  · obtain ⟨a, b⟩ := cond_is36.1 h; unfold opI; simp only [a, b, Int.reduceEq, reduceIte, and_true, and_false, false_and]; try rfl
  · obtain ⟨a, b⟩ := cond_is37.1 h; unfold opI; simp only [a, b, Int.reduceEq, reduceIte, and_false, true_and, false_and]; try rfl
  · obtain ⟨a, b⟩ := cond_is38.1 h; unfold opI; simp only [a, b, Int.reduceEq, reduceIte, and_false, false_and]; try rfl
  · obtain ⟨a, b⟩ := cond_is39.1 h; unfold opI; simp only [a, b, Int.reduceEq, reduceIte, and_true, and_false, true_and, false_and]; try rfl
  · obtain ⟨a, b⟩ := cond_is40.1 h; unfold opI; simp only [a, b, Int.reduceEq, reduceIte, and_false, false_and]; try rfl
  · obtain ⟨a, b⟩ := cond_is41.1 h; unfold opI; simp only [a, b, Int.reduceEq, reduceIte, and_false, false_and]; try rfl
  · have a := cond_is42.1 h; unfold opI; simp only [a, Int.reduceEq, reduceIte]
  · have a := cond_is43.1 h; unfold opI; simp only [a, Int.reduceEq, reduceIte]
  · have a := cond_is44.1 h; unfold opI; simp only [a, Int.reduceEq, reduceIte]
  · obtain ⟨a, b⟩ := cond_is45.1 h; unfold opI; simp only [a, b, Int.reduceEq, reduceIte, and_true, and_false, false_and]; try rfl
  · have a := cond_is46.1 h; have b : w % 128 = 15 := by omega
    unfold opI; simp only [a, b, Int.reduceEq, reduceIte]
  · have a := cond_is47.1 h; subst a; decide
  · have a := cond_is48.1 h; subst a; decide
theorem op_cond {o w : Int} (h0 : 0 ≤ w) (h1 : w < 4294967296) (ho : 1 ≤ o ∧ o ≤ 48) (h : opI w = o) : condI o w := by
  have hn : o ≠ 0 := by omega
  unfold opI at h
  by_cases c : w % 128 = 51
  · rw [if_pos c] at h
    by_cases s : w / 33554432 = 1
    · rw [if_pos s] at h
      have e : w / 4096 % 8 = o - 11 := by omega
      have b : 11 ≤ o ∧ o ≤ 18 := by omega
      clear h
      obtain rfl | rfl | rfl | rfl | rfl | rfl | rfl | rfl : o = 11 ∨ o = 12 ∨ o = 13 ∨ o = 14 ∨ o = 15 ∨ o = 16 ∨ o = 17 ∨ o = 18 := by omega
      all_goals exact ⟨c, e, s⟩
    rw [if_neg s] at h
    by_cases s : w / 33554432 = 0
    · rw [if_pos s] at h
      obtain ⟨a, b⟩ := findI_spec hn h
      simp at b
      rcases b with b | b | b | b | b | b | b | b | b | b <;> subst b
      case inr.inl => rw [← a] at h; exact absurd h (by decide)
      case inr.inr.inr.inr.inr.inr.inr.inl => rw [← a] at h; exact absurd h (by decide)
      all_goals exact ⟨c, a.symm, s⟩
    rw [if_neg s] at h
    by_cases s2 : w / 33554432 = 32 ∧ w / 4096 % 8 = 0
    · rw [if_pos s2] at h; subst h; exact ⟨c, s2.2, s2.1⟩
    rw [if_neg s2] at h
    by_cases s3 : w / 33554432 = 32 ∧ w / 4096 % 8 = 5
    · rw [if_pos s3] at h; subst h; exact ⟨c, s3.2, s3.1⟩
    rw [if_neg s3] at h
    exact absurd h.symm hn
  rw [if_neg c] at h
  by_cases c : w % 128 = 19
  · rw [if_pos c] at h
    by_cases s : w / 4096 % 8 = 1 ∧ w / 33554432 = 0
    · rw [if_pos s] at h; subst h; exact ⟨c, s.1, s.2⟩
    rw [if_neg s] at h
    by_cases s : w / 4096 % 8 = 5 ∧ w / 33554432 = 0
    · rw [if_pos s] at h; subst h; exact ⟨c, s.1, s.2⟩
    rw [if_neg s] at h
    by_cases s : w / 4096 % 8 = 5 ∧ w / 33554432 = 32
    · rw [if_pos s] at h; subst h; exact ⟨c, s.1, s.2⟩
    rw [if_neg s] at h
    obtain ⟨a, b⟩ := findI_spec hn h
    clear h
    simp at b
    rcases b with rfl | rfl | rfl | rfl | rfl | rfl
    all_goals exact ⟨c, a.symm⟩
  rw [if_neg c] at h
  by_cases c : w % 128 = 3
  · rw [if_pos c] at h
    obtain ⟨a, b⟩ := findI_spec hn h
    clear h
    simp at b
    rcases b with rfl | rfl | rfl | rfl | rfl
    all_goals exact ⟨c, a.symm⟩
  rw [if_neg c] at h
  by_cases c : w % 128 = 35
  · rw [if_pos c] at h
    obtain ⟨a, b⟩ := findI_spec hn h
    clear h
    simp at b
    rcases b with rfl | rfl | rfl
    all_goals exact ⟨c, a.symm⟩
  rw [if_neg c] at h
  by_cases c : w % 128 = 99
  · rw [if_pos c] at h
    obtain ⟨a, b⟩ := findI_spec hn h
    clear h
    simp at b
    rcases b with rfl | rfl | rfl | rfl | rfl | rfl
    all_goals exact ⟨c, a.symm⟩
  rw [if_neg c] at h
  by_cases c : w % 128 = 55
  · rw [if_pos c] at h; subst h; exact c
  rw [if_neg c] at h
  by_cases c : w % 128 = 23
  · rw [if_pos c] at h; subst h; exact c
  rw [if_neg c] at h
  by_cases c : w % 128 = 111
  · rw [if_pos c] at h; subst h; exact c
  rw [if_neg c] at h
  by_cases c : w % 128 = 103
  · rw [if_pos c] at h
    obtain ⟨a, b⟩ := findI_spec hn h
    clear h
    simp at b
    subst b
    exact ⟨c, a.symm⟩
  rw [if_neg c] at h
  by_cases c : w % 128 = 15
  · rw [if_pos c] at h
    by_cases s : w % 1048576 = 15
    · rw [if_pos s] at h; subst h; exact s
    · rw [if_neg s] at h; exact absurd h.symm hn
  rw [if_neg c] at h
  by_cases c : w = 115
  · rw [if_pos c] at h; subst h; exact c
  rw [if_neg c] at h
  by_cases c : w = 1048691
  · rw [if_pos c] at h; subst h; exact c
  rw [if_neg c] at h
  exact absurd h.symm hn
theorem fit_op {o w : Int} (h0 : 0 ≤ w) (h1 : w < 4294967296) (ho : 1 ≤ o ∧ o ≤ 48) : fitI o w ↔ opI w = o := by
  unfold fitI
  rw [fit_cond h0 h1 ho]
  exact ⟨fun h => cond_op h0 h1 ho h.2, fun h => ⟨can_rec h0 h1 ho, op_cond h0 h1 ho h⟩⟩
end Go.Proofs.YtmlhoagcppofgaaGreatDoor

namespace Go.Proofs.YtmlhoagcppofgaaGreatDoor
open Go Go.RowKit Pl
set_option linter.unusedVariables false

structure CanI (x : Q5) : Prop where
  ho : 1 ≤ x.o ∧ x.o ≤ 48
  hd : 0 ≤ x.d ∧ x.d < 32
  hd0 : rD x.o = false → x.d = 0
  ha : 0 ≤ x.a ∧ x.a < 32
  ha0 : rA x.o = false → x.a = 0
  hb : 0 ≤ x.b ∧ x.b < 32
  hb0 : rB x.o = false → x.b = 0
  hi : numOk (formI x.o) x.i = true
theorem reg_out {n : Int} {h : Bool} (e : regOk n h = true) : (0 ≤ n ∧ n < 32) ∧ (h = false → n = 0) := by
  cases h <;> simp [regOk] at e
  · exact ⟨by omega, fun _ => e⟩
  · exact ⟨e, fun g => by cases g⟩
theorem canI_out {x : Q5} (h : canI x = true) : CanI x := by
  unfold canI at h
  simp only [Bool.and_eq_true] at h
  obtain ⟨⟨⟨⟨h1, h2⟩, h3⟩, h4⟩, h5⟩ := h
  exact ⟨of_decide_eq_true h1, (reg_out h2).1, (reg_out h2).2, (reg_out h3).1, (reg_out h3).2, (reg_out h4).1, (reg_out h4).2, h5⟩
theorem seven_bd (o : Int) : 0 ≤ sevenI o ∧ sevenI o < 128 := by
  unfold sevenI; split
  · omega
  · split <;> omega
theorem put_out {form n : Int} (h : putOk form n = true) : getS form (putW form (n % 4294967296)) = n := (of_decide_eq_true h).2.2

/-- the parts of a form's number within a word -/
theorem back_1 {L T d a X : Int} (hL : 0 ≤ L ∧ L < 128) (hT : 0 ≤ T ∧ T < 8) (hd : 0 ≤ d ∧ d < 32) (ha : 0 ≤ a ∧ a < 32) (hX : 0 ≤ X ∧ X < 4096) :
    let w := L + T * 4096 + 0 * 33554432 + d * 128 + a * 32768 + 0 * 1048576 + X * 1048576
    (0 ≤ w ∧ w < 4294967296) ∧ w / 128 % 32 = d ∧ w / 32768 % 32 = a ∧ w / 1048576 * 1048576 = X * 1048576 := by
  intro w; refine ⟨?_, ?_, ?_, ?_⟩ <;> omega
theorem back_2 {L T a b X Y : Int} (hL : 0 ≤ L ∧ L < 128) (hT : 0 ≤ T ∧ T < 8) (ha : 0 ≤ a ∧ a < 32) (hb : 0 ≤ b ∧ b < 32) (hX : 0 ≤ X ∧ X < 128) (hY : 0 ≤ Y ∧ Y < 32) :
    let w := L + T * 4096 + 0 * 33554432 + 0 * 128 + a * 32768 + b * 1048576 + (X * 33554432 + Y * 128)
    (0 ≤ w ∧ w < 4294967296) ∧ w / 32768 % 32 = a ∧ w / 1048576 % 32 = b ∧ w / 33554432 * 33554432 + w / 128 % 32 * 128 = X * 33554432 + Y * 128 := by
  intro w; refine ⟨?_, ?_, ?_, ?_⟩ <;> omega
theorem back_4 {L d X : Int} (hL : 0 ≤ L ∧ L < 128) (hd : 0 ≤ d ∧ d < 32) (hX : 0 ≤ X ∧ X < 1048576) :
    let w := L + 0 * 4096 + 0 * 33554432 + d * 128 + 0 * 32768 + 0 * 1048576 + X * 4096
    (0 ≤ w ∧ w < 4294967296) ∧ w / 128 % 32 = d ∧ w / 4096 * 4096 = X * 4096 := by
  intro w; refine ⟨?_, ?_, ?_⟩ <;> omega
theorem put2_parts (m : Int) : ∃ X Y : Int, (0 ≤ X ∧ X < 128) ∧ (0 ≤ Y ∧ Y < 32) ∧ putW 2 m = X * 33554432 + Y * 128 :=
  ⟨m / 32 % 128, m % 32, by omega, by omega, rfl⟩
theorem put3_parts (m : Int) : ∃ X Y : Int, (0 ≤ X ∧ X < 128) ∧ (0 ≤ Y ∧ Y < 32) ∧ putW 3 m = X * 33554432 + Y * 128 :=
  ⟨m / 4096 % 2 * 64 + m / 32 % 64, m / 2 % 16 * 2 + m / 2048 % 2, by omega, by omega, by show m / 4096 % 2 * 2147483648 + m / 2048 % 2 * 128 + m / 32 % 64 * 33554432 + m / 2 % 16 * 256 = _; omega⟩
theorem put5_parts (m : Int) : ∃ X : Int, (0 ≤ X ∧ X < 1048576) ∧ putW 5 m = X * 4096 :=
  ⟨m / 1048576 % 2 * 524288 + m / 4096 % 256 + m / 2048 % 2 * 256 + m / 2 % 1024 * 512, by omega, by show m / 1048576 % 2 * 2147483648 + m / 4096 % 256 * 4096 + m / 2048 % 2 * 1048576 + m / 2 % 1024 * 2097152 = _; omega⟩

theorem put_num {form n : Int} (f0 : 1 ≤ form) (f1 : form ≤ 5) : numW form n = putW form (n % 4294967296) := by
  unfold numW; rw [if_neg (by omega), if_neg (by omega)]
theorem num_put {form n : Int} (f0 : 1 ≤ form) (f1 : form ≤ 5) (h : numOk form n = true) : putOk form n = true := by
  unfold numOk at h; rwa [if_neg (by omega), if_neg (by omega)] at h
theorem get_back {form n w : Int} (f0 : 1 ≤ form) (f1 : form ≤ 5) (h : numOk form n = true) (e : named form w = putW form (n % 4294967296)) : getS form w = n := by
  rw [← get_named f0 f1 (w := w), e]
  exact put_out (num_put f0 f1 h)
/-- what class 0 has -/
theorem cls_0 {o : Int} (h : 1 ≤ o ∧ o ≤ 18) : rD o = true ∧ rA o = true ∧ rB o = true ∧ formI o = 0 ∧ lowI o = 51 := by
  refine ⟨by unfold rD; simp; omega, by unfold rA; simp; omega, by unfold rB; simp; omega, by unfold formI; rw [if_pos (by omega)], by unfold lowI; rw [if_pos (by omega)]⟩
/-- what class 1 has -/
theorem cls_1 {o : Int} (h : 19 ≤ o ∧ o ≤ 24) : rD o = true ∧ rA o = true ∧ rB o = false ∧ formI o = 1 ∧ lowI o = 19 ∧ sevenI o = 0 := by
  refine ⟨by unfold rD; simp; omega, by unfold rA; simp; omega, by unfold rB; simp; omega, by unfold formI; rw [if_neg (by omega), if_pos (by omega)], by unfold lowI; rw [if_neg (by omega), if_pos (by omega)], by unfold sevenI; rw [if_neg (by omega), if_neg (by omega)]⟩
/-- what class 2 has -/
theorem cls_2 {o : Int} (h : 25 ≤ o ∧ o ≤ 27) : rD o = true ∧ rA o = true ∧ rB o = false ∧ formI o = 6 ∧ lowI o = 19 := by
  refine ⟨by unfold rD; simp; omega, by unfold rA; simp; omega, by unfold rB; simp; omega, by unfold formI; rw [if_neg (by omega), if_neg (by omega), if_pos (by omega)], by unfold lowI; rw [if_neg (by omega), if_pos (by omega)]⟩
/-- what class 3 has -/
theorem cls_3 {o : Int} (h : 28 ≤ o ∧ o ≤ 32) : rD o = true ∧ rA o = true ∧ rB o = false ∧ formI o = 1 ∧ lowI o = 3 ∧ sevenI o = 0 := by
  refine ⟨by unfold rD; simp; omega, by unfold rA; simp; omega, by unfold rB; simp; omega, by unfold formI; rw [if_neg (by omega), if_neg (by omega), if_neg (by omega), if_pos (by omega)], by unfold lowI; rw [if_neg (by omega), if_neg (by omega), if_pos (by omega)], by unfold sevenI; rw [if_neg (by omega), if_neg (by omega)]⟩
/-- what class 4 has -/
theorem cls_4 {o : Int} (h : 33 ≤ o ∧ o ≤ 35) : rD o = false ∧ rA o = true ∧ rB o = true ∧ formI o = 2 ∧ lowI o = 35 ∧ sevenI o = 0 := by
  refine ⟨by unfold rD; simp; omega, by unfold rA; simp; omega, by unfold rB; simp; omega, by unfold formI; rw [if_neg (by omega), if_neg (by omega), if_neg (by omega), if_neg (by omega), if_pos (by omega)], by unfold lowI; rw [if_neg (by omega), if_neg (by omega), if_neg (by omega), if_pos (by omega)], by unfold sevenI; rw [if_neg (by omega), if_neg (by omega)]⟩
/-- what class 5 has -/
theorem cls_5 {o : Int} (h : 36 ≤ o ∧ o ≤ 41) : rD o = false ∧ rA o = true ∧ rB o = true ∧ formI o = 3 ∧ lowI o = 99 ∧ sevenI o = 0 := by
  refine ⟨by unfold rD; simp; omega, by unfold rA; simp; omega, by unfold rB; simp; omega, by unfold formI; rw [if_neg (by omega), if_neg (by omega), if_neg (by omega), if_neg (by omega), if_neg (by omega), if_pos (by omega)], by unfold lowI; rw [if_neg (by omega), if_neg (by omega), if_neg (by omega), if_neg (by omega), if_pos (by omega)], by unfold sevenI; rw [if_neg (by omega), if_neg (by omega)]⟩
/-- what class 6 has -/
theorem cls_6 {o : Int} (h : o = 42) : rD o = true ∧ rA o = false ∧ rB o = false ∧ formI o = 4 ∧ lowI o = 55 ∧ sevenI o = 0 ∧ threeI o = 0 := by
  subst h; decide
/-- what class 7 has -/
theorem cls_7 {o : Int} (h : o = 43) : rD o = true ∧ rA o = false ∧ rB o = false ∧ formI o = 4 ∧ lowI o = 23 ∧ sevenI o = 0 ∧ threeI o = 0 := by
  subst h; decide
/-- what class 8 has -/
theorem cls_8 {o : Int} (h : o = 44) : rD o = true ∧ rA o = false ∧ rB o = false ∧ formI o = 5 ∧ lowI o = 111 ∧ sevenI o = 0 ∧ threeI o = 0 := by
  subst h; decide
/-- what class 9 has -/
theorem cls_9 {o : Int} (h : o = 45) : rD o = true ∧ rA o = true ∧ rB o = false ∧ formI o = 1 ∧ lowI o = 103 ∧ sevenI o = 0 ∧ threeI o = 0 := by
  subst h; decide
/-- what class 10 has -/
theorem cls_10 {o : Int} (h : o = 46) : rD o = false ∧ rA o = false ∧ rB o = false ∧ formI o = 1 ∧ lowI o = 15 ∧ sevenI o = 0 ∧ threeI o = 0 := by
  subst h; decide
/-- what class 11 has -/
theorem cls_11 {o : Int} (h : o = 47) : rD o = false ∧ rA o = false ∧ rB o = false ∧ formI o = 0 ∧ lowI o = 115 ∧ sevenI o = 0 ∧ threeI o = 0 := by
  subst h; decide
/-- what class 12 has -/
theorem cls_12 {o : Int} (h : o = 48) : rD o = false ∧ rA o = false ∧ rB o = false ∧ formI o = 0 ∧ lowI o = 1048691 ∧ sevenI o = 0 ∧ threeI o = 0 := by
  subst h; decide
theorem recw_0 {o d a b i : Int} (C : CanI ⟨o, d, a, b, i⟩) (h : 1 ≤ o ∧ o ≤ 18) : (0 ≤ wordI ⟨o, d, a, b, i⟩ ∧ wordI ⟨o, d, a, b, i⟩ < 4294967296) ∧ recI o (wordI ⟨o, d, a, b, i⟩) = ⟨o, d, a, b, i⟩ := by
  obtain ⟨r1, r2, r3, f, l⟩ := cls_0 h
  obtain ⟨ho, hd, hd0, ha, ha0, hb, hb0, hi⟩ := C
  dsimp only at *
  have hT := three_bd ho
  have hS := seven_bd o
  rw [f] at hi
  unfold recI wordI
  obtain rfl : i = 0 := by simpa [numOk] using hi
  simp only [r1, r2, r3, f, l, numW, if_true, if_false, Int.reduceEq, Q5.mk.injEq, true_and, and_true]
  clear hi r1 r2 r3 f l hd0 ha0 hb0
  refine ⟨⟨by omega, by omega⟩, by omega, by omega, by omega⟩
theorem recw_1 {o d a b i : Int} (C : CanI ⟨o, d, a, b, i⟩) (h : 19 ≤ o ∧ o ≤ 24) : (0 ≤ wordI ⟨o, d, a, b, i⟩ ∧ wordI ⟨o, d, a, b, i⟩ < 4294967296) ∧ recI o (wordI ⟨o, d, a, b, i⟩) = ⟨o, d, a, b, i⟩ := by
  obtain ⟨r1, r2, r3, f, l, s0⟩ := cls_1 h
  obtain ⟨ho, hd, hd0, ha, ha0, hb, hb0, hi⟩ := C
  dsimp only at *
  have hT := three_bd ho
  have hS := seven_bd o
  obtain rfl : b = 0 := hb0 r3
  rw [f] at hi
  unfold recI wordI
  obtain ⟨X, hX, eX⟩ : ∃ X : Int, (0 ≤ X ∧ X < 4096) ∧ putW 1 (i % 4294967296) = X * 1048576 := ⟨i % 4294967296 % 4096, by omega, rfl⟩
  obtain ⟨q1, q2, q3, q4⟩ := back_1 (L := 19) (T := (threeI o)) (d := d) (a := a) (X := X) (by omega) (by omega) (by omega) (by omega) hX
  have G := get_back (form := 1) (by omega) (by omega) hi ((show named 1 _ = _ from q4).trans eX.symm)
  simp only [r1, r2, r3, f, l, s0, put_num (form := 1) (n := i) (by omega) (by omega), eX, if_true, if_false, Bool.false_eq_true, Int.reduceEq]
  refine ⟨q1, ?_⟩
  rw [q2, q3, G]
theorem recw_2 {o d a b i : Int} (C : CanI ⟨o, d, a, b, i⟩) (h : 25 ≤ o ∧ o ≤ 27) : (0 ≤ wordI ⟨o, d, a, b, i⟩ ∧ wordI ⟨o, d, a, b, i⟩ < 4294967296) ∧ recI o (wordI ⟨o, d, a, b, i⟩) = ⟨o, d, a, b, i⟩ := by
  obtain ⟨r1, r2, r3, f, l⟩ := cls_2 h
  obtain ⟨ho, hd, hd0, ha, ha0, hb, hb0, hi⟩ := C
  dsimp only at *
  have hT := three_bd ho
  have hS := seven_bd o
  obtain rfl : b = 0 := hb0 r3
  rw [f] at hi
  unfold recI wordI
  have hi2 : 0 ≤ i ∧ i < 32 := by simpa [numOk] using hi
  simp only [r1, r2, r3, f, l, numW, if_true, if_false, Bool.false_eq_true, Int.reduceEq, Q5.mk.injEq, true_and]
  clear hi r1 r2 r3 f l hd0 ha0 hb0
  refine ⟨⟨by omega, by omega⟩, by omega, by omega, by omega⟩
theorem recw_3 {o d a b i : Int} (C : CanI ⟨o, d, a, b, i⟩) (h : 28 ≤ o ∧ o ≤ 32) : (0 ≤ wordI ⟨o, d, a, b, i⟩ ∧ wordI ⟨o, d, a, b, i⟩ < 4294967296) ∧ recI o (wordI ⟨o, d, a, b, i⟩) = ⟨o, d, a, b, i⟩ := by
  obtain ⟨r1, r2, r3, f, l, s0⟩ := cls_3 h
  obtain ⟨ho, hd, hd0, ha, ha0, hb, hb0, hi⟩ := C
  dsimp only at *
  have hT := three_bd ho
  have hS := seven_bd o
  obtain rfl : b = 0 := hb0 r3
  rw [f] at hi
  unfold recI wordI
  obtain ⟨X, hX, eX⟩ : ∃ X : Int, (0 ≤ X ∧ X < 4096) ∧ putW 1 (i % 4294967296) = X * 1048576 := ⟨i % 4294967296 % 4096, by omega, rfl⟩
  obtain ⟨q1, q2, q3, q4⟩ := back_1 (L := 3) (T := (threeI o)) (d := d) (a := a) (X := X) (by omega) (by omega) (by omega) (by omega) hX
  have G := get_back (form := 1) (by omega) (by omega) hi ((show named 1 _ = _ from q4).trans eX.symm)
  simp only [r1, r2, r3, f, l, s0, put_num (form := 1) (n := i) (by omega) (by omega), eX, if_true, if_false, Bool.false_eq_true, Int.reduceEq]
  refine ⟨q1, ?_⟩
  rw [q2, q3, G]
theorem recw_4 {o d a b i : Int} (C : CanI ⟨o, d, a, b, i⟩) (h : 33 ≤ o ∧ o ≤ 35) : (0 ≤ wordI ⟨o, d, a, b, i⟩ ∧ wordI ⟨o, d, a, b, i⟩ < 4294967296) ∧ recI o (wordI ⟨o, d, a, b, i⟩) = ⟨o, d, a, b, i⟩ := by
  obtain ⟨r1, r2, r3, f, l, s0⟩ := cls_4 h
  obtain ⟨ho, hd, hd0, ha, ha0, hb, hb0, hi⟩ := C
  dsimp only at *
  have hT := three_bd ho
  have hS := seven_bd o
  obtain rfl : d = 0 := hd0 r1
  rw [f] at hi
  unfold recI wordI
  obtain ⟨X, Y, hX, hY, eX⟩ := put2_parts (i % 4294967296)
  obtain ⟨q1, q2, q3, q4⟩ := back_2 (L := 35) (T := threeI o) (a := a) (b := b) (by omega) hT ha hb hX hY
  have G := get_back (form := 2) (by omega) (by omega) hi ((show named 2 _ = _ from q4).trans eX.symm)
  simp only [r1, r2, r3, f, l, s0, put_num (form := 2) (n := i) (by omega) (by omega), eX, if_true, if_false, Bool.false_eq_true, Int.reduceEq]
  refine ⟨q1, ?_⟩
  rw [q2, q3, G]
theorem recw_5 {o d a b i : Int} (C : CanI ⟨o, d, a, b, i⟩) (h : 36 ≤ o ∧ o ≤ 41) : (0 ≤ wordI ⟨o, d, a, b, i⟩ ∧ wordI ⟨o, d, a, b, i⟩ < 4294967296) ∧ recI o (wordI ⟨o, d, a, b, i⟩) = ⟨o, d, a, b, i⟩ := by
  obtain ⟨r1, r2, r3, f, l, s0⟩ := cls_5 h
  obtain ⟨ho, hd, hd0, ha, ha0, hb, hb0, hi⟩ := C
  dsimp only at *
  have hT := three_bd ho
  have hS := seven_bd o
  obtain rfl : d = 0 := hd0 r1
  rw [f] at hi
  unfold recI wordI
  obtain ⟨X, Y, hX, hY, eX⟩ := put3_parts (i % 4294967296)
  obtain ⟨q1, q2, q3, q4⟩ := back_2 (L := 99) (T := threeI o) (a := a) (b := b) (by omega) hT ha hb hX hY
  have G := get_back (form := 3) (by omega) (by omega) hi ((show named 3 _ = _ from q4).trans eX.symm)
  simp only [r1, r2, r3, f, l, s0, put_num (form := 3) (n := i) (by omega) (by omega), eX, if_true, if_false, Bool.false_eq_true, Int.reduceEq]
  refine ⟨q1, ?_⟩
  rw [q2, q3, G]
theorem recw_6 {o d a b i : Int} (C : CanI ⟨o, d, a, b, i⟩) (h : o = 42) : (0 ≤ wordI ⟨o, d, a, b, i⟩ ∧ wordI ⟨o, d, a, b, i⟩ < 4294967296) ∧ recI o (wordI ⟨o, d, a, b, i⟩) = ⟨o, d, a, b, i⟩ := by
  obtain ⟨r1, r2, r3, f, l, s0, th⟩ := cls_6 h
  obtain ⟨ho, hd, hd0, ha, ha0, hb, hb0, hi⟩ := C
  dsimp only at *
  have hT := three_bd ho
  have hS := seven_bd o
  obtain rfl : a = 0 := ha0 r2
  obtain rfl : b = 0 := hb0 r3
  rw [f] at hi
  unfold recI wordI
  obtain ⟨X, hX, eX⟩ : ∃ X : Int, (0 ≤ X ∧ X < 1048576) ∧ putW 4 (i % 4294967296) = X * 4096 := ⟨i % 4294967296 / 4096 % 1048576, by omega, rfl⟩
  obtain ⟨q1, q2, q3⟩ := back_4 (L := 55) (by omega) hd hX
  have G := get_back (form := 4) (by omega) (by omega) hi ((show named 4 _ = _ from q3).trans eX.symm)
  simp only [r1, r2, r3, f, l, s0, th, put_num (form := 4) (n := i) (by omega) (by omega), eX, if_true, if_false, Bool.false_eq_true, Int.reduceEq]
  refine ⟨q1, ?_⟩
  rw [q2, G]
theorem recw_7 {o d a b i : Int} (C : CanI ⟨o, d, a, b, i⟩) (h : o = 43) : (0 ≤ wordI ⟨o, d, a, b, i⟩ ∧ wordI ⟨o, d, a, b, i⟩ < 4294967296) ∧ recI o (wordI ⟨o, d, a, b, i⟩) = ⟨o, d, a, b, i⟩ := by
  obtain ⟨r1, r2, r3, f, l, s0, th⟩ := cls_7 h
  obtain ⟨ho, hd, hd0, ha, ha0, hb, hb0, hi⟩ := C
  dsimp only at *
  have hT := three_bd ho
  have hS := seven_bd o
  obtain rfl : a = 0 := ha0 r2
  obtain rfl : b = 0 := hb0 r3
  rw [f] at hi
  unfold recI wordI
  obtain ⟨X, hX, eX⟩ : ∃ X : Int, (0 ≤ X ∧ X < 1048576) ∧ putW 4 (i % 4294967296) = X * 4096 := ⟨i % 4294967296 / 4096 % 1048576, by omega, rfl⟩
  obtain ⟨q1, q2, q3⟩ := back_4 (L := 23) (by omega) hd hX
  have G := get_back (form := 4) (by omega) (by omega) hi ((show named 4 _ = _ from q3).trans eX.symm)
  simp only [r1, r2, r3, f, l, s0, th, put_num (form := 4) (n := i) (by omega) (by omega), eX, if_true, if_false, Bool.false_eq_true, Int.reduceEq]
  refine ⟨q1, ?_⟩
  rw [q2, G]
theorem recw_8 {o d a b i : Int} (C : CanI ⟨o, d, a, b, i⟩) (h : o = 44) : (0 ≤ wordI ⟨o, d, a, b, i⟩ ∧ wordI ⟨o, d, a, b, i⟩ < 4294967296) ∧ recI o (wordI ⟨o, d, a, b, i⟩) = ⟨o, d, a, b, i⟩ := by
  obtain ⟨r1, r2, r3, f, l, s0, th⟩ := cls_8 h
  obtain ⟨ho, hd, hd0, ha, ha0, hb, hb0, hi⟩ := C
  dsimp only at *
  have hT := three_bd ho
  have hS := seven_bd o
  obtain rfl : a = 0 := ha0 r2
  obtain rfl : b = 0 := hb0 r3
  rw [f] at hi
  unfold recI wordI
  obtain ⟨X, hX, eX⟩ := put5_parts (i % 4294967296)
  obtain ⟨q1, q2, q3⟩ := back_4 (L := 111) (by omega) hd hX
  have G := get_back (form := 5) (by omega) (by omega) hi ((show named 5 _ = _ from q3).trans eX.symm)
  simp only [r1, r2, r3, f, l, s0, th, put_num (form := 5) (n := i) (by omega) (by omega), eX, if_true, if_false, Bool.false_eq_true, Int.reduceEq]
  refine ⟨q1, ?_⟩
  rw [q2, G]
theorem recw_9 {o d a b i : Int} (C : CanI ⟨o, d, a, b, i⟩) (h : o = 45) : (0 ≤ wordI ⟨o, d, a, b, i⟩ ∧ wordI ⟨o, d, a, b, i⟩ < 4294967296) ∧ recI o (wordI ⟨o, d, a, b, i⟩) = ⟨o, d, a, b, i⟩ := by
  obtain ⟨r1, r2, r3, f, l, s0, th⟩ := cls_9 h
  obtain ⟨ho, hd, hd0, ha, ha0, hb, hb0, hi⟩ := C
  dsimp only at *
  have hT := three_bd ho
  have hS := seven_bd o
  obtain rfl : b = 0 := hb0 r3
  rw [f] at hi
  unfold recI wordI
  obtain ⟨X, hX, eX⟩ : ∃ X : Int, (0 ≤ X ∧ X < 4096) ∧ putW 1 (i % 4294967296) = X * 1048576 := ⟨i % 4294967296 % 4096, by omega, rfl⟩
  obtain ⟨q1, q2, q3, q4⟩ := back_1 (L := 103) (T := 0) (d := d) (a := a) (X := X) (by omega) (by omega) (by omega) (by omega) hX
  have G := get_back (form := 1) (by omega) (by omega) hi ((show named 1 _ = _ from q4).trans eX.symm)
  simp only [r1, r2, r3, f, l, s0, th, put_num (form := 1) (n := i) (by omega) (by omega), eX, if_true, if_false, Bool.false_eq_true, Int.reduceEq]
  refine ⟨q1, ?_⟩
  rw [q2, q3, G]
theorem recw_10 {o d a b i : Int} (C : CanI ⟨o, d, a, b, i⟩) (h : o = 46) : (0 ≤ wordI ⟨o, d, a, b, i⟩ ∧ wordI ⟨o, d, a, b, i⟩ < 4294967296) ∧ recI o (wordI ⟨o, d, a, b, i⟩) = ⟨o, d, a, b, i⟩ := by
  obtain ⟨r1, r2, r3, f, l, s0, th⟩ := cls_10 h
  obtain ⟨ho, hd, hd0, ha, ha0, hb, hb0, hi⟩ := C
  dsimp only at *
  have hT := three_bd ho
  have hS := seven_bd o
  obtain rfl : d = 0 := hd0 r1
  obtain rfl : a = 0 := ha0 r2
  obtain rfl : b = 0 := hb0 r3
  rw [f] at hi
  unfold recI wordI
  obtain ⟨X, hX, eX⟩ : ∃ X : Int, (0 ≤ X ∧ X < 4096) ∧ putW 1 (i % 4294967296) = X * 1048576 := ⟨i % 4294967296 % 4096, by omega, rfl⟩
  obtain ⟨q1, q2, q3, q4⟩ := back_1 (L := 15) (T := 0) (d := 0) (a := 0) (X := X) (by omega) (by omega) (by omega) (by omega) hX
  have G := get_back (form := 1) (by omega) (by omega) hi ((show named 1 _ = _ from q4).trans eX.symm)
  simp only [r1, r2, r3, f, l, s0, th, put_num (form := 1) (n := i) (by omega) (by omega), eX, if_false, Bool.false_eq_true, Int.reduceEq]
  refine ⟨q1, ?_⟩
  rw [G]
theorem recw_11 {o d a b i : Int} (C : CanI ⟨o, d, a, b, i⟩) (h : o = 47) : (0 ≤ wordI ⟨o, d, a, b, i⟩ ∧ wordI ⟨o, d, a, b, i⟩ < 4294967296) ∧ recI o (wordI ⟨o, d, a, b, i⟩) = ⟨o, d, a, b, i⟩ := by
  obtain ⟨r1, r2, r3, f, l, s0, th⟩ := cls_11 h
  obtain ⟨ho, hd, hd0, ha, ha0, hb, hb0, hi⟩ := C
  dsimp only at *
  have hT := three_bd ho
  have hS := seven_bd o
  obtain rfl : d = 0 := hd0 r1
  obtain rfl : a = 0 := ha0 r2
  obtain rfl : b = 0 := hb0 r3
  rw [f] at hi
  unfold recI wordI
  obtain rfl : i = 0 := by simpa [numOk] using hi
  simp only [r1, r2, r3, f, l, s0, th, numW, if_true, if_false, Bool.false_eq_true, Int.reduceEq, and_true]
  clear hi r1 r2 r3 f l hd0 ha0 hb0
  omega
theorem recw_12 {o d a b i : Int} (C : CanI ⟨o, d, a, b, i⟩) (h : o = 48) : (0 ≤ wordI ⟨o, d, a, b, i⟩ ∧ wordI ⟨o, d, a, b, i⟩ < 4294967296) ∧ recI o (wordI ⟨o, d, a, b, i⟩) = ⟨o, d, a, b, i⟩ := by
  obtain ⟨r1, r2, r3, f, l, s0, th⟩ := cls_12 h
  obtain ⟨ho, hd, hd0, ha, ha0, hb, hb0, hi⟩ := C
  dsimp only at *
  have hT := three_bd ho
  have hS := seven_bd o
  obtain rfl : d = 0 := hd0 r1
  obtain rfl : a = 0 := ha0 r2
  obtain rfl : b = 0 := hb0 r3
  rw [f] at hi
  unfold recI wordI
  obtain rfl : i = 0 := by simpa [numOk] using hi
  simp only [r1, r2, r3, f, l, s0, th, numW, if_true, if_false, Bool.false_eq_true, Int.reduceEq, and_true]
  clear hi r1 r2 r3 f l hd0 ha0 hb0
  omega
/-- the word's number lies within 32 bits, and the instruction comes back from it -/
theorem rec_word {x : Q5} (C : CanI x) : (0 ≤ wordI x ∧ wordI x < 4294967296) ∧ recI x.o (wordI x) = x := by
  obtain ⟨o, d, a, b, i⟩ := x
  have ho : 1 ≤ o ∧ o ≤ 48 := C.ho
  have cs : (1 ≤ o ∧ o ≤ 18) ∨ (19 ≤ o ∧ o ≤ 24) ∨ (25 ≤ o ∧ o ≤ 27) ∨ (28 ≤ o ∧ o ≤ 32) ∨ (33 ≤ o ∧ o ≤ 35) ∨ (36 ≤ o ∧ o ≤ 41) ∨ (o = 42) ∨ (o = 43) ∨ (o = 44) ∨ (o = 45) ∨ (o = 46) ∨ (o = 47) ∨ (o = 48) := by omega
  rcases cs with h | h | h | h | h | h | h | h | h | h | h | h | h
  · exact recw_0 C h
  · exact recw_1 C h
  · exact recw_2 C h
  · exact recw_3 C h
  · exact recw_4 C h
  · exact recw_5 C h
  · exact recw_6 C h
  · exact recw_7 C h
  · exact recw_8 C h
  · exact recw_9 C h
  · exact recw_10 C h
  · exact recw_11 C h
  · exact recw_12 C h
theorem word_op {x : Q5} (C : CanI x) : opI (wordI x) = x.o := by
  obtain ⟨⟨h0, h1⟩, e⟩ := rec_word C
  refine (fit_op h0 h1 C.ho).1 ⟨can_rec h0 h1 C.ho, ?_⟩
  rw [e]
theorem opI_bd (w : Int) (h0 : 0 ≤ w) (h1 : w < 4294967296) : 0 ≤ opI w ∧ opI w ≤ 48 := by
  have f := fun l => findI_cases (w / 4096 % 8) l
  unfold opI
  have g (l : List Int) (hl : ∀ o ∈ l, 0 ≤ o ∧ o ≤ 48) : 0 ≤ findI (w / 4096 % 8) l ∧ findI (w / 4096 % 8) l ≤ 48 := by
    rcases f l with h | h
    · omega
    · exact hl _ h
  have g1 := g [1, 2, 3, 4, 5, 6, 7, 8, 9, 10] (by decide)
  have g2 := g [19, 20, 21, 22, 23, 24] (by decide)
  have g3 := g [28, 29, 30, 31, 32] (by decide)
  have g4 := g [33, 34, 35] (by decide)
  have g5 := g [36, 37, 38, 39, 40, 41] (by decide)
  have g6 := g [45] (by decide)
  clear f g
  repeat' (first | (apply ite_bd <;> intro _))
  all_goals omega
theorem or_up (k P : Nat) (hP : P = 2 ^ k) {x y : Int} (h0 : 0 ≤ x) (h1 : x < P) (g0 : 0 ≤ y) (g1 : y < 4294967296) (hy : y % P = 0) (hk : P ≤ 4294967296) :
    bits .or .u32 x y = x + y := by
  rw [u32_or x y h0 (by omega) g0 g1, Nat.or_comm]
  have hy' : y.toNat % 2 ^ k = 0 := by
    have : ((y.toNat % P : Nat) : Int) = y % P := by rw [Int.natCast_emod]; congr 1; omega
    rw [← hP]; omega
  rw [nat_join k y.toNat x.toNat hy' (by rw [← hP]; omega)]
  omega
theorem nat_gap (j k : Nat) {l n h : Nat} (h1 : l < 2 ^ j) (h2 : n % 2 ^ j = 0) (h3 : n + l < 2 ^ k) (h4 : h % 2 ^ k = 0) (h5 : l < 2 ^ k) : (h + l) ||| n = h + l + n := by
  have e : (h + l) ||| n = h + (n + l) := by
    rw [← nat_join k h l h4 h5, Nat.or_assoc, Nat.or_comm l n, nat_join j n l h2 h1, nat_join k h (n + l) h4 h3]
  rw [e]; omega
theorem or_gap (j k J K : Nat) (hJ : J = 2 ^ j) (hK : K = 2 ^ k) {l n h : Int} (l0 : 0 ≤ l) (l1 : l < J) (n0 : 0 ≤ n) (n1 : n % J = 0) (n2 : n + l < K) (k0 : 0 ≤ h) (k1 : h % K = 0) (lk : l < K) (s : h + l < 4294967296) (s2 : n < 4294967296) :
    bits .or .u32 (l + h) n = l + h + n := by
  rw [u32_or (l + h) n (by omega) (by omega) n0 s2]
  have e : (l + h).toNat = h.toNat + l.toNat := by omega
  have a1 : n.toNat % 2 ^ j = 0 := by
    have : ((n.toNat % J : Nat) : Int) = n % J := by rw [Int.natCast_emod]; congr 1; omega
    rw [← hJ]; omega
  have a2 : h.toNat % 2 ^ k = 0 := by
    have : ((h.toNat % K : Nat) : Int) = h % K := by rw [Int.natCast_emod]; congr 1; omega
    rw [← hK]; omega
  rw [e, nat_gap j k (by rw [← hJ]; omega) a1 (by rw [← hK]; omega) a2 (by rw [← hK]; omega)]
  omega
/-- the parts of a word, put together, are their sum -/
def baseW (L T S d a b : Int) : Int := L + d * 128 + T * 4096 + a * 32768 + b * 1048576 + S * 33554432
theorem base_or {L T S d a b : Int} (hL : 0 ≤ L ∧ L < 128) (hT : 0 ≤ T ∧ T < 8) (hS : 0 ≤ S ∧ S < 128) (hd : 0 ≤ d ∧ d < 32) (ha : 0 ≤ a ∧ a < 32) (hb : 0 ≤ b ∧ b < 32) :
    bits .or .u32 (bits .or .u32 (bits .or .u32 (bits .or .u32 (bits .or .u32 L (d * 128)) (T * 4096)) (a * 32768)) (b * 1048576)) (S * 33554432) = baseW L T S d a b := by
  unfold baseW
  rw [or_up 7 128 rfl (x := L) (y := d * 128) (by omega) (by omega) (by omega) (by omega) (by omega) (by omega)]
  rw [or_up 12 4096 rfl (x := L + d * 128) (y := T * 4096) (by omega) (by omega) (by omega) (by omega) (by omega) (by omega)]
  rw [or_up 15 32768 rfl (x := L + d * 128 + T * 4096) (y := a * 32768) (by omega) (by omega) (by omega) (by omega) (by omega) (by omega)]
  rw [or_up 20 1048576 rfl (x := L + d * 128 + T * 4096 + a * 32768) (y := b * 1048576) (by omega) (by omega) (by omega) (by omega) (by omega) (by omega)]
  rw [or_up 25 33554432 rfl (x := L + d * 128 + T * 4096 + a * 32768 + b * 1048576) (y := S * 33554432) (by omega) (by omega) (by omega) (by omega) (by omega) (by omega)]
theorem base_bd {L T S d a b : Int} (hL : 0 ≤ L ∧ L < 128) (hT : 0 ≤ T ∧ T < 8) (hS : 0 ≤ S ∧ S < 128) (hd : 0 ≤ d ∧ d < 32) (ha : 0 ≤ a ∧ a < 32) (hb : 0 ≤ b ∧ b < 32) : 0 ≤ baseW L T S d a b ∧ baseW L T S d a b < 4294967296 := by
  unfold baseW; omega
theorem or_1 {L T d a X : Int} (hL : 0 ≤ L ∧ L < 128) (hT : 0 ≤ T ∧ T < 8) (hd : 0 ≤ d ∧ d < 32) (ha : 0 ≤ a ∧ a < 32) (hX : 0 ≤ X ∧ X < 4096) :
    bits .or .u32 (baseW L T 0 d a 0) (X * 1048576) = L + T * 4096 + 0 * 33554432 + d * 128 + a * 32768 + 0 * 1048576 + X * 1048576 := by
  unfold baseW
  rw [or_up 20 1048576 rfl (by omega) (by omega) (by omega) (by omega) (by omega) (by omega)]
  omega
theorem or_6 {L T S d a X : Int} (hL : 0 ≤ L ∧ L < 128) (hT : 0 ≤ T ∧ T < 8) (hS : 0 ≤ S ∧ S < 128) (hd : 0 ≤ d ∧ d < 32) (ha : 0 ≤ a ∧ a < 32) (hX : 0 ≤ X ∧ X < 32) :
    bits .or .u32 (baseW L T S d a 0) (X * 1048576) = L + T * 4096 + S * 33554432 + d * 128 + a * 32768 + 0 * 1048576 + X * 1048576 := by
  have e : baseW L T S d a 0 = (L + d * 128 + T * 4096 + a * 32768) + S * 33554432 := by unfold baseW; omega
  rw [e, or_gap 20 25 1048576 33554432 rfl rfl (by omega) (by omega) (by omega) (by omega) (by omega) (by omega) (by omega) (by omega) (by omega) (by omega)]
  omega
theorem or_2 {L T a b X Y : Int} (hL : 0 ≤ L ∧ L < 128) (hT : 0 ≤ T ∧ T < 8) (ha : 0 ≤ a ∧ a < 32) (hb : 0 ≤ b ∧ b < 32) (hX : 0 ≤ X ∧ X < 128) (hY : 0 ≤ Y ∧ Y < 32) :
    bits .or .u32 (baseW L T 0 0 a b) (X * 33554432 + Y * 128) = L + T * 4096 + 0 * 33554432 + 0 * 128 + a * 32768 + b * 1048576 + (X * 33554432 + Y * 128) := by
  have e : baseW L T 0 0 a b = L + (T * 4096 + a * 32768 + b * 1048576) := by unfold baseW; omega
  have e2 : X * 33554432 + Y * 128 = bits .or .u32 (Y * 128) (X * 33554432) := by
    rw [or_up 25 33554432 rfl (by omega) (by omega) (by omega) (by omega) (by omega) (by omega)]; omega
  have g := or_gap 7 12 128 4096 rfl rfl (l := L) (n := Y * 128) (h := T * 4096 + a * 32768 + b * 1048576) (by omega) (by omega) (by omega) (by omega) (by omega) (by omega) (by omega) (by omega) (by omega) (by omega)
  have g2 := or_up 25 33554432 rfl (x := L + (T * 4096 + a * 32768 + b * 1048576) + Y * 128) (y := X * 33554432) (by omega) (by omega) (by omega) (by omega) (by omega) (by omega)
  have asc : bits .or .u32 (L + (T * 4096 + a * 32768 + b * 1048576)) (bits .or .u32 (Y * 128) (X * 33554432)) = bits .or .u32 (bits .or .u32 (L + (T * 4096 + a * 32768 + b * 1048576)) (Y * 128)) (X * 33554432) := by
    rw [← e2, u32_or _ _ (by omega) (by omega) (by omega) (by omega), g, u32_or _ _ (by omega) (by omega) (by omega) (by omega)]
    have t1 : (X * 33554432 + Y * 128).toNat = (X * 33554432).toNat ||| (Y * 128).toNat := by
      rw [nat_join 25 _ _ (by omega) (by omega)]; omega
    have t2 : (L + (T * 4096 + a * 32768 + b * 1048576) + Y * 128).toNat = (L + (T * 4096 + a * 32768 + b * 1048576)).toNat ||| (Y * 128).toNat := by
      have := g
      rw [u32_or _ _ (by omega) (by omega) (by omega) (by omega)] at this
      omega
    rw [t1, t2, Nat.or_comm (X * 33554432).toNat, Nat.or_assoc]
  rw [e, e2, asc, g, g2]
  rw [← e2]
  omega
theorem or_4 {L d X : Int} (hL : 0 ≤ L ∧ L < 128) (hd : 0 ≤ d ∧ d < 32) (hX : 0 ≤ X ∧ X < 1048576) :
    bits .or .u32 (baseW L 0 0 d 0 0) (X * 4096) = L + 0 * 4096 + 0 * 33554432 + d * 128 + 0 * 32768 + 0 * 1048576 + X * 4096 := by
  unfold baseW
  rw [or_up 12 4096 rfl (by omega) (by omega) (by omega) (by omega) (by omega) (by omega)]
  omega
theorem low_bd {o : Int} (h : 1 ≤ o ∧ o ≤ 46) : 0 ≤ lowI o ∧ lowI o < 128 := by
  have cs : (1 ≤ o ∧ o ≤ 18) ∨ (19 ≤ o ∧ o ≤ 24) ∨ (25 ≤ o ∧ o ≤ 27) ∨ (28 ≤ o ∧ o ≤ 32) ∨ (33 ≤ o ∧ o ≤ 35) ∨ (36 ≤ o ∧ o ≤ 41) ∨ (o = 42) ∨ (o = 43) ∨ (o = 44) ∨ (o = 45) ∨ (o = 46) := by omega
  rcases cs with c | c | c | c | c | c | c | c | c | c | c
  · rw [(cls_0 c).2.2.2.2]; omega
  · rw [(cls_1 c).2.2.2.2.1]; omega
  · rw [(cls_2 c).2.2.2.2]; omega
  · rw [(cls_3 c).2.2.2.2.1]; omega
  · rw [(cls_4 c).2.2.2.2.1]; omega
  · rw [(cls_5 c).2.2.2.2.1]; omega
  · rw [(cls_6 c).2.2.2.2.1]; omega
  · rw [(cls_7 c).2.2.2.2.1]; omega
  · rw [(cls_8 c).2.2.2.2.1]; omega
  · rw [(cls_9 c).2.2.2.2.1]; omega
  · rw [(cls_10 c).2.2.2.2.1]; omega
/-- the word with its number -/
theorem word_or {x : Q5} (C : CanI x) (h : 19 ≤ x.o) (ho : x.o ≤ 46) :
    bits .or .u32 (baseW (lowI x.o) (threeI x.o) (sevenI x.o) x.d x.a x.b) (putR (formL x.o) x.i) = wordI x := by
  obtain ⟨o, d, a, b, i⟩ := x
  obtain ⟨ho', hd, hd0, ha, ha0, hb, hb0, hi⟩ := C
  dsimp only at *
  have hT := three_bd ho'
  have hS := seven_bd o
  have low := low_bd (o := o) (by omega)
  have pr : ∀ form : Int, 1 ≤ form ∧ form ≤ 5 → numOk form i = true → putR form i = putW form (i % 4294967296) := fun form hf hn => by
    unfold putR; rw [num_put hf.1 hf.2 hn]; rfl
  have fl : formI o ≠ 6 → formL o = formI o := fun h => by unfold formL; rw [if_neg h]
  unfold wordI
  dsimp only
  have cs : (19 ≤ o ∧ o ≤ 24) ∨ (25 ≤ o ∧ o ≤ 27) ∨ (28 ≤ o ∧ o ≤ 32) ∨ (33 ≤ o ∧ o ≤ 35) ∨ (36 ≤ o ∧ o ≤ 41) ∨ (o = 42) ∨ (o = 43) ∨ (o = 44) ∨ (o = 45) ∨ (o = 46) := by omega
  rcases cs with c | c | c | c | c | c | c | c | c | c
  · obtain ⟨r1, r2, r3, f, l, s⟩ := cls_1 c
    rw [f] at hi
    rw [fl (by omega), f, s, hb0 r3, pr 1 (by omega) hi, put_num (by omega) (by omega)]
    exact or_1 low hT hd ha (X := i % 4294967296 % 4096) (by omega)
  · obtain ⟨r1, r2, r3, f, l⟩ := cls_2 c
    rw [f] at hi
    have hi2 : 0 ≤ i ∧ i < 32 := by simpa [numOk] using hi
    have e : formL o = 1 := by unfold formL; rw [f]; rfl
    have p : putR 1 i = i * 1048576 := by
      have : putOk 1 i = true := decide_eq_true ⟨by omega, by omega, (has_iff (by omega) (by omega) (by omega) (by omega)).2 (by show -2048 ≤ i ∧ i ≤ 2047; omega)⟩
      unfold putR; rw [this]
      show i % 4294967296 % 4096 * 1048576 = _
      omega
    rw [e, f, hb0 r3, p]
    exact or_6 low hT hS hd ha hi2
  · obtain ⟨r1, r2, r3, f, l, s⟩ := cls_3 c
    rw [f] at hi
    rw [fl (by omega), f, s, hb0 r3, pr 1 (by omega) hi, put_num (by omega) (by omega)]
    exact or_1 low hT hd ha (X := i % 4294967296 % 4096) (by omega)
  · obtain ⟨r1, r2, r3, f, l, s⟩ := cls_4 c
    rw [f] at hi
    obtain ⟨X, Y, hX, hY, eX⟩ := put2_parts (i % 4294967296)
    rw [fl (by omega), f, s, hd0 r1, pr 2 (by omega) hi, put_num (by omega) (by omega), eX]
    exact or_2 low hT ha hb hX hY
  · obtain ⟨r1, r2, r3, f, l, s⟩ := cls_5 c
    rw [f] at hi
    obtain ⟨X, Y, hX, hY, eX⟩ := put3_parts (i % 4294967296)
    rw [fl (by omega), f, s, hd0 r1, pr 3 (by omega) hi, put_num (by omega) (by omega), eX]
    exact or_2 low hT ha hb hX hY
  · obtain ⟨r1, r2, r3, f, l, s, th⟩ := cls_6 c
    rw [f] at hi
    rw [fl (by omega), f, s, th, ha0 r2, hb0 r3, pr 4 (by omega) hi, put_num (by omega) (by omega)]
    exact or_4 low hd (X := i % 4294967296 / 4096 % 1048576) (by omega)
  · obtain ⟨r1, r2, r3, f, l, s, th⟩ := cls_7 c
    rw [f] at hi
    rw [fl (by omega), f, s, th, ha0 r2, hb0 r3, pr 4 (by omega) hi, put_num (by omega) (by omega)]
    exact or_4 low hd (X := i % 4294967296 / 4096 % 1048576) (by omega)
  · obtain ⟨r1, r2, r3, f, l, s, th⟩ := cls_8 c
    rw [f] at hi
    obtain ⟨X, hX, eX⟩ := put5_parts (i % 4294967296)
    rw [fl (by omega), f, s, th, ha0 r2, hb0 r3, pr 5 (by omega) hi, put_num (by omega) (by omega), eX]
    exact or_4 low hd hX
  · obtain ⟨r1, r2, r3, f, l, s, th⟩ := cls_9 c
    rw [f] at hi
    rw [fl (by omega), f, s, th, hb0 r3, pr 1 (by omega) hi, put_num (by omega) (by omega)]
    exact or_1 low (by omega) hd ha (X := i % 4294967296 % 4096) (by omega)
  · obtain ⟨r1, r2, r3, f, l, s, th⟩ := cls_10 c
    rw [f] at hi
    rw [fl (by omega), f, s, th, hd0 r1, ha0 r2, hb0 r3, pr 1 (by omega) hi, put_num (by omega) (by omega)]
    exact or_1 low (by omega) (by omega) (by omega) (X := i % 4294967296 % 4096) (by omega)
theorem word_plain {x : Q5} (C : CanI x) (h : x.o ≤ 18) : baseW (lowI x.o) (threeI x.o) (sevenI x.o) x.d x.a x.b = wordI x := by
  obtain ⟨o, d, a, b, i⟩ := x
  obtain ⟨ho', hd, hd0, ha, ha0, hb, hb0, hi⟩ := C
  dsimp only at *
  obtain ⟨r1, r2, r3, f, l⟩ := cls_0 (o := o) (by omega)
  unfold wordI baseW
  dsimp only
  rw [f]
  show _ = _ + 0
  omega
end Go.Proofs.YtmlhoagcppofgaaGreatDoor
