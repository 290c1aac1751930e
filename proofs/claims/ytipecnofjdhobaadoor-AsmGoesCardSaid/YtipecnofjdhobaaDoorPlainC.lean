/- Plain facts on words of numbers: sums of bits, masks, and that numbers come back. -/
import Derived.Test.YtipecnofjdhobaaDoorPlainB
namespace Go.Proofs.YtipecnofjdhobaaDoor.Pl
open Go Go.RowKit

theorem two_step (x : Int) (m : Nat) : x % 2 ^ (m + 1) = 2 * (x / 2 % 2 ^ m) + x % 2 := by
  rw [Int.pow_succ]
  have a1 := Int.emod_add_mul_ediv x (2 ^ m * 2)
  have a2 : x / (2 ^ m * 2) = x / 2 / 2 ^ m := by rw [Int.mul_comm, Int.ediv_ediv_of_nonneg (by omega)]
  have a3 := Int.emod_add_mul_ediv (x / 2) (2 ^ m)
  rw [a2] at a1
  generalize x / 2 / 2 ^ m = q at *
  generalize (2 : Int) ^ m = P at *
  have a4 : P * 2 * q = 2 * (P * q) := by rw [Int.mul_comm P 2, Int.mul_assoc]
  omega
theorem div_next (w : Int) (lo : Nat) : w / 2 ^ (lo + 1) = w / 2 ^ lo / 2 := by
  rw [Int.pow_succ, Int.ediv_ediv_of_nonneg (Int.le_of_lt (pow_toNat_pos lo))]

/-- what place k adds to the word of m -/
def tK (m : Int) (L : List Int) (k : Nat) : Int := if L.getD k 0 < 0 then 0 else m / 2 ^ (L.length - 1 - k) % 2 * 2 ^ (L.getD k 0).toNat
def sK (m : Int) (L : List Int) : Nat → Int
  | 0 => 0
  | k + 1 => sK m L k + tK m L k
/-- a mask -/
def mK (L : List Int) : Nat → Int
  | 0 => 0
  | k + 1 => mK L k + (if L.getD k 0 < 0 then 0 else 2 ^ (L.getD k 0).toNat)

theorem sK_run (m : Int) (L : List Int) (k : Nat) : ∀ (r b lo : Nat), (∀ j, j < r → L.getD (k + j) 0 = ((lo + (r - 1 - j) : Nat) : Int) ∧ L.length - 1 - (k + j) = b + (r - 1 - j)) →
    sK m L (k + r) = sK m L k + m / 2 ^ b % 2 ^ r * 2 ^ lo := by
  intro r
  induction r with
  | zero => intro b lo _; simp
  | succ r ih =>
    intro b lo h
    have h1 := ih (b + 1) (lo + 1) (fun j hj => by
      obtain ⟨x, y⟩ := h j (by omega)
      refine ⟨by rw [x]; congr 1; omega, by rw [y]; omega⟩)
    obtain ⟨h2, h3⟩ := h r (by omega)
    rw [show k + (r + 1) = (k + r) + 1 from rfl, sK, h1]
    have e : tK m L (k + r) = m / 2 ^ b % 2 * 2 ^ lo := by
      have h2' : L.getD (k + r) 0 = (lo : Int) := by rw [h2]; congr 1; omega
      have h3' : L.length - 1 - (k + r) = b := by rw [h3]; omega
      unfold tK; rw [h2', h3', if_neg (by omega)]; simp
    rw [e, div_next, two_step, Int.pow_succ]
    generalize m / 2 ^ b = x
    generalize x / 2 % 2 ^ r = y
    generalize (2 : Int) ^ lo = P
    rw [← Int.mul_assoc, Int.add_mul]
    have : y * P * 2 = 2 * y * P := by rw [Int.mul_comm, ← Int.mul_assoc]
    omega

theorem sK_nil (m : Int) (L : List Int) (k : Nat) : ∀ r : Nat, (∀ j, j < r → L.getD (k + j) 0 = -1) → sK m L (k + r) = sK m L k := by
  intro r
  induction r with
  | zero => intro _; rfl
  | succ r ih =>
    intro h
    rw [show k + (r + 1) = (k + r) + 1 from rfl, sK, ih (fun j hj => h j (by omega)), tK, h r (by omega), if_pos (by omega)]
    omega

theorem sum_put {form m : Int} (f0 : 1 ≤ form) (f1 : form ≤ 5) : sK m (bitsL form) (bitsL form).length = putW form m := by
  have z (L : List Int) : sK m L 0 = 0 := rfl
  obtain rfl | rfl | rfl | rfl | rfl : form = 1 ∨ form = 2 ∨ form = 3 ∨ form = 4 ∨ form = 5 := by omega
  · have a1 := sK_run m (bitsL 1) 0 12 0 20 (by decide)
    rw [z] at a1
    refine a1.trans ?_
    show _ = m % 4096 * 1048576
    simp
  · have a1 := sK_run m (bitsL 2) 0 7 5 25 (by decide)
    have a2 := sK_run m (bitsL 2) 7 5 0 7 (by decide)
    rw [z] at a1
    refine a2.trans ?_
    rw [show sK m (bitsL 2) 7 = _ from a1]
    show _ = m / 32 % 128 * 33554432 + m % 32 * 128
    simp
  · have a1 := sK_run m (bitsL 3) 0 1 12 31 (by decide)
    have a2 := sK_run m (bitsL 3) 1 1 11 7 (by decide)
    have a3 := sK_run m (bitsL 3) 2 6 5 25 (by decide)
    have a4 := sK_run m (bitsL 3) 8 4 1 8 (by decide)
    have a5 := sK_nil m (bitsL 3) 12 1 (by decide)
    rw [z] at a1
    refine a5.trans ?_
    rw [show sK m (bitsL 3) 12 = _ from a4, show sK m (bitsL 3) 8 = _ from a3, show sK m (bitsL 3) 2 = _ from a2, show sK m (bitsL 3) 1 = _ from a1]
    show _ = m / 4096 % 2 * 2147483648 + m / 2048 % 2 * 128 + m / 32 % 64 * 33554432 + m / 2 % 16 * 256
    simp
  · have a1 := sK_run m (bitsL 4) 0 20 12 12 (by decide)
    have a5 := sK_nil m (bitsL 4) 20 12 (by decide)
    rw [z] at a1
    refine a5.trans ?_
    rw [show sK m (bitsL 4) 20 = _ from a1]
    show _ = m / 4096 % 1048576 * 4096
    simp
  · have a1 := sK_run m (bitsL 5) 0 1 20 31 (by decide)
    have a2 := sK_run m (bitsL 5) 1 8 12 12 (by decide)
    have a3 := sK_run m (bitsL 5) 9 1 11 20 (by decide)
    have a4 := sK_run m (bitsL 5) 10 10 1 21 (by decide)
    have a5 := sK_nil m (bitsL 5) 20 1 (by decide)
    rw [z] at a1
    refine a5.trans ?_
    rw [show sK m (bitsL 5) 20 = _ from a4, show sK m (bitsL 5) 10 = _ from a3, show sK m (bitsL 5) 9 = _ from a2, show sK m (bitsL 5) 1 = _ from a1]
    show _ = m / 1048576 % 2 * 2147483648 + m / 4096 % 256 * 4096 + m / 2048 % 2 * 1048576 + m / 2 % 1024 * 2097152
    simp

theorem put_bd {form m : Int} (f0 : 1 ≤ form) (f1 : form ≤ 5) : 0 ≤ putW form m ∧ putW form m < 4294967296 := by
  obtain rfl | rfl | rfl | rfl | rfl : form = 1 ∨ form = 2 ∨ form = 3 ∨ form = 4 ∨ form = 5 := by omega
  · show 0 ≤ m % 4096 * 1048576 ∧ m % 4096 * 1048576 < 4294967296; omega
  · show 0 ≤ m / 32 % 128 * 33554432 + m % 32 * 128 ∧ m / 32 % 128 * 33554432 + m % 32 * 128 < 4294967296; omega
  · show 0 ≤ m / 4096 % 2 * 2147483648 + m / 2048 % 2 * 128 + m / 32 % 64 * 33554432 + m / 2 % 16 * 256 ∧ m / 4096 % 2 * 2147483648 + m / 2048 % 2 * 128 + m / 32 % 64 * 33554432 + m / 2 % 16 * 256 < 4294967296; omega
  · show 0 ≤ m / 4096 % 1048576 * 4096 ∧ m / 4096 % 1048576 * 4096 < 4294967296; omega
  · show 0 ≤ m / 1048576 % 2 * 2147483648 + m / 4096 % 256 * 4096 + m / 2048 % 2 * 1048576 + m / 2 % 1024 * 2097152 ∧ m / 1048576 % 2 * 2147483648 + m / 4096 % 256 * 4096 + m / 2048 % 2 * 1048576 + m / 2 % 1024 * 2097152 < 4294967296; omega

/-- a field of a number, as a mask has it -/
theorem and_field (w r lo : Nat) : w &&& ((2 ^ r - 1) * 2 ^ lo) = w / 2 ^ lo % 2 ^ r * 2 ^ lo := by
  apply Nat.eq_of_testBit_eq
  intro i
  simp only [Nat.testBit_and, Nat.testBit_mul_two_pow, Nat.testBit_two_pow_sub_one, Nat.testBit_mod_two_pow, Nat.testBit_div_two_pow]
  by_cases h : lo ≤ i
  · simp [h, show i - lo + lo = i by omega]
    rw [Bool.and_comm]
  · simp [h]

/-- which bits a form names -/
def maskS (form : Int) : Int := if form = 1 then 4293918720 else if form = 2 ∨ form = 3 then 4261416832 else 4294963200
theorem mask_is {form : Int} (f0 : 1 ≤ form) (f1 : form ≤ 5) : mK (bitsL form) (bitsL form).length = maskS form := by
  obtain rfl | rfl | rfl | rfl | rfl : form = 1 ∨ form = 2 ∨ form = 3 ∨ form = 4 ∨ form = 5 := by omega
  all_goals decide
theorem and_maskS {form w : Int} (f0 : 1 ≤ form) (f1 : form ≤ 5) (h0 : 0 ≤ w) (h1 : w < 4294967296) :
    bits .and .u32 w (maskS form) = if form = 1 then w / 1048576 * 1048576 else if form = 2 ∨ form = 3 then w / 33554432 * 33554432 + w / 128 % 32 * 128 else w / 4096 * 4096 := by
  obtain rfl | h | h : form = 1 ∨ (form = 2 ∨ form = 3) ∨ (form = 4 ∨ form = 5) := by omega
  · show bits .and .u32 w 4293918720 = w / 1048576 * 1048576
    rw [u32_and w _ h0 h1 (by omega) (by omega)]
    have := and_field w.toNat 12 20
    rw [show (4293918720 : Int).toNat = (2 ^ 12 - 1) * 2 ^ 20 from rfl, this]
    simp; omega
  · have e : maskS form = 4261416832 := by rcases h with rfl | rfl <;> rfl
    rw [e, if_neg (by omega), if_pos h, u32_and w _ h0 h1 (by omega) (by omega)]
    have t1 := and_field w.toNat 7 25
    have t2 := and_field w.toNat 5 7
    rw [show (4261416832 : Int).toNat = (2 ^ 7 - 1) * 2 ^ 25 ||| (2 ^ 5 - 1) * 2 ^ 7 by decide, Nat.and_or_distrib_left, t1, t2, nat_join 25 _ _ (by omega) (by omega)]
    simp; omega
  · have e : maskS form = 4294963200 := by rcases h with rfl | rfl <;> rfl
    rw [e, if_neg (by omega), if_neg (by omega), u32_and w _ h0 h1 (by omega) (by omega)]
    have := and_field w.toNat 20 12
    rw [show (4294963200 : Int).toNat = (2 ^ 20 - 1) * 2 ^ 12 from rfl, this]
    simp; omega

/-- what is left of a word's number: its bits that the form names -/
def named (form w : Int) : Int := if form = 1 then w / 1048576 * 1048576 else if form = 2 ∨ form = 3 then w / 33554432 * 33554432 + w / 128 % 32 * 128 else w / 4096 * 4096

theorem f3 {b f r : Int} (hb : 0 ≤ b ∧ b ≤ 1) (hf : 0 ≤ f ∧ f ≤ 63) (hr : 0 ≤ r ∧ r ≤ 15) (s : Int) (hs : s = 0 ∨ s = 1) :
    (4294963200 * s + (b * 2048 + f * 32 + r * 2)) / 4096 % 2 = s ∧ (4294963200 * s + (b * 2048 + f * 32 + r * 2)) / 2048 % 2 = b ∧
    (4294963200 * s + (b * 2048 + f * 32 + r * 2)) / 32 % 64 = f ∧ (4294963200 * s + (b * 2048 + f * 32 + r * 2)) / 2 % 16 = r := by
  rcases hs with rfl | rfl
  all_goals refine ⟨?_, ?_, ?_, ?_⟩
  all_goals omega
theorem f3v {b f r : Int} (hb : 0 ≤ b ∧ b ≤ 1) (hf : 0 ≤ f ∧ f ≤ 63) (hr : 0 ≤ r ∧ r ≤ 15) (s : Int) (hs : s = 0 ∨ s = 1) :
    ((((-s * 2 + b) * 64 + f) * 16 + r) * 2) % 4294967296 = 4294963200 * s + (b * 2048 + f * 32 + r * 2) := by
  rcases hs with rfl | rfl
  all_goals omega
theorem f5 {x c d : Int} (hx : 0 ≤ x ∧ x ≤ 255) (hc : 0 ≤ c ∧ c ≤ 1) (hd : 0 ≤ d ∧ d ≤ 1023) (s : Int) (hs : s = 0 ∨ s = 1) :
    (s * 4293918720 + (x * 4096 + c * 2048 + d * 2)) / 1048576 % 2 = s ∧ (s * 4293918720 + (x * 4096 + c * 2048 + d * 2)) / 4096 % 256 = x ∧
    (s * 4293918720 + (x * 4096 + c * 2048 + d * 2)) / 2048 % 2 = c ∧ (s * 4293918720 + (x * 4096 + c * 2048 + d * 2)) / 2 % 1024 = d := by
  rcases hs with rfl | rfl
  all_goals refine ⟨?_, ?_, ?_, ?_⟩
  all_goals omega
theorem f5v {x c d : Int} (hx : 0 ≤ x ∧ x ≤ 255) (hc : 0 ≤ c ∧ c ≤ 1) (hd : 0 ≤ d ∧ d ≤ 1023) (s : Int) (hs : s = 0 ∨ s = 1) :
    ((((-s * 256 + x) * 2 + c) * 1024 + d) * 2) % 4294967296 = s * 4293918720 + (x * 4096 + c * 2048 + d * 2) := by
  rcases hs with rfl | rfl
  all_goals omega
theorem g2 {x y : Int} (hx : 0 ≤ x ∧ x ≤ 127) (hy : 0 ≤ y ∧ y ≤ 31) :
    (x * 33554432 + y * 128) / 2147483648 % 2 = x / 64 ∧ (x * 33554432 + y * 128) / 33554432 % 64 = x % 64 ∧ (x * 33554432 + y * 128) / 128 % 32 = y := by
  have e : (x * 33554432 + y * 128) / 2147483648 = (x * 33554432 + y * 128) / 33554432 / 64 := by omega
  have e2 : (x * 33554432 + y * 128) / 33554432 = x := by omega
  rw [e, e2]
  refine ⟨by omega, rfl, by omega⟩
theorem g3 {x1 x2 x3 x4 : Int} (h1 : x1 = 0 ∨ x1 = 1) (h2 : 0 ≤ x2 ∧ x2 ≤ 1) (h3 : 0 ≤ x3 ∧ x3 ≤ 63) (h4 : 0 ≤ x4 ∧ x4 ≤ 15) :
    (x1 * 2147483648 + x2 * 128 + x3 * 33554432 + x4 * 256) / 2147483648 % 2 = x1 ∧ (x1 * 2147483648 + x2 * 128 + x3 * 33554432 + x4 * 256) / 128 % 2 = x2 ∧
    (x1 * 2147483648 + x2 * 128 + x3 * 33554432 + x4 * 256) / 33554432 % 64 = x3 ∧ (x1 * 2147483648 + x2 * 128 + x3 * 33554432 + x4 * 256) / 256 % 16 = x4 := by
  rcases h1 with rfl | rfl
  all_goals refine ⟨?_, ?_, ?_, ?_⟩
  all_goals omega
theorem g5 {x1 x2 x3 x4 : Int} (h1 : x1 = 0 ∨ x1 = 1) (h2 : 0 ≤ x2 ∧ x2 ≤ 255) (h3 : 0 ≤ x3 ∧ x3 ≤ 1) (h4 : 0 ≤ x4 ∧ x4 ≤ 1023) :
    (x1 * 2147483648 + x2 * 4096 + x3 * 1048576 + x4 * 2097152) / 2147483648 % 2 = x1 ∧ (x1 * 2147483648 + x2 * 4096 + x3 * 1048576 + x4 * 2097152) / 4096 % 256 = x2 ∧
    (x1 * 2147483648 + x2 * 4096 + x3 * 1048576 + x4 * 2097152) / 1048576 % 2 = x3 ∧ (x1 * 2147483648 + x2 * 4096 + x3 * 1048576 + x4 * 2097152) / 2097152 % 1024 = x4 := by
  rcases h1 with rfl | rfl
  all_goals refine ⟨?_, ?_, ?_, ?_⟩
  all_goals omega

theorem back1 {w : Int} (h0 : 0 ≤ w) (h1 : w < 4294967296) : putW 1 (getS 1 w % 4294967296) = w / 1048576 * 1048576 := by
  show getS 1 w % 4294967296 % 4096 * 1048576 = _
  rw [get1]; omega
theorem back2 {w : Int} (h0 : 0 ≤ w) (h1 : w < 4294967296) : putW 2 (getS 2 w % 4294967296) = w / 33554432 * 33554432 + w / 128 % 32 * 128 := by
  show getS 2 w % 4294967296 / 32 % 128 * 33554432 + getS 2 w % 4294967296 % 32 * 128 = _
  rw [get2]
  have t1 : w / 2147483648 = w / 33554432 / 64 := by omega
  have t2 : 0 ≤ w / 33554432 ∧ w / 33554432 ≤ 127 := by omega
  rw [t1]
  generalize w / 33554432 = x at *
  generalize w / 128 = y
  omega
theorem back3 {w : Int} (h0 : 0 ≤ w) (h1 : w < 4294967296) : putW 3 (getS 3 w % 4294967296) = w / 33554432 * 33554432 + w / 128 % 32 * 128 := by
  show getS 3 w % 4294967296 / 4096 % 2 * 2147483648 + getS 3 w % 4294967296 / 2048 % 2 * 128 + getS 3 w % 4294967296 / 32 % 64 * 33554432 + getS 3 w % 4294967296 / 2 % 16 * 256 = _
  rw [get3]
  have t1 : w / 2147483648 = w / 33554432 / 64 := by omega
  have t2 : 0 ≤ w / 33554432 ∧ w / 33554432 ≤ 127 := by omega
  have t3 : w / 256 = w / 128 / 2 := by omega
  rw [t1, t3]
  generalize w / 33554432 = x at *
  generalize w / 128 = y
  obtain ⟨s, f, rfl, g1, g2, g3, g4⟩ : ∃ s f, x = s * 64 + f ∧ 0 ≤ s ∧ s ≤ 1 ∧ 0 ≤ f ∧ f ≤ 63 := ⟨x / 64, x % 64, by omega, by omega, by omega, by omega, by omega⟩
  obtain ⟨q, r, b, rfl, k1, k2, k3, k4⟩ : ∃ q r b, y = (q * 16 + r) * 2 + b ∧ 0 ≤ r ∧ r ≤ 15 ∧ 0 ≤ b ∧ b ≤ 1 := ⟨y / 32, y / 2 % 16, y % 2, by omega, by omega, by omega, by omega, by omega⟩
  have u1 : (s * 64 + f) / 64 % 2 = s := by omega
  have u2 : (s * 64 + f) % 64 = f := by omega
  have u3 : ((q * 16 + r) * 2 + b) % 2 = b := by omega
  have u4 : ((q * 16 + r) * 2 + b) / 2 % 16 = r := by omega
  have u5 : ((q * 16 + r) * 2 + b) % 32 = r * 2 + b := by omega
  rw [u1, u2, u3, u4, u5]
  have hs : s = 0 ∨ s = 1 := by omega
  obtain ⟨v1, v2, v3, v4⟩ := f3 ⟨k3, k4⟩ ⟨g3, g4⟩ ⟨k1, k2⟩ s hs
  rw [f3v ⟨k3, k4⟩ ⟨g3, g4⟩ ⟨k1, k2⟩ s hs, v1, v2, v3, v4]
  clear u1 u2 u3 u4 u5 t1 t2 t3 v1 v2 v3 v4
  omega
theorem back4 {w : Int} (h0 : 0 ≤ w) (h1 : w < 4294967296) : putW 4 (getS 4 w % 4294967296) = w / 4096 * 4096 := by
  show getS 4 w % 4294967296 / 4096 % 1048576 * 4096 = _
  rw [get4]; omega
theorem back5 {w : Int} (h0 : 0 ≤ w) (h1 : w < 4294967296) : putW 5 (getS 5 w % 4294967296) = w / 4096 * 4096 := by
  show getS 5 w % 4294967296 / 1048576 % 2 * 2147483648 + getS 5 w % 4294967296 / 4096 % 256 * 4096 + getS 5 w % 4294967296 / 2048 % 2 * 1048576 + getS 5 w % 4294967296 / 2 % 1024 * 2097152 = _
  rw [get5]
  obtain ⟨s, d, c, x, e, rfl, g1, g2, g3, g4, g5, g6, g7, g8, g9, g10⟩ : ∃ s d c x e, w = s * 2147483648 + d * 2097152 + c * 1048576 + x * 4096 + e ∧ 0 ≤ s ∧ s ≤ 1 ∧ 0 ≤ d ∧ d ≤ 1023 ∧ 0 ≤ c ∧ c ≤ 1 ∧ 0 ≤ x ∧ x ≤ 255 ∧ 0 ≤ e ∧ e ≤ 4095 :=
    ⟨w / 2147483648, w / 2097152 % 1024, w / 1048576 % 2, w / 4096 % 256, w % 4096, by omega, by omega, by omega, by omega, by omega, by omega, by omega, by omega, by omega, by omega, by omega⟩
  have u1 : (s * 2147483648 + d * 2097152 + c * 1048576 + x * 4096 + e) / 2147483648 % 2 = s := by omega
  have u2 : (s * 2147483648 + d * 2097152 + c * 1048576 + x * 4096 + e) / 4096 % 256 = x := by omega
  have u3 : (s * 2147483648 + d * 2097152 + c * 1048576 + x * 4096 + e) / 1048576 % 2 = c := by omega
  have u4 : (s * 2147483648 + d * 2097152 + c * 1048576 + x * 4096 + e) / 2097152 % 1024 = d := by omega
  have u5 : (s * 2147483648 + d * 2097152 + c * 1048576 + x * 4096 + e) / 4096 * 4096 = s * 2147483648 + d * 2097152 + c * 1048576 + x * 4096 := by omega
  rw [u1, u2, u3, u4, u5]
  clear u1 u2 u3 u4 u5
  have hs : s = 0 ∨ s = 1 := by omega
  obtain ⟨v1, v2, v3, v4⟩ := f5 ⟨g7, g8⟩ ⟨g5, g6⟩ ⟨g3, g4⟩ s hs
  rw [f5v ⟨g7, g8⟩ ⟨g5, g6⟩ ⟨g3, g4⟩ s hs, v1, v2, v3, v4]
  omega
theorem back {form w : Int} (f0 : 1 ≤ form) (f1 : form ≤ 5) (h0 : 0 ≤ w) (h1 : w < 4294967296) : putW form (getS form w % 4294967296) = named form w := by
  obtain rfl | rfl | rfl | rfl | rfl : form = 1 ∨ form = 2 ∨ form = 3 ∨ form = 4 ∨ form = 5 := by omega
  · exact back1 h0 h1
  · exact back2 h0 h1
  · exact back3 h0 h1
  · exact back4 h0 h1
  · exact back5 h0 h1
theorem get_named {form w : Int} (f0 : 1 ≤ form) (f1 : form ≤ 5)  : getS form (named form w) = getS form w := by
  obtain rfl | rfl | rfl | rfl | rfl : form = 1 ∨ form = 2 ∨ form = 3 ∨ form = 4 ∨ form = 5 := by omega
  · show getS 1 (w / 1048576 * 1048576) = _; rw [get1, get1]; omega
  · show getS 2 (w / 33554432 * 33554432 + w / 128 % 32 * 128) = _; rw [get2, get2]
    have u1 : (w / 33554432 * 33554432 + w / 128 % 32 * 128) / 2147483648 = w / 2147483648 := by omega
    have u2 : (w / 33554432 * 33554432 + w / 128 % 32 * 128) / 33554432 = w / 33554432 := by omega
    have u3 : (w / 33554432 * 33554432 + w / 128 % 32 * 128) / 128 % 32 = w / 128 % 32 := by omega
    rw [u1, u2, u3]
  · show getS 3 (w / 33554432 * 33554432 + w / 128 % 32 * 128) = _; rw [get3, get3]
    have u1 : (w / 33554432 * 33554432 + w / 128 % 32 * 128) / 2147483648 = w / 2147483648 := by omega
    have u2 : (w / 33554432 * 33554432 + w / 128 % 32 * 128) / 33554432 = w / 33554432 := by omega
    have u3 : (w / 33554432 * 33554432 + w / 128 % 32 * 128) / 128 % 2 = w / 128 % 2 := by omega
    have u4 : (w / 33554432 * 33554432 + w / 128 % 32 * 128) / 256 % 16 = w / 256 % 16 := by omega
    rw [u1, u2, u3, u4]
  · show getS 4 (w / 4096 * 4096) = _; rw [get4, get4]; omega
  · show getS 5 (w / 4096 * 4096) = _; rw [get5, get5]
    have u1 : w / 4096 * 4096 / 2147483648 = w / 2147483648 := by omega
    have u2 : w / 4096 * 4096 / 4096 = w / 4096 := by omega
    have u3 : w / 4096 * 4096 / 1048576 = w / 1048576 := by omega
    have u4 : w / 4096 * 4096 / 2097152 = w / 2097152 := by omega
    rw [u1, u2, u3, u4]

/-- which numbers a form has -/
def hasS (form n : Int) : Prop := if form = 3 then -4096 ≤ n ∧ n ≤ 4095 ∧ n % 2 = 0 else if form = 4 then n % 4096 = 0 else if form = 5 then -1048576 ≤ n ∧ n ≤ 1048575 ∧ n % 2 = 0 else -2048 ≤ n ∧ n ≤ 2047
theorem has_iff {form n : Int} (f0 : 1 ≤ form) (f1 : form ≤ 5) (h0 : -2147483648 ≤ n) (h1 : n ≤ 2147483647) : getS form (putW form (n % 4294967296)) = n ↔ hasS form n := by
  obtain rfl | rfl | rfl | rfl | rfl : form = 1 ∨ form = 2 ∨ form = 3 ∨ form = 4 ∨ form = 5 := by omega
  · show getS 1 (n % 4294967296 % 4096 * 1048576) = n ↔ (-2048 ≤ n ∧ n ≤ 2047); rw [get1]; omega
  · show getS 2 (n % 4294967296 / 32 % 128 * 33554432 + n % 4294967296 % 32 * 128) = n ↔ (-2048 ≤ n ∧ n ≤ 2047); rw [get2]
    have e1 : n % 4294967296 / 32 % 128 = n / 32 % 128 := by omega
    have e2 : n % 4294967296 % 32 = n % 32 := by omega
    rw [e1, e2]
    have k : n = n / 4096 * 4096 + n / 32 % 128 * 32 + n % 32 := by omega
    have b1 : 0 ≤ n / 32 % 128 ∧ n / 32 % 128 ≤ 127 := by omega
    have b2 : 0 ≤ n % 32 ∧ n % 32 ≤ 31 := by omega
    generalize n / 4096 = t at *
    generalize n / 32 % 128 = x at *
    generalize n % 32 = y at *
    obtain ⟨u1, u2, u3⟩ := g2 b1 b2
    rw [u1, u2, u3]
    clear u1 u2 u3 e1 e2
    omega
  · show getS 3 (n % 4294967296 / 4096 % 2 * 2147483648 + n % 4294967296 / 2048 % 2 * 128 + n % 4294967296 / 32 % 64 * 33554432 + n % 4294967296 / 2 % 16 * 256) = n ↔ (-4096 ≤ n ∧ n ≤ 4095 ∧ n % 2 = 0); rw [get3]
    have e1 : n % 4294967296 / 4096 % 2 = n / 4096 % 2 := by omega
    have e2 : n % 4294967296 / 2048 % 2 = n / 2048 % 2 := by omega
    have e3 : n % 4294967296 / 32 % 64 = n / 32 % 64 := by omega
    have e4 : n % 4294967296 / 2 % 16 = n / 2 % 16 := by omega
    rw [e1, e2, e3, e4]
    have b1 : 0 ≤ n / 4096 % 2 ∧ n / 4096 % 2 ≤ 1 := by omega
    have b2 : 0 ≤ n / 2048 % 2 ∧ n / 2048 % 2 ≤ 1 := by omega
    have b3 : 0 ≤ n / 32 % 64 ∧ n / 32 % 64 ≤ 63 := by omega
    have b4 : 0 ≤ n / 2 % 16 ∧ n / 2 % 16 ≤ 15 := by omega
    have k : n = n / 8192 * 8192 + n / 4096 % 2 * 4096 + n / 2048 % 2 * 2048 + n / 32 % 64 * 32 + n / 2 % 16 * 2 + n % 2 := by omega
    have b5 : 0 ≤ n % 2 ∧ n % 2 ≤ 1 := by omega
    generalize n / 8192 = t at *
    generalize n / 4096 % 2 = x1 at *
    generalize n / 2048 % 2 = x2 at *
    generalize n / 32 % 64 = x3 at *
    generalize n / 2 % 16 = x4 at *
    generalize n % 2 = x5 at *
    obtain ⟨u1, u2, u3, u4⟩ := g3 (x1 := x1) (by omega) b2 b3 b4
    rw [u1, u2, u3, u4]
    clear u1 u2 u3 u4 e1 e2 e3 e4
    omega
  · show getS 4 (n % 4294967296 / 4096 % 1048576 * 4096) = n ↔ n % 4096 = 0; rw [get4]; omega
  · show getS 5 (n % 4294967296 / 1048576 % 2 * 2147483648 + n % 4294967296 / 4096 % 256 * 4096 + n % 4294967296 / 2048 % 2 * 1048576 + n % 4294967296 / 2 % 1024 * 2097152) = n ↔ (-1048576 ≤ n ∧ n ≤ 1048575 ∧ n % 2 = 0); rw [get5]
    have e1 : n % 4294967296 / 1048576 % 2 = n / 1048576 % 2 := by omega
    have e2 : n % 4294967296 / 4096 % 256 = n / 4096 % 256 := by omega
    have e3 : n % 4294967296 / 2048 % 2 = n / 2048 % 2 := by omega
    have e4 : n % 4294967296 / 2 % 1024 = n / 2 % 1024 := by omega
    rw [e1, e2, e3, e4]
    have b1 : 0 ≤ n / 1048576 % 2 ∧ n / 1048576 % 2 ≤ 1 := by omega
    have b2 : 0 ≤ n / 4096 % 256 ∧ n / 4096 % 256 ≤ 255 := by omega
    have b3 : 0 ≤ n / 2048 % 2 ∧ n / 2048 % 2 ≤ 1 := by omega
    have b4 : 0 ≤ n / 2 % 1024 ∧ n / 2 % 1024 ≤ 1023 := by omega
    have k : n = n / 2097152 * 2097152 + n / 1048576 % 2 * 1048576 + n / 4096 % 256 * 4096 + n / 2048 % 2 * 2048 + n / 2 % 1024 * 2 + n % 2 := by omega
    have b5 : 0 ≤ n % 2 ∧ n % 2 ≤ 1 := by omega
    generalize n / 2097152 = t at *
    generalize n / 1048576 % 2 = x1 at *
    generalize n / 4096 % 256 = x2 at *
    generalize n / 2048 % 2 = x3 at *
    generalize n / 2 % 1024 = x4 at *
    generalize n % 2 = x5 at *
    obtain ⟨u1, u2, u3, u4⟩ := g5 (x1 := x1) (by omega) b2 b3 b4
    rw [u1, u2, u3, u4]
    clear u1 u2 u3 u4 e1 e2 e3 e4
    omega
end Go.Proofs.YtipecnofjdhobaaDoor.Pl
