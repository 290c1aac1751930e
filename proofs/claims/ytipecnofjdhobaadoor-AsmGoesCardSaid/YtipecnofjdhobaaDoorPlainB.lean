/- Plain facts on numbers within words, bit by bit. -/
import Derived.Test.YtipecnofjdhobaaDoorPlainA
namespace Go.Proofs.YtipecnofjdhobaaDoor.Pl
open Go Go.RowKit

/-- which bits of a word a form's number has, from its highest one on -/
def bitsL (form : Int) : List Int :=
  if form = 1 then [31, 30, 29, 28, 27, 26, 25, 24, 23, 22, 21, 20]
  else if form = 2 then [31, 30, 29, 28, 27, 26, 25, 11, 10, 9, 8, 7]
  else if form = 3 then [31, 7, 30, 29, 28, 27, 26, 25, 11, 10, 9, 8, -1]
  else if form = 4 then [31, 30, 29, 28, 27, 26, 25, 24, 23, 22, 21, 20, 19, 18, 17, 16, 15, 14, 13, 12, -1, -1, -1, -1, -1, -1, -1, -1, -1, -1, -1, -1]
  else if form = 5 then [31, 19, 18, 17, 16, 15, 14, 13, 12, 20, 30, 29, 28, 27, 26, 25, 24, 23, 22, 21, -1]
  else []

/-- a place's bit -/
def pbit (w p : Int) : Int := if p < 0 then 0 else w / 2 ^ p.toNat % 2
theorem pbit_bd (w p : Int) : 0 ≤ pbit w p ∧ pbit w p ≤ 1 := by unfold pbit; split <;> omega

/-- the number behind k places -/
def hK (w : Int) (L : List Int) : Nat → Int
  | 0 => 0
  | k + 1 => 2 * hK w L k + (if k = 0 then -pbit w (L.getD k 0) else pbit w (L.getD k 0))

theorem hK_bd (w : Int) (L : List Int) : ∀ k : Nat, -(2 : Int) ^ k ≤ hK w L k ∧ hK w L k < 2 ^ k
  | 0 => by simp [hK]
  | k + 1 => by
    have ih := hK_bd w L k
    have hb := pbit_bd w (L.getD k 0)
    rw [hK, Int.pow_succ]
    generalize pbit w (L.getD k 0) = b at *
    split
    · subst k
      have : hK w L 0 = 0 := rfl
      have : (2 : Int) ^ 0 = 1 := rfl
      omega
    · omega

/-- places that go down one by one -/
theorem hK_run (w : Int) (L : List Int) (k lo : Nat) (hk : 1 ≤ k) : ∀ m : Nat, (∀ j, j < m → L.getD (k + j) 0 = ((lo + (m - 1 - j) : Nat) : Int)) →
    hK w L (k + m) = hK w L k * 2 ^ m + w / 2 ^ lo % 2 ^ m := by
  intro m
  induction m generalizing lo with
  | zero => intro _; simp
  | succ m ih =>
    intro h
    have h1 := ih (lo + 1) (fun j hj => by rw [h j (by omega)]; congr 1; omega)
    have h2 : L.getD (k + m) 0 = (lo : Int) := by rw [h m (by omega)]; congr 1; omega
    rw [show k + (m + 1) = (k + m) + 1 from rfl, hK, h1, if_neg (by omega), h2]
    have e : pbit w (lo : Int) = w / 2 ^ lo % 2 := by unfold pbit; rw [if_neg (by omega)]; simp
    rw [e]
    have p1 : w / 2 ^ (lo + 1) = w / 2 ^ lo / 2 := by rw [Int.pow_succ, Int.ediv_ediv_of_nonneg (Int.le_of_lt (pow_toNat_pos lo))]
    rw [p1]
    generalize w / 2 ^ lo = x
    have p2 : x % 2 ^ (m + 1) = 2 * (x / 2 % 2 ^ m) + x % 2 := by
      have hp := pow_toNat_pos m
      have := Int.emod_emod_of_dvd x (Int.dvd_mul_left 2 (2 ^ m))
      rw [Int.pow_succ]
      have a1 := Int.emod_add_mul_ediv x (2 ^ m * 2)
      have a2 : x / (2 ^ m * 2) = x / 2 / 2 ^ m := by rw [Int.mul_comm, Int.ediv_ediv_of_nonneg (by omega)]
      have a3 := Int.emod_add_mul_ediv (x / 2) (2 ^ m)
      rw [a2] at a1
      generalize x / 2 / 2 ^ m = q at *
      generalize (2 : Int) ^ m = P at *
      have a4 : P * 2 * q = 2 * (P * q) := by rw [Int.mul_comm P 2, Int.mul_assoc]
      omega
    rw [p2, Int.pow_succ, ← Int.mul_assoc (hK w L k)]
    generalize hK w L k * 2 ^ m = y
    omega

theorem hK_nil (w : Int) (L : List Int) (k : Nat) (hk : 1 ≤ k) : ∀ m : Nat, (∀ j, j < m → L.getD (k + j) 0 = -1) → hK w L (k + m) = hK w L k * 2 ^ m := by
  intro m
  induction m with
  | zero => intro _; simp
  | succ m ih =>
    intro h
    rw [show k + (m + 1) = (k + m) + 1 from rfl, hK, ih (fun j hj => h j (by omega)), if_neg (by omega), h m (by omega)]
    rw [Int.pow_succ, ← Int.mul_assoc (hK w L k)]
    generalize hK w L k * 2 ^ m = y
    simp [pbit]; omega
theorem hK_one (w : Int) (L : List Int) (h : L.getD 0 0 = 31) : hK w L 1 = -(w / 2147483648 % 2) := by
  rw [hK, hK, h]; simp [pbit]

/-- a word's number in a form -/
def getS (form w : Int) : Int := hK w (bitsL form) (bitsL form).length

theorem get1 (w : Int) : getS 1 w = -(w / 2147483648 % 2) * 2048 + w / 1048576 % 2048 := by
  have := hK_run w (bitsL 1) 1 20 (by omega) 11 (by decide)
  rw [hK_one w (bitsL 1) rfl] at this
  exact this
theorem get2 (w : Int) : getS 2 w = (-(w / 2147483648 % 2) * 64 + w / 33554432 % 64) * 32 + w / 128 % 32 := by
  have h1 := hK_run w (bitsL 2) 1 25 (by omega) 6 (by decide)
  have h2 := hK_run w (bitsL 2) 7 7 (by omega) 5 (by decide)
  rw [hK_one w (bitsL 2) rfl] at h1
  rw [h1] at h2
  exact h2
theorem get3 (w : Int) : getS 3 w = (((-(w / 2147483648 % 2) * 2 + w / 128 % 2) * 64 + w / 33554432 % 64) * 16 + w / 256 % 16) * 2 := by
  have h1 := hK_run w (bitsL 3) 1 7 (by omega) 1 (by decide)
  have h2 := hK_run w (bitsL 3) 2 25 (by omega) 6 (by decide)
  have h3 := hK_run w (bitsL 3) 8 8 (by omega) 4 (by decide)
  have h4 := hK_nil w (bitsL 3) 12 (by omega) 1 (by decide)
  rw [hK_one w (bitsL 3) rfl] at h1
  rw [h1] at h2
  rw [h2] at h3
  rw [h3] at h4
  exact h4
theorem get4 (w : Int) : getS 4 w = (-(w / 2147483648 % 2) * 524288 + w / 4096 % 524288) * 4096 := by
  have h1 := hK_run w (bitsL 4) 1 12 (by omega) 19 (by decide)
  have h4 := hK_nil w (bitsL 4) 20 (by omega) 12 (by decide)
  rw [hK_one w (bitsL 4) rfl] at h1
  rw [h1] at h4
  exact h4
theorem get5 (w : Int) : getS 5 w = (((-(w / 2147483648 % 2) * 256 + w / 4096 % 256) * 2 + w / 1048576 % 2) * 1024 + w / 2097152 % 1024) * 2 := by
  have h1 := hK_run w (bitsL 5) 1 12 (by omega) 8 (by decide)
  have h2 := hK_run w (bitsL 5) 9 20 (by omega) 1 (by decide)
  have h3 := hK_run w (bitsL 5) 10 21 (by omega) 10 (by decide)
  have h4 := hK_nil w (bitsL 5) 20 (by omega) 1 (by decide)
  rw [hK_one w (bitsL 5) rfl] at h1
  rw [h1] at h2
  rw [h2] at h3
  rw [h3] at h4
  exact h4
theorem get0 {form : Int} (h : form < 1 ∨ 5 < form) (w : Int) : getS form w = 0 := by
  have : bitsL form = [] := by unfold bitsL; rw [if_neg (by omega), if_neg (by omega), if_neg (by omega), if_neg (by omega), if_neg (by omega)]
  simp [getS, this, hK]

theorem or_add (k P : Nat) (hP : P = 2 ^ k) {x y : Int} (h0 : 0 ≤ x) (h1 : x < 4294967296) (g0 : 0 ≤ y) (g1 : y < 4294967296) (hy : y < P) (hx : x % P = 0) :
    bits .or .u32 x y = x + y := by
  have e : ((x.toNat : Nat) : Int) = x := by omega
  have hx' : x.toNat % 2 ^ k = 0 := by
    have : ((x.toNat % P : Nat) : Int) = x % P := by rw [Int.natCast_emod, e]
    rw [← hP]; omega
  rw [u32_or x y h0 h1 g0 g1, nat_join k x.toNat y.toNat hx' (by rw [← hP]; omega)]
  omega
theorem and_mask (m : Nat) (hm : m ≤ 31) {x : Int} (h0 : 0 ≤ x) (h1 : x < 4294967296) : bits .and .u32 x ((2 ^ m - 1) % 4294967296) = x % 2 ^ m := by
  have p0 := pow_toNat_pos m
  have p1 : (2 : Nat) ^ m ≤ 2 ^ 31 := Nat.pow_le_pow_right (by omega) hm
  have p2 : ((2 ^ m : Nat) : Int) = (2 : Int) ^ m := by simp
  have e : ((2 : Int) ^ m - 1) % 4294967296 = 2 ^ m - 1 := by omega
  rw [e, u32_and x _ h0 h1 (by omega) (by omega)]
  have e2 : ((2 : Int) ^ m - 1).toNat = 2 ^ m - 1 := by omega
  rw [e2, Nat.and_two_pow_sub_one_eq_mod]
  rw [← p2, Int.natCast_emod]
  have : ((x.toNat : Nat) : Int) = x := by omega
  rw [this]

theorem get_bd (form : Int) {w : Int} (h0 : 0 ≤ w) (h1 : w < 4294967296) : -2147483648 ≤ getS form w ∧ getS form w ≤ 2147483647 := by
  by_cases h : form < 1 ∨ 5 < form
  · rw [get0 h]; omega
  · obtain rfl | rfl | rfl | rfl | rfl : form = 1 ∨ form = 2 ∨ form = 3 ∨ form = 4 ∨ form = 5 := by omega
    · rw [get1]; omega
    · rw [get2]; omega
    · rw [get3]; omega
    · rw [get4]; omega
    · rw [get5]; omega

theorem or4I {A B C D : Int} (a0 : 0 ≤ A) (a1 : A < 4294967296) (b0 : 0 ≤ B) (b1 : B < 4294967296) (c0 : 0 ≤ C) (c1 : C < 4294967296) (d0 : 0 ≤ D) (d1 : D < 4294967296) :
    bits .or .u32 (bits .or .u32 (bits .or .u32 A B) C) D = (((A.toNat ||| B.toNat ||| C.toNat ||| D.toNat : Nat)) : Int) := by
  have h1 := nat_lt_or a0 a1 b0 b1
  have h2 : A.toNat ||| B.toNat ||| C.toNat < 4294967296 := Nat.or_lt_two_pow (n := 32) h1 (by omega)
  rw [u32_or A B a0 a1 b0 b1, u32_or _ C (by omega) (by omega) c0 c1]
  simp only [Int.toNat_natCast]
  rw [u32_or _ D (by omega) (by omega) d0 d1]
  simp only [Int.toNat_natCast]
theorem or_rc (a b c : Nat) : a ||| b ||| c = a ||| c ||| b := by rw [Nat.or_assoc, Nat.or_comm b c, ← Nat.or_assoc]
theorem or4 (k1 k2 k3 : Nat) {a b c d : Nat} (h1 : a % 2 ^ k1 = 0) (g1 : c < 2 ^ k1) (h2 : (a + c) % 2 ^ k2 = 0) (g2 : d + b < 2 ^ k2) (h3 : d % 2 ^ k3 = 0) (g3 : b < 2 ^ k3) :
    a ||| b ||| c ||| d = a + b + c + d := by
  have e : a ||| b ||| c ||| d = (a ||| c) ||| (d ||| b) := by
    rw [or_rc a b c, Nat.or_assoc (a ||| c), Nat.or_comm b d]
  rw [e, nat_join k1 a c h1 g1, nat_join k3 d b h3 g3, nat_join k2 _ _ h2 g2]
  omega

/-- the word of a number -/
def putW (form n : Int) : Int := if form = 1 then n % 4096 * 1048576 else
  if form = 2 then n / 32 % 128 * 33554432 + n % 32 * 128 else
  if form = 3 then n / 4096 % 2 * 2147483648 + n / 2048 % 2 * 128 + n / 32 % 64 * 33554432 + n / 2 % 16 * 256 else
  if form = 4 then n / 4096 % 1048576 * 4096 else
  n / 1048576 % 2 * 2147483648 + n / 4096 % 256 * 4096 + n / 2048 % 2 * 1048576 + n / 2 % 1024 * 2097152
theorem put3 (n : Int) : bits .or .u32 (bits .or .u32 (bits .or .u32 (n / 4096 % 2 * 2147483648) (n / 2048 % 2 * 128)) (n / 32 % 64 * 33554432)) (n / 2 % 16 * 256) = putW 3 n := by
  rw [or4I (by omega) (by omega) (by omega) (by omega) (by omega) (by omega) (by omega) (by omega)]
  rw [or4 31 25 8 (by omega) (by omega) (by omega) (by omega) (by omega) (by omega)]
  show _ = n / 4096 % 2 * 2147483648 + n / 2048 % 2 * 128 + n / 32 % 64 * 33554432 + n / 2 % 16 * 256
  omega
theorem put5 (n : Int) : bits .or .u32 (bits .or .u32 (bits .or .u32 (n / 1048576 % 2 * 2147483648) (n / 4096 % 256 * 4096)) (n / 2048 % 2 * 1048576)) (n / 2 % 1024 * 2097152) = putW 5 n := by
  rw [or4I (by omega) (by omega) (by omega) (by omega) (by omega) (by omega) (by omega) (by omega)]
  rw [or_rc _ (n / 2048 % 2 * 1048576).toNat]
  rw [or4 31 21 20 (by omega) (by omega) (by omega) (by omega) (by omega) (by omega)]
  show _ = n / 1048576 % 2 * 2147483648 + n / 4096 % 256 * 4096 + n / 2048 % 2 * 1048576 + n / 2 % 1024 * 2097152
  omega
end Go.Proofs.YtipecnofjdhobaaDoor.Pl
