/- Plain facts on floats: small whole numbers are exact. -/
import Derived.WalkKit
namespace Go.Proofs.Ytgemajmimjkgcaa.Pl
open Go Ieee

theorem log2_shift (n d : Nat) (hn : n ≠ 0) : (n <<< d).log2 = n.log2 + d := by
  have hp : 0 < 2 ^ d := Nat.two_pow_pos d
  have h0 : n <<< d ≠ 0 := by
    rw [Nat.shiftLeft_eq]
    have := Nat.mul_pos (Nat.pos_of_ne_zero hn) hp
    omega
  refine (Nat.log2_eq_iff h0).2 ?_
  have a := Nat.log2_self_le hn
  have b := @Nat.lt_log2_self n
  rw [Nat.shiftLeft_eq]
  constructor
  · rw [Nat.pow_add]; exact Nat.mul_le_mul_right _ a
  · rw [show n.log2 + d + 1 = (n.log2 + 1) + d by omega, Nat.pow_add]
    exact (Nat.mul_lt_mul_right hp).2 b
theorem cut_none (neg : Bool) (n : Nat) : Toward.even.cut neg n 0 = n := by
  simp [Toward.cut, Nat.mod_one]
theorem cut_exact (neg : Bool) (n d : Nat) (hn : n ≠ 0) : Toward.even.cut neg (n <<< d) d = n := by
  unfold Toward.cut
  rw [show min d ((n <<< d).log2 + 2) = d by rw [log2_shift n d hn]; omega]
  have hp : 0 < 2 ^ d := Nat.two_pow_pos d
  simp only [Nat.shiftLeft_eq, Nat.one_mul, Nat.mul_div_cancel _ hp, Nat.mul_mod_left, Nat.mul_zero]
  have h2 : (2 ^ d == 0) = false := by simp
  simp [h2]
/-- the word of a small whole number, however it is scaled -/
theorem near_small (neg : Bool) (n k : Nat) (hn : n ≠ 0) (hL : n.log2 ≤ 52) :
    double.nearest neg (n <<< k) (-(k : Int)) = double.word neg ((n.log2 + 1022) * 2 ^ 52 + n <<< (52 - n.log2)) := by
  have h0 : n <<< k ≠ 0 := by
    rw [Nat.shiftLeft_eq]
    have := Nat.mul_pos (Nat.pos_of_ne_zero hn) (Nat.two_pow_pos k)
    omega
  have hlp : double.leastPlace = -1074 := by decide
  have hfb : double.fractionBits = 52 := rfl
  have hbi : double.binade = 2 ^ 52 := rfl
  unfold Format.nearest
  rw [if_neg h0, log2_shift n k hn, hlp, hfb, hbi]
  have hlast : max (-(k : Int) + ((n.log2 + k : Nat) : Int) - (52 : Nat)) (-1074) = (n.log2 : Int) - 52 := by omega
  simp only [hlast]
  have hkept : Toward.even.cut neg ((n <<< k) <<< (-(k : Int) - ((n.log2 : Int) - 52)).toNat) ((n.log2 : Int) - 52 - -(k : Int)).toNat = n <<< (52 - n.log2) := by
    by_cases c : n.log2 + k ≤ 52
    · rw [show (-(k : Int) - ((n.log2 : Int) - 52)).toNat = 52 - n.log2 - k by omega, show ((n.log2 : Int) - 52 - -(k : Int)).toNat = 0 by omega, cut_none, ← Nat.shiftLeft_add]
      congr 1; omega
    · rw [show (-(k : Int) - ((n.log2 : Int) - 52)).toNat = 0 by omega, show ((n.log2 : Int) - 52 - -(k : Int)).toNat = n.log2 + k - 52 by omega, Nat.shiftLeft_zero,
        show n <<< k = (n <<< (52 - n.log2)) <<< (n.log2 + k - 52) by rw [← Nat.shiftLeft_add]; congr 1; omega]
      refine cut_exact neg _ _ ?_
      rw [Nat.shiftLeft_eq]
      have := Nat.mul_pos (Nat.pos_of_ne_zero hn) (Nat.two_pow_pos (52 - n.log2))
      omega
  have up : n <<< (52 - n.log2) < 2 ^ 53 := by
    rw [Nat.shiftLeft_eq]
    have b := @Nat.lt_log2_self n
    have := (Nat.mul_lt_mul_right (Nat.two_pow_pos (52 - n.log2))).2 b
    rw [← Nat.pow_add, show n.log2 + 1 + (52 - n.log2) = 53 by omega] at this
    exact this
  have e : ((n.log2 : Int) - 52 - -1074).toNat = n.log2 + 1022 := by omega
  have hinf : double.infRung = 2047 * 2 ^ 52 := by simp only [Format.infRung, Format.binade, double]
  rw [hkept, e, hinf]
  generalize n <<< (52 - n.log2) = m at *
  generalize n.log2 = L at *
  clear hkept e hinf hlast h0 hn hlp hfb hbi
  have hm : min ((L + 1022) * 2 ^ 52 + m) (2047 * 2 ^ 52) = (L + 1022) * 2 ^ 52 + m := by omega
  rw [hm]
/-- the same word, whatever the scale -/
theorem near_scale (neg : Bool) (n k : Nat) (hn : n ≠ 0) (hL : n.log2 ≤ 52) : double.nearest neg (n <<< k) (-(k : Int)) = double.nearest neg n 0 := by
  rw [near_small neg n k hn hL]
  have := near_small neg n 0 hn hL
  simpa using this.symm
/-- a small whole number is read as it was written -/
theorem read_small (neg : Bool) (n : Nat) (hn : n ≠ 0) (hL : n.log2 ≤ 52) : double.read (double.nearest neg n 0) = .number neg (n <<< (52 - n.log2)) ((n.log2 : Int) - 52) := by
  have h := near_small neg n 0 hn hL
  have h' : double.nearest neg n 0 = double.word neg ((n.log2 + 1022) * 2 ^ 52 + n <<< (52 - n.log2)) := by simpa using h
  rw [h']
  have lo : 2 ^ 52 ≤ n <<< (52 - n.log2) := by
    rw [Nat.shiftLeft_eq]
    have := Nat.mul_le_mul_right (2 ^ (52 - n.log2)) (Nat.log2_self_le hn)
    rwa [← Nat.pow_add, show n.log2 + (52 - n.log2) = 52 by omega] at this
  have up : n <<< (52 - n.log2) < 2 ^ 53 := by
    rw [Nat.shiftLeft_eq]
    have b := @Nat.lt_log2_self n
    have := (Nat.mul_lt_mul_right (Nat.two_pow_pos (52 - n.log2))).2 b
    rwa [← Nat.pow_add, show n.log2 + 1 + (52 - n.log2) = 53 by omega] at this
  clear h h' hn
  generalize n <<< (52 - n.log2) = m at *
  generalize n.log2 = L at *
  have hsw : double.signWeight = 2 ^ 63 := by simp only [Format.signWeight, double]
  have hinf : double.infRung = 2047 * 2 ^ 52 := by simp only [Format.infRung, Format.binade, double]
  have hbi : double.binade = 2 ^ 52 := by simp only [Format.binade, double]
  have hlp : double.leastPlace = -1074 := by decide
  have hneg : (double.word neg ((L + 1022) * 2 ^ 52 + m) / 2 ^ 63 % 2 == 1) = neg := by
    unfold Format.word
    rw [hsw]
    cases neg
    · simp only [Bool.false_eq_true, if_false, beq_eq_false_iff_ne, ne_eq]; omega
    · simp only [if_true, beq_iff_eq]; omega
  have hr : double.word neg ((L + 1022) * 2 ^ 52 + m) % 2 ^ 63 = (L + 1022) * 2 ^ 52 + m := by
    unfold Format.word
    rw [hsw]
    cases neg
    · simp only [Bool.false_eq_true, if_false]; omega
    · simp only [if_true]; omega
  unfold Format.read
  simp only [hsw, hinf, hbi, hlp, hneg, hr]
  rw [if_neg (by omega), if_pos (by omega)]
  have e1 : 2 ^ 52 + ((L + 1022) * 2 ^ 52 + m) % 2 ^ 52 = m := by omega
  have e2 : (-1074 : Int) + ((((L + 1022) * 2 ^ 52 + m) / 2 ^ 52 - 1 : Nat) : Int) = (L : Int) - 52 := by omega
  rw [e1, e2]
/-- the word of a whole number -/
def fN (a : Int) : Nat := double.nearest (decide (a < 0)) a.natAbs 0
theorem read_any (a : Int) (hL : a.natAbs.log2 ≤ 52) : ∃ p : Nat, double.read (fN a) = .number (decide (a < 0)) (a.natAbs <<< p) (-(p : Int)) := by
  by_cases h : a = 0
  · subst h
    exact ⟨1074, by decide⟩
  · refine ⟨52 - a.natAbs.log2, ?_⟩
    unfold fN
    rw [read_small _ _ (by omega) hL]
    congr 1
    omega
theorem signed_val (a : Int) (p q : Nat) : signed (decide (a < 0)) (a.natAbs <<< p) q = a * 2 ^ (p + q) := by
  unfold signed
  rw [← Nat.shiftLeft_add, Nat.shiftLeft_eq]
  by_cases h : a < 0
  · rw [decide_eq_true h, if_pos rfl, Int.natCast_mul, show ((a.natAbs : Nat) : Int) = -a by omega, Int.neg_mul, Int.neg_neg]
    simp
  · rw [decide_eq_false h, if_neg (by decide), Int.natCast_mul, show ((a.natAbs : Nat) : Int) = a by omega]
    simp
theorem order_small (a b : Int) (ha : a.natAbs.log2 ≤ 52) (hb : b.natAbs.log2 ≤ 52) : double.order (fN a) (fN b) = some (compare a b) := by
  obtain ⟨p, hp⟩ := read_any a ha
  obtain ⟨q, hq⟩ := read_any b hb
  unfold Format.order
  rw [hp, hq]
  simp only [Datum.order, signed_val]
  rw [show p + (-(p : Int) - min (-(p : Int)) (-(q : Int))).toNat = max p q by omega, show q + (-(q : Int) - min (-(p : Int)) (-(q : Int))).toNat = max p q by omega]
  have hpos : (0 : Int) < 2 ^ max p q := Int.pow_pos (by decide)
  generalize (2 : Int) ^ max p q = T at *
  congr 1
  simp only [compare, compareOfLessAndEq]
  have l : a * T < b * T ↔ a < b := ⟨fun h => Int.lt_of_mul_lt_mul_right h (by omega), fun h => Int.mul_lt_mul_of_pos_right h hpos⟩
  have e : a * T = b * T ↔ a = b := ⟨fun h => Int.eq_of_mul_eq_mul_right (by omega) h, fun h => by rw [h]⟩
  simp only [l, e]
theorem write_sum (c : Int) (K : Nat) (z : Bool) (hz : c = 0 → z = false) (hc : c.natAbs.log2 ≤ 52) :
    double.write (.number (if c * 2 ^ K = 0 then z else decide (c * 2 ^ K < 0)) (c * 2 ^ K).natAbs (-(K : Int))) = fN c := by
  have hpos : (0 : Int) < 2 ^ K := Int.pow_pos (by decide)
  by_cases h : c = 0
  · subst h
    rw [hz rfl]
    simp [Format.write, Format.nearest, fN]
  · have h1 : c * 2 ^ K ≠ 0 := by
      intro g
      rcases Int.mul_eq_zero.1 g with g | g <;> omega
    have h2 : (c * 2 ^ K).natAbs = c.natAbs <<< K := by
      rw [Int.natAbs_mul, Nat.shiftLeft_eq, Int.natAbs_pow]; rfl
    have h3 : decide (c * 2 ^ K < 0) = decide (c < 0) := by
      refine decide_eq_decide.2 ⟨fun g => ?_, fun g => ?_⟩
      · by_cases u : c < 0
        · exact u
        · have := Int.mul_nonneg (show 0 ≤ c by omega) (show (0 : Int) ≤ 2 ^ K by omega)
          omega
      · have := Int.mul_lt_mul_of_pos_right g hpos
        rwa [Int.zero_mul] at this
    rw [if_neg h1, h2, h3]
    show double.nearest _ _ _ = _
    rw [near_scale _ _ _ (by omega) hc]
    rfl
theorem add_small (a b : Int) (ha : a.natAbs.log2 ≤ 52) (hb : b.natAbs.log2 ≤ 52) (hab : (a + b).natAbs.log2 ≤ 52) : double.add (fN a) (fN b) = some (fN (a + b)) := by
  obtain ⟨p, hp⟩ := read_any a ha
  obtain ⟨q, hq⟩ := read_any b hb
  have w := write_sum (a + b) (max p q) (decide (a < 0) && decide (b < 0)) (fun h => by
    by_cases g : a < 0
    · have : ¬ b < 0 := by omega
      simp [this]
    · simp [g]) hab
  unfold Format.add
  rw [hp, hq]
  simp only [Datum.sum, signed_val, Option.map_some]
  rw [show p + (-(p : Int) - min (-(p : Int)) (-(q : Int))).toNat = max p q by omega, show q + (-(q : Int) - min (-(p : Int)) (-(q : Int))).toNat = max p q by omega, ← Int.add_mul, show min (-(p : Int)) (-(q : Int)) = -((max p q : Nat) : Int) by omega, w]
theorem signed_not (s : Bool) (m q : Nat) : signed (!s) m q = -signed s m q := by
  unfold signed
  cases s <;> simp
theorem sub_small (a b : Int) (ha : a.natAbs.log2 ≤ 52) (hb : b.natAbs.log2 ≤ 52) (hab : (a - b).natAbs.log2 ≤ 52) : double.sub (fN a) (fN b) = some (fN (a - b)) := by
  obtain ⟨p, hp⟩ := read_any a ha
  obtain ⟨q, hq⟩ := read_any b hb
  have w := write_sum (a - b) (max p q) (decide (a < 0) && !decide (b < 0)) (fun h => by
    by_cases g : a < 0
    · have : b < 0 := by omega
      simp [this]
    · simp [g]) hab
  unfold Format.sub
  rw [hp, hq]
  simp only [Datum.opposite, Datum.sum, signed_not, signed_val, Option.map_some]
  rw [show p + (-(p : Int) - min (-(p : Int)) (-(q : Int))).toNat = max p q by omega, show q + (-(q : Int) - min (-(p : Int)) (-(q : Int))).toNat = max p q by omega, ← Int.sub_eq_add_neg, ← Int.sub_mul, show min (-(p : Int)) (-(q : Int)) = -((max p q : Nat) : Int) by omega, w]
theorem log2_le (a : Int) (h : -1048576 ≤ a ∧ a ≤ 1048576) : a.natAbs.log2 ≤ 52 := by
  by_cases g : a.natAbs = 0
  · rw [g]; decide
  · have := (Nat.log2_lt g (k := 53)).2 (by omega)
    omega
theorem fN_nearest (a : Int) : FloatKind.f64.nearest a = fN a := rfl
end Go.Proofs.Ytgemajmimjkgcaa.Pl
