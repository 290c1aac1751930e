/- Hashes of events. -/
import Derived.Test.YtidpaijnnkainaaDoorExI
namespace Go.Proofs.YtidpaijnnkainaaDoor
open Go Go.RowKit Go.Shelf Pl
set_option linter.unusedVariables false

theorem xor_two (a b : Nat) : a ^^^ b = 2 * ((a / 2) ^^^ (b / 2)) + (a + b) % 2 := by
  have h1 : (a ^^^ b) / 2 = (a / 2) ^^^ (b / 2) := Nat.xor_div_two
  have h2 : (a ^^^ b) % 2 = (a + b) % 2 := by
    have h := Nat.xor_mod_two_pow (a := a) (b := b) (n := 1)
    rw [Nat.pow_one] at h
    rw [h]
    rcases Nat.mod_two_eq_zero_or_one a with ha | ha <;> rcases Nat.mod_two_eq_zero_or_one b with hb | hb <;> rw [ha, hb] <;> simp <;> omega
  omega
theorem xor_at (a b i : Nat) : (a / 2 ^ i) ^^^ (b / 2 ^ i) = 2 * ((a / 2 ^ (i + 1)) ^^^ (b / 2 ^ (i + 1))) + (a / 2 ^ i + b / 2 ^ i) % 2 := by
  have h := xor_two (a / 2 ^ i) (b / 2 ^ i)
  rwa [Nat.div_div_eq_div_mul, Nat.div_div_eq_div_mul, ← Nat.pow_succ] at h
/-- one word more in a hash -/
def mixN (h x : Nat) : Nat := (h ^^^ x) * 16777619 % 4294967296
set_option maxHeartbeats 2000000 in
theorem mix_any (H X : Nat) (hH : H < 4294967296) (hX : X < 4294967296) (W : World) : Calls Tryd.prog 32 #[.int .u32 (H : Nat), .int .u32 (X : Nat)] W fun e w' => e = .returned (.int .u32 (mixN H X : Nat)) ∧ W = w' := by
  go_enter Tryd.func32, Tryd.ntmps32
  go_wp2_with fail
  go_loopw [5, 6] (fun u i wr => ∃ m : Nat, m ≤ 32 ∧ i = .int .i64 ((m : Int) - 1) ∧ u = .int .u32 (((H / 2 ^ m) ^^^ (X / 2 ^ m) : Nat)) ∧ wr = W) (fun u i _ => (intOf i + 1).toNat)
  case atStart => exact ⟨32, by omega, rfl, by rw [Nat.div_eq_of_lt (by omega), Nat.div_eq_of_lt (by omega)]; rfl, rfl⟩
  case round =>
    obtain ⟨m, hm, rfl, rfl, rfl⟩ := hrel
    by_cases h0 : m = 0
    · subst h0
      rw [Nat.pow_zero, Nat.div_one, Nat.div_one]
      go_wp2_with fail
      go_ret
      refine ⟨?_, rfl⟩
      unfold mixN
      rw [Int.natCast_emod, Int.natCast_mul]
      rfl
    · obtain ⟨j, rfl⟩ : ∃ j, m = j + 1 := ⟨m - 1, by omega⟩
      have e0 : ((j + 1 : Nat) : Int) - 1 = (j : Int) := by omega
      rw [e0]
      have XA := Lib.hid (xor_at H X j)
      have b1 : H / 2 ^ j < 4294967296 := Nat.lt_of_le_of_lt (Nat.div_le_self _ _) hH
      have b2 : X / 2 ^ j < 4294967296 := Nat.lt_of_le_of_lt (Nat.div_le_self _ _) hX
      have b3 : (H / 2 ^ (j + 1)) ^^^ (X / 2 ^ (j + 1)) < 2147483648 := by
        have a1 : H / 2 ^ (j + 1) < 2 ^ 31 := by rw [Nat.pow_succ, Nat.mul_comm, ← Nat.div_div_eq_div_mul]; have := Nat.div_le_self (H / 2) (2 ^ j); omega
        have a2 : X / 2 ^ (j + 1) < 2 ^ 31 := by rw [Nat.pow_succ, Nat.mul_comm, ← Nat.div_div_eq_div_mul]; have := Nat.div_le_self (X / 2) (2 ^ j); omega
        exact Nat.xor_lt_two_pow a1 a2
      generalize (H / 2 ^ (j + 1)) ^^^ (X / 2 ^ (j + 1)) = U at *
      go_wp2_with fail
      refine ⟨⟨j, by omega, rfl, ?_, trivial⟩, ?_⟩
      · rw [XA.out, Int.natCast_add, Int.natCast_mul, Int.natCast_emod, Int.natCast_add, Int.natCast_ediv, Int.natCast_ediv, Int.natCast_pow]
        rfl
      · show ((j : Int) - 1 + 1).toNat < ((j : Int) + 1).toNat
        omega
end Go.Proofs.YtidpaijnnkainaaDoor
