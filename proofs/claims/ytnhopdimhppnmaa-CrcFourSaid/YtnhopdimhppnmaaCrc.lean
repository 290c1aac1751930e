/- Contracts of package crc: what each call answers. -/
import Derived.Test.YtnhopdimhppnmaaProg
import Derived.Test.YtnhopdimhppnmaaPlainK
import Derived.WalkSpells
import Derived.WalkSmall
import Derived.Handy
import Derived.Lib.Hide
import Derived.BigQuiet
namespace Go.Proofs.Ytnhopdimhppnmaa
open Go Go.RowKit Pl
set_option linter.unusedVariables false

/-- the table's cells behind k rounds -/
def tabA (k : Nat) : Array Value := ((List.range 16).map fun j => Value.int .u32 (if j < k then (st4 j : Nat) else 0 : Nat)).toArray
theorem tab_size (k : Nat) : (tabA k).size = 16 := by simp [tabA]
theorem tab_at (k : Nat) (h : k < 16) : (tabA k)[k]? = some (.int .u32 0) := by simp [tabA, h]
theorem tab_set (k : Nat) (h : k < 16) : (tabA k).setIfInBounds k (.int .u32 (st4 k : Nat)) = tabA (k + 1) := by
  apply Array.ext
  · simp [tabA]
  · intro i h1 h2
    simp [tabA] at h2
    by_cases e : k = i
    · subst e; simp [tabA]
    · simp [tabA, e]
      congr 2
      apply propext
      omega
theorem tab_zero : tabA 0 = #[.int .u32 0, .int .u32 0, .int .u32 0, .int .u32 0, .int .u32 0, .int .u32 0, .int .u32 0, .int .u32 0, .int .u32 0, .int .u32 0, .int .u32 0, .int .u32 0, .int .u32 0, .int .u32 0, .int .u32 0, .int .u32 0] := by rfl

theorem tab_all : tabA 16 = #[.int .u32 0, .int .u32 498536548, .int .u32 997073096, .int .u32 651767980, .int .u32 1994146192, .int .u32 1802195444, .int .u32 1303535960, .int .u32 1342533948, .int .u32 3988292384, .int .u32 4027552580, .int .u32 3604390888, .int .u32 3412177804, .int .u32 2607071920, .int .u32 2262029012, .int .u32 2685067896, .int .u32 3183342108] := by rfl
def stN : Nat → Nat → Nat
  | 0, x => x
  | j + 1, x => st (stN j x)
theorem stN_lt (x : Nat) (h : x < 4294967296) : ∀ j, stN j x < 4294967296
  | 0 => h
  | j + 1 => st_lt (stN_lt x h j)
theorem and1 (x : Nat) (h : x < 4294967296) : bits .and .u32 (x : Int) 1 = ((x % 2 : Nat) : Int) := by
  rw [show (1 : Int) = ((1 : Nat) : Int) from rfl, u32_and_nat x 1 h (by omega), nat_mask1]
theorem xor_p (x : Nat) (h : x < 4294967296) : bits .xor .u32 ((x : Int) / 2) 3988292384 = (((x / 2) ^^^ 3988292384 : Nat) : Int) := by
  rw [show ((x : Int) / 2) = ((x / 2 : Nat) : Int) by omega, show (3988292384 : Int) = ((3988292384 : Nat) : Int) from rfl, u32_xor_nat _ _ (by omega) (by omega)]

set_option maxRecDepth 100000 in
set_option maxHeartbeats 1000000 in
theorem fours_any (w : World) :
    Calls Try.prog 48 #[] w fun e w' => e = .returned (.agg (tabA 16)) ∧ Below w.heap.size w w' := by
  go_enter Try.func48, Try.ntmps48
  go_wp2
  rw [← tab_zero]
  go_loopw [4] (fun v wr => ∃ k : Nat, k ≤ 16 ∧ v = .int .u32 k ∧ wr = (w.alloc (.cells (tabA 0) 73)).alloc (.cells (tabA k) 73)) (fun v _ => 16 - (intOf v).toNat)
  case atStart => exact ⟨0, by omega, rfl, rfl⟩
  case round =>
    obtain ⟨k, hk, rfl, rfl⟩ := hrel
    by_cases hlt : k < 16
    · have t1 := tab_at k hlt
      have T2 := Lib.hid (tab_set k hlt)
      have sz := tab_size k
      go_wp2
      go_loop [3, 8] (fun v i => ∃ j : Nat, j ≤ 4 ∧ i = .int .i64 j ∧ v = .int .u32 (stN j k : Nat)) (fun _ i => 4 - (intOf i).toNat)
      case atStart => exact ⟨0, by omega, rfl, rfl⟩
      case round =>
        obtain ⟨j, hj, rfl, rfl⟩ := hrel
        by_cases hl : j < 4
        · have hb := stN_lt k (by omega) j
          have a1 := and1 _ hb
          have x1 := xor_p _ hb
          have nx : stN (j + 1) k = st (stN j k) := rfl
          have NX := Lib.hid nx
          clear nx
          generalize stN j k = x at *
          obtain hp | hp : x % 2 = 0 ∨ x % 2 = 1 := by omega
          · have hp2 : ((x : Int) % 2 == 1) = false := by simp; omega
            have HP := Lib.hid hp
            clear hp
            go_wp2
            go_round
            case measure => simp [intOf]; omega
            case rel =>
              refine ⟨j + 1, by omega, by go_num, ?_⟩
              congr 1
              rw [NX.out, st, if_neg (by rw [HP.out]; omega)]
              omega
          · have hp2 : ((x : Int) % 2 == 1) = true := by simp; omega
            have HP := Lib.hid hp
            clear hp
            go_wp2
            go_round
            case measure => simp [intOf]; omega
            case rel =>
              refine ⟨j + 1, by omega, by go_num, ?_⟩
              congr 1
              rw [NX.out, st, if_pos HP.out]
        · obtain rfl : j = 4 := by omega
          go_wp2
          go_roundw
          case measure => simp [intOf]; omega
          case rel => exact ⟨k + 1, by omega, by go_num, by rw [← T2.out]; rfl⟩
    · obtain rfl : k = 16 := by omega
      rw [tab_all, tab_zero]
      go_wp2
      go_returns
      exact ⟨rfl, by go_grown⟩

end Go.Proofs.Ytnhopdimhppnmaa
