/- Contracts of package crc, more: sums of bytes. -/
import Derived.Test.YtnhopdimhppnmaaCrc
namespace Go.Proofs.Ytnhopdimhppnmaa
open Go Go.RowKit Pl
set_option linter.unusedVariables false

theorem ret_u32 {a b : Int} (h : a = b) : Ending.returned (.int .u32 a) = .returned (.int .u32 b) := by rw [h]
theorem fours_b (w : World) : Calls Try.prog 48 #[] w fun e w' => e = .returned (.agg (tabA 16)) ∧ Below w.heap.size w w' := fours_any w
theorem tab16_at (j : Nat) (h : j < 16) : (tabA 16)[j]? = some (.int .u32 (st4 j : Nat)) := by simp [tabA, h]
theorem not32 (x : Nat) (h : x < 4294967296) : bits .xor .u32 IntKind.u32.max (x : Int) = ((4294967295 - x : Nat) : Int) := by
  rw [show IntKind.u32.max = ((4294967295 : Nat) : Int) from rfl, u32_xor_nat _ _ (by omega) h]
  congr 1
  apply Nat.eq_of_testBit_eq
  intro i
  rw [Nat.testBit_xor, show 4294967295 - x = 2 ^ 32 - (x + 1) by omega, Nat.testBit_two_pow_sub_succ h, show (4294967295 : Nat) = 2 ^ 32 - 1 from rfl, Nat.testBit_two_pow_sub_one]
  by_cases hi : i < 32
  · simp [hi]
  · have : x.testBit i = false := Nat.testBit_lt_two_pow (Nat.lt_of_lt_of_le (show x < 2 ^ 32 from h) (Nat.pow_le_pow_right (by decide) (Nat.le_of_not_lt hi)))
    simp [hi, this]
theorem four_step (z : Nat) (h : z < 4294967296) : bits .xor .u32 ((z : Int) / 16) (st4 (z % 16) : Nat) = (st4 z : Nat) := by
  rw [show ((z : Int) / 16) = ((z / 16 : Nat) : Int) by omega, u32_xor_nat _ _ (by omega) (st4_lt (by omega)), ← st4_four]
theorem and15 (x : Nat) (h : x < 4294967296) : bits .and .u32 (x : Int) 15 = ((x % 16 : Nat) : Int) := by
  rw [show (15 : Int) = ((15 : Nat) : Int) from rfl, u32_and_nat x 15 h (by omega), nat_mask4]
theorem xor_nn (x y : Nat) (h : x < 4294967296) (g : y < 4294967296) : bits .xor .u32 (x : Int) (y : Int) = ((x ^^^ y : Nat) : Int) := u32_xor_nat x y h g

/-- bytes of a slice -/
def BytesAt (w : World) (a : Option Addr) (l : List Nat) : Prop :=
  (∀ x ∈ l, x < 256) ∧ l.length ≤ 9223372036854775807 ∧ (l = [] ∨ ∃ b off, a = some ⟨b, off, none⟩ ∧ b < w.heap.size ∧ ∀ k, k < l.length → w.cell? ⟨b, off + k, none⟩ = some (.int .u8 (l.getD k 0 : Nat)))

theorem take_next {l : List Nat} {k : Nat} (h : k < l.length) : l.take (k + 1) = l.take k ++ [l.getD k 0] := by
  rw [List.take_succ_eq_append_getElem h]; simp [List.getD, h]

set_option maxHeartbeats 1000000 in
theorem more_any (s : Nat) (a : Option Addr) (c : Nat) (l : List Nat) (w : World) (hs : s < 4294967296) (hl : BytesAt w a l) :
    Calls Try.prog 19 #[.int .u32 (s : Int), .slice a l.length c] w fun e w' => e = .returned (.int .u32 (crcS s l : Nat)) ∧ Below w.heap.size w w' := by
  obtain ⟨h256, hmax, hcell⟩ := hl
  have n1 := not32 s hs
  have FL := Lib.hid (fun k => fold_lt (l.take k) (4294967295 - s) (by omega) (fun x hx => h256 x (List.mem_of_mem_take hx)))
  have H256 := Lib.hid h256
  clear h256
  rcases hcell with rfl | ⟨b, off, rfl, hb, hc⟩
  · have n2 := not32 (4294967295 - s) (by omega)
    have e0 : crcS s [] = 4294967295 - (4294967295 - s) := rfl
    have E0 := Lib.hid e0
    clear e0
    go_enter Try.func19, Try.ntmps19
    go_wp2_with fail
    refine (fours_b _).mono ?_
    rintro e w1 ⟨rfl, hbl⟩
    rw [tab_all]
    go_wp2_with fail
    go_rounds 1
    go_ret
    exact ⟨ret_u32 (by rw [E0.out]), hbl.alloc hbl.size _⟩
  · have HC := Lib.hid hc
    clear hc
    go_enter Try.func19, Try.ntmps19
    go_wp2_with fail
    refine (fours_b _).mono ?_
    rintro e w1 ⟨rfl, hbl⟩
    rw [tab_all]
    go_wp2_with fail
    rw [← tab_all]
    obtain ⟨w2, hw2⟩ : ∃ w2, w2 = w1.alloc (.cells (tabA 16) 73) := ⟨_, rfl⟩
    have ct := Lib.hid (show ∀ j, j < 16 → w2.cell? ⟨w1.heap.size, j, none⟩ = some (.int .u32 (st4 j : Nat)) from fun j hj => by rw [hw2, World.cell?_alloc_new]; exact tab16_at j hj)
    have cb := Lib.hid (show ∀ k, k < l.length → w2.cell? ⟨b, off + k, none⟩ = some (.int .u8 (l.getD k 0 : Nat)) from fun k hk => by
      rw [hw2]
      exact (World.cell?_alloc_past (w := w1) _ _ _ (Nat.lt_of_lt_of_le hb hbl.size)).trans ((hbl.cell hb).trans (HC.out k hk)))
    have hB : Below w.heap.size w w2 := by rw [hw2]; exact hbl.alloc hbl.size _
    rw [← hw2]
    have hz : w1.heap.size < w2.heap.size := by rw [hw2]; simp
    clear hw2
    go_loop [6, 14] (fun v i => ∃ k : Nat, k ≤ l.length ∧ i = .int .i64 k ∧ v = .int .u32 ((l.take k).foldl byteS (4294967295 - s) : Nat)) (fun _ i => l.length - (intOf i).toNat)
    case atStart => exact ⟨0, Nat.zero_le _, rfl, rfl⟩
    case round =>
      obtain ⟨k, hk, rfl, rfl⟩ := hrel
      by_cases hlt : k < l.length
      · have cx := cb.out k hlt
        have fl := FL.out k
        have TN := Lib.hid (take_next hlt)
        have hx : l.getD k 0 < 256 := by
          apply H256.out
          simp [List.getD, hlt]
        generalize l.getD k 0 = x at *
        have FO := Lib.hid (show (l.take (k + 1)).foldl byteS (4294967295 - s) = byteS ((l.take k).foldl byteS (4294967295 - s)) x by rw [TN.out, List.foldl_append]; rfl)
        generalize (l.take k).foldl byteS (4294967295 - s) = y at *
        have x1 := xor_nn y x fl (by omega)
        have y1 := xor_lt fl (show x < 4294967296 by omega)
        have BS := Lib.hid (show byteS y x = st4 (st4 (y ^^^ x)) from rfl)
        generalize y ^^^ x = z at *
        have a1 := and15 z y1
        have c1 := ct.out (z % 16) (by omega)
        have x2 := four_step z y1
        have z1 := st4_lt y1
        generalize st4 z = z' at *
        have a2 := and15 z' z1
        have c2 := ct.out (z' % 16) (by omega)
        have x3 := four_step z' z1
        go_wp2
        go_round
        case measure => simp [intOf]; omega
        case rel => exact ⟨k + 1, by omega, by go_num, by rw [FO.out, BS.out]⟩
      · obtain rfl : k = l.length := by omega
        have fl := FL.out l.length
        rw [List.take_length] at fl ⊢
        have n2 := not32 _ fl
        go_wp2
        go_ret
        exact ⟨rfl, hB⟩

set_option maxHeartbeats 400000 in
theorem sum_any (a : Option Addr) (c : Nat) (l : List Nat) (w : World) (hl : BytesAt w a l) :
    Calls Try.prog 15 #[.slice a l.length c] w fun e w' => e = .returned (.int .u32 (crcS 0 l : Nat)) ∧ Below w.heap.size w w' := by
  go_enter Try.func15, Try.ntmps15
  go_wp2_with fail
  refine (more_any 0 a c l _ (by omega) hl).mono ?_
  rintro e w1 ⟨rfl, hb⟩
  go_wp2_with fail
  go_ret
  exact ⟨rfl, hb⟩

end Go.Proofs.Ytnhopdimhppnmaa
