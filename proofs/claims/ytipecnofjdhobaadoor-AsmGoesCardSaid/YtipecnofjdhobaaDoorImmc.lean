/- Contracts of packages imm and pintleref02: what each call answers. -/
import Derived.Test.YtipecnofjdhobaaDoorNumc
import Derived.Test.YtipecnofjdhobaaDoorPlainC
import Derived.WalkSmall
namespace Go.Proofs.YtipecnofjdhobaaDoor
open Go Go.RowKit Pl
set_option linter.unusedVariables false

theorem sext12 {x : Int} (h0 : 0 ≤ x) (h1 : x < 4294967296) : sg (sextS x 12) = if x % 4096 < 2048 then x % 4096 else x % 4096 - 4096 := by
  have e : sextS x 12 = (if x % 4096 < 2048 then x % 4096 else x % 4096 - 4096) % 4294967296 := rfl
  rw [e]; unfold sg; repeat' split
  all_goals omega
theorem sext13 {x : Int} (h0 : 0 ≤ x) (h1 : x < 4294967296) : sg (sextS x 13) = if x % 8192 < 4096 then x % 8192 else x % 8192 - 8192 := by
  have e : sextS x 13 = (if x % 8192 < 4096 then x % 8192 else x % 8192 - 8192) % 4294967296 := rfl
  rw [e]; unfold sg; repeat' split
  all_goals omega
theorem sext21 {x : Int} (h0 : 0 ≤ x) (h1 : x < 4294967296) : sg (sextS x 21) = if x % 2097152 < 1048576 then x % 2097152 else x % 2097152 - 2097152 := by
  have e : sextS x 21 = (if x % 2097152 < 1048576 then x % 2097152 else x % 2097152 - 2097152) % 4294967296 := rfl
  rw [e]; unfold sg; repeat' split
  all_goals omega
theorem sext_bd (x n : Int) (h0 : 0 ≤ x) (h1 : x < 4294967296) : 0 ≤ sextS x n ∧ sextS x n < 4294967296 := by
  unfold sextS; repeat' (apply ite_bd <;> intro _)
  all_goals omega

set_option maxHeartbeats 400000 in
theorem imm_bits (a f m : Int) (w : World) (h0 : 0 ≤ a) (h1 : a < 4294967296) (f0 : 0 ≤ f) (f1 : f ≤ 31) (m0 : 0 ≤ m) (m1 : m ≤ 31) :
    Calls Tryd.prog 51 #[.int .u32 a, .int .u64 f, .int .u64 m] w fun e w' => e = .returned (.int .u32 (a / 2 ^ f.toNat % 2 ^ m.toNat)) ∧ w = w' := by
  obtain ⟨q0, q1⟩ := pow_bd (y := m.toNat) (by omega)
  obtain ⟨d0, d1⟩ := div_le_self f.toNat h0
  have e := and_mask m.toNat (by omega) d0 (by omega)
  go_enter Tryd.func51, Tryd.ntmps51
  go_wp2
  go_ret
  exact ⟨rfl, rfl⟩

set_option maxHeartbeats 1000000 in
theorem imm_get (form a : Int) (w : World) (h0 : 0 ≤ a) (h1 : a < 4294967296) :
    Calls Tryd.prog 49 #[.int .i64 form, .int .u32 a] w fun e w' => e = .returned (.int .i32 (getS form a)) ∧ w = w' := by
  by_cases h : 1 ≤ form ∧ form ≤ 5
  · have e2 : bits .or .u32 (a / 33554432 * 32) (a / 128 % 32) = a / 33554432 * 32 + a / 128 % 32 := or_add 5 32 rfl (by omega) (by omega) (by omega) (by omega) (by omega) (by omega)
    have e3a : bits .or .u32 (a / 2147483648 * 4096) (a / 128 % 2 * 2048) = a / 2147483648 * 4096 + a / 128 % 2 * 2048 := or_add 12 4096 rfl (by omega) (by omega) (by omega) (by omega) (by omega) (by omega)
    have e3b : bits .or .u32 (a / 2147483648 * 4096 + a / 128 % 2 * 2048) (a / 33554432 % 64 * 32) = a / 2147483648 * 4096 + a / 128 % 2 * 2048 + a / 33554432 % 64 * 32 := or_add 11 2048 rfl (by omega) (by omega) (by omega) (by omega) (by omega) (by omega)
    have e3c : bits .or .u32 (a / 2147483648 * 4096 + a / 128 % 2 * 2048 + a / 33554432 % 64 * 32) (a / 256 % 16 * 2) = a / 2147483648 * 4096 + a / 128 % 2 * 2048 + a / 33554432 % 64 * 32 + a / 256 % 16 * 2 := or_add 5 32 rfl (by omega) (by omega) (by omega) (by omega) (by omega) (by omega)
    have e5a : bits .or .u32 (a / 2147483648 * 1048576) (a / 4096 % 256 * 4096) = a / 2147483648 * 1048576 + a / 4096 % 256 * 4096 := or_add 20 1048576 rfl (by omega) (by omega) (by omega) (by omega) (by omega) (by omega)
    have e5b : bits .or .u32 (a / 2147483648 * 1048576 + a / 4096 % 256 * 4096) (a / 1048576 % 2 * 2048) = a / 2147483648 * 1048576 + a / 4096 % 256 * 4096 + a / 1048576 % 2 * 2048 := or_add 12 4096 rfl (by omega) (by omega) (by omega) (by omega) (by omega) (by omega)
    have e5c : bits .or .u32 (a / 2147483648 * 1048576 + a / 4096 % 256 * 4096 + a / 1048576 % 2 * 2048) (a / 2097152 % 1024 * 2) = a / 2147483648 * 1048576 + a / 4096 % 256 * 4096 + a / 1048576 % 2 * 2048 + a / 2097152 % 1024 * 2 := or_add 11 2048 rfl (by omega) (by omega) (by omega) (by omega) (by omega) (by omega)
    have s1 := sext_bd (a / 1048576) 12 (by omega) (by omega)
    have s2 := sext_bd (a / 33554432 * 32 + a / 128 % 32) 12 (by omega) (by omega)
    have s3 := sext_bd (a / 2147483648 * 4096 + a / 128 % 2 * 2048 + a / 33554432 % 64 * 32 + a / 256 % 16 * 2) 13 (by omega) (by omega)
    have s5 := sext_bd (a / 2147483648 * 1048576 + a / 4096 % 256 * 4096 + a / 1048576 % 2 * 2048 + a / 2097152 % 1024 * 2) 21 (by omega) (by omega)
    obtain rfl | rfl | rfl | rfl | rfl : form = 1 ∨ form = 2 ∨ form = 3 ∨ form = 4 ∨ form = 5 := by omega
    all_goals
      go_enter Tryd.func49, Tryd.ntmps49
      go_wp2_with (first | (go_at_call 51; refine (imm_bits _ _ _ _ h0 h1 (by omega) (by omega) (by omega) (by omega)).mono ?_; rintro e w' ⟨rfl, rfl⟩) | (go_at_call 53; refine (num_sext _ _ _ (by omega) (by omega)).mono ?_; rintro e w' ⟨rfl, rfl⟩) | (go_at_call 52; refine (num_signed _ _ (by omega) (by omega)).mono ?_; rintro e w' ⟨rfl, rfl⟩))
      go_ret
      refine ⟨ret_i32 ?_, rfl⟩
    · rw [sext12 (x := a / 1048576) (by omega) (by omega), get1]; split <;> omega
    · rw [sext12 (x := a / 33554432 * 32 + a / 128 % 32) (by omega) (by omega), get2]
      have t1 : a / 2147483648 = a / 33554432 / 64 := by omega
      have t2 : 0 ≤ a / 33554432 ∧ a / 33554432 ≤ 127 := by omega
      have t3 : 0 ≤ a / 128 % 32 ∧ a / 128 % 32 ≤ 31 := by omega
      rw [t1]
      clear s1 s2 s3 s5 e2 e3a e3b e3c e5a e5b e5c
      generalize a / 33554432 = x1 at *
      generalize a / 128 % 32 = x2 at *
      split <;> omega
    · rw [sext13 (x := a / 2147483648 * 4096 + a / 128 % 2 * 2048 + a / 33554432 % 64 * 32 + a / 256 % 16 * 2) (by omega) (by omega), get3]; split <;> omega
    · rw [get4]; unfold sg; split <;> omega
    · rw [sext21 (x := a / 2147483648 * 1048576 + a / 4096 % 256 * 4096 + a / 1048576 % 2 * 2048 + a / 2097152 % 1024 * 2) (by omega) (by omega), get5]
      have t1 : a / 2147483648 % 2 = a / 2147483648 := by omega
      have t2 : 0 ≤ a / 2147483648 ∧ a / 2147483648 ≤ 1 := by omega
      have t3 : 0 ≤ a / 4096 % 256 ∧ a / 4096 % 256 ≤ 255 := by omega
      have t4 : 0 ≤ a / 1048576 % 2 ∧ a / 1048576 % 2 ≤ 1 := by omega
      have t5 : 0 ≤ a / 2097152 % 1024 ∧ a / 2097152 % 1024 ≤ 1023 := by omega
      rw [t1]
      clear s1 s2 s3 s5 e2 e3a e3b e3c e5a e5b e5c
      generalize a / 2147483648 = x1 at *
      generalize a / 4096 % 256 = x2 at *
      generalize a / 1048576 % 2 = x3 at *
      generalize a / 2097152 % 1024 = x4 at *
      split <;> omega
  · have h1 : (form == 1) = false := by simp; omega
    have h2 : (form == 2) = false := by simp; omega
    have h3 : (form == 3) = false := by simp; omega
    have h4 : (form == 4) = false := by simp; omega
    have h5 : (form == 5) = false := by simp; omega
    have h6 : form < 1 ∨ 5 < form := by omega
    rw [get0 h6]
    clear h h6
    go_enter Tryd.func49, Tryd.ntmps49
    go_wp2
    go_ret
    exact ⟨rfl, rfl⟩

/-- a slice of integers in memory of its own -/
def IntsAt (L : List Int) (w : World) (e : Ending) (w' : World) : Prop :=
  ∃ b : Nat, e = .returned (.slice (some ⟨b, 0, none⟩) L.length L.length) ∧ (∀ k, k < L.length → w'.cell? ⟨b, k, none⟩ = some (.int .i64 (L.getD k 0))) ∧ Below w.heap.size w w'

theorem ints_alloc (L : List Int) (w : World) (t : TypeId) (k : Nat) (h : k < L.length) : (w.alloc (.cells (L.map (Value.int .i64)).toArray t)).cell? ⟨w.heap.size, k, none⟩ = some (.int .i64 (L.getD k 0)) := by
  rw [World.cell?_alloc_new]; simp [List.getD, h]

set_option maxHeartbeats 400000 in
theorem ref2_bits (form : Int) (w : World) :
    Calls Tryd.prog 25 #[.int .i64 form] w (IntsAt (bitsL form) w) := by
  have fin : ∀ w' : World, w' = w.alloc (.cells ((bitsL form).map (Value.int .i64)).toArray 3) → IntsAt (bitsL form) w (.returned (.slice (some ⟨w.heap.size, 0, none⟩) (bitsL form).length (bitsL form).length)) w' := by
    rintro w' rfl
    exact ⟨_, rfl, fun k hk => ints_alloc _ _ _ k hk, (Below.refl _ _).alloc (Nat.le_refl _) _⟩
  have F := Lib.hid fin
  clear fin
  by_cases h : 1 ≤ form ∧ form ≤ 5
  · obtain rfl | rfl | rfl | rfl | rfl : form = 1 ∨ form = 2 ∨ form = 3 ∨ form = 4 ∨ form = 5 := by omega
    all_goals
      go_enter Tryd.func25, Tryd.ntmps25
      go_wp2
      go_ret
      exact F.out _ rfl
  · have e : bitsL form = [] := by unfold bitsL; rw [if_neg (by omega), if_neg (by omega), if_neg (by omega), if_neg (by omega), if_neg (by omega)]
    rw [e] at F ⊢
    have h1 : (form == 1) = false := by simp; omega
    have h2 : (form == 2) = false := by simp; omega
    have h3 : (form == 3) = false := by simp; omega
    have h4 : (form == 4) = false := by simp; omega
    have h5 : (form == 5) = false := by simp; omega
    clear h e
    go_enter Tryd.func25, Tryd.ntmps25
    go_wp2
    go_ret
    exact F.out _ rfl

theorem bitsL_ok (form : Int) : (bitsL form).length ≤ 32 ∧ ∀ k, k < (bitsL form).length → -1 ≤ (bitsL form).getD k 0 ∧ (bitsL form).getD k 0 ≤ 31 := by
  unfold bitsL
  repeat' split
  all_goals decide

set_option maxHeartbeats 400000 in
theorem ref2_get (form a : Int) (w : World) (h0 : 0 ≤ a) (h1 : a < 4294967296) :
    Calls Tryd.prog 17 #[.int .i64 form, .int .u32 a] w fun e w' => e = .returned (.int .i32 (getS form a)) ∧ Below w.heap.size w w' := by
  obtain ⟨lm, lb⟩ := bitsL_ok form
  have LB := Lib.hid lb
  clear lb
  have G := Lib.hid (show wrap32 (hK a (bitsL form) (bitsL form).length) = getS form a from IntWalk.wrap32_in _ (get_bd form h0 h1))
  go_enter Tryd.func17, Tryd.ntmps17
  go_wp2_with fail
  refine (ref2_bits form _).mono ?_
  rintro e w1 ⟨b, rfl, hc, hb⟩
  generalize bitsL form = L at *
  have HC := Lib.hid hc
  clear hc
  go_wp2_with fail
  go_loop [6, 7] (fun n i => ∃ k : Nat, k ≤ L.length ∧ i = .int .i64 k ∧ n = .int .i64 (hK a L k)) (fun _ i => L.length - (intOf i).toNat)
  case atStart => exact ⟨0, Nat.zero_le _, rfl, rfl⟩
  case round =>
    obtain ⟨k, hk, rfl, rfl⟩ := hrel
    by_cases hlt : k < L.length
    · have hc := HC.out k hlt
      have hl := LB.out k hlt
      have hh := hK_bd a L k
      have hp := pow_bd (y := k) (by omega)
      have KS : hK a L (k + 1) = 2 * hK a L k + (if k = 0 then -pbit a (L.getD k 0) else pbit a (L.getD k 0)) := rfl
      have hpb := pbit_bd a (L.getD k 0)
      have hpt : 0 ≤ L.getD k 0 → (a / 2 ^ (L.getD k 0).toNat).tmod 2 = pbit a (L.getD k 0) := fun h => by
        rw [IntWalk.rem_in _ _ (div_le_self _ h0).1]; unfold pbit; rw [if_neg (by omega)]
      have hpn : L.getD k 0 < 0 → pbit a (L.getD k 0) = 0 := fun h => by unfold pbit; rw [if_pos h]
      generalize L.getD k 0 = p at *
      generalize pbit a p = q at *
      have fin : hK a L (k + 1) = 2 * hK a L k + (if k = 0 then -q else q) := KS
      have FIN := Lib.hid fin
      clear fin KS
      by_cases hn : 0 ≤ p
      · have hpt := hpt hn
        clear hpn
        by_cases hz : k = 0
        · subst hz
          have z0 : hK a L 0 = 0 := rfl
          go_wp2
          go_round
          case measure => simp [intOf]; omega
          case rel => refine ⟨1, by omega, rfl, ?_⟩; congr 1; rw [show 1 = 0 + 1 from rfl, FIN.out]; simp; omega
        · go_wp2
          go_round
          case measure => simp [intOf]; omega
          case rel => refine ⟨k + 1, by omega, by go_num, ?_⟩; congr 1; rw [FIN.out, if_neg hz]
      · have hpn := hpn (by omega)
        subst hpn
        clear hpt
        by_cases hz : k = 0
        · subst hz
          have z0 : hK a L 0 = 0 := rfl
          go_wp2
          go_round
          case measure => simp [intOf]; omega
          case rel => refine ⟨1, by omega, rfl, ?_⟩; congr 1; rw [show 1 = 0 + 1 from rfl, FIN.out]; simp; omega
        · go_wp2
          go_round
          case measure => simp [intOf]; omega
          case rel => refine ⟨k + 1, by omega, by go_num, ?_⟩; congr 1; rw [FIN.out, if_neg hz]; omega
    · obtain rfl : k = L.length := by omega
      go_wp2
      go_ret
      exact ⟨ret_i32 G.out, hb⟩


set_option maxHeartbeats 1000000 in
theorem imm_spread (form a : Int) (w : World) (f0 : 1 ≤ form) (f1 : form ≤ 5) (h0 : 0 ≤ a) (h1 : a < 4294967296) :
    Calls Tryd.prog 48 #[.int .i64 form, .int .u32 a] w fun e w' => e = .returned (.int .u32 (putW form a)) ∧ w = w' := by
  obtain rfl | rfl | rfl | rfl | rfl : form = 1 ∨ form = 2 ∨ form = 3 ∨ form = 4 ∨ form = 5 := by omega
  all_goals
    go_enter Tryd.func48, Tryd.ntmps48
    go_wp2_with ((go_at_call 51; refine (imm_bits _ _ _ _ h0 h1 (by omega) (by omega) (by omega) (by omega)).mono ?_; rintro e w' ⟨rfl, rfl⟩))
    go_ret
    refine ⟨ret_u32 ?_, rfl⟩
  · show _ = a % 4096 * 1048576; omega
  · exact or_add 12 4096 rfl (by omega) (by omega) (by omega) (by omega) (by omega) (by omega)
  · exact put3 a
  · show _ = a / 4096 % 1048576 * 4096; omega
  · exact put5 a

end Go.Proofs.YtipecnofjdhobaaDoor
