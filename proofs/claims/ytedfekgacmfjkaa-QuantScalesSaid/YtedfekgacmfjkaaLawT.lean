/- The statements of layer 20 (numbers brought to a byte): laws of package pintlelaw20 return true for all inputs. -/
import Derived.Test.YtedfekgacmfjkaaRows
import Derived.Test.YtedfekgacmfjkaaQuant
import Derived.Test.YtedfekgacmfjkaaOpen
import Derived.OwnWalk
import Derived.Laws.Bits128
import Derived.Deep.RegionHeld3
namespace Go.Proofs.Ytedfekgacmfjkaa
open Go Go.RowKit Go.ChangeShapes Go.WideShapes Go.ChangeAt Pl
set_option linter.unusedVariables false

/-- a slice of some elements -/
def SomeSlice (w : World) (e : Ending) (w' : World) : Prop := ∃ (a : Addr) (n c : Nat), e = .returned (.slice (some a) n c) ∧ 1 ≤ n ∧ Below w.heap.size w w'

set_option maxHeartbeats 400000 in
theorem apart0 (w : World) : Calls Try.prog 65 #[.int .i64 0, .int .i64 2] w fun e w' => e = .returned (.bool true) ∧ w = w' := by
  go_enter Try.func65, Try.ntmps65
  go_wp2
  go_ret
  exact ⟨rfl, rfl⟩
set_option maxHeartbeats 400000 in
theorem apart1 (w : World) : Calls Try.prog 65 #[.int .i64 1, .int .i64 2] w fun e w' => e = .returned (.bool true) ∧ w = w' := by
  go_enter Try.func65, Try.ntmps65
  go_wp2
  go_ret
  exact ⟨rfl, rfl⟩
set_option maxHeartbeats 400000 in
theorem shift4 (w : World) : Calls Try.prog 52 #[.int .i64 4] w fun e w' => e = .returned (.bool true) ∧ w = w' := by
  go_enter Try.func52, Try.ntmps52
  go_wp2
  go_ret
  exact ⟨rfl, rfl⟩

def lops8 : Array Value := #[Value.int .i64 1, Value.int .i64 2, Value.int .i64 0, Value.int .i64 0, Value.int .i32 3, Value.int .i64 6, Value.int .i64 3, Value.int .i64 1, Value.int .i64 2, Value.int .i32 0, Value.int .i64 5, Value.int .i64 2, Value.int .i64 1, Value.int .i64 2, Value.int .i32 0, Value.int .i64 15, Value.int .i64 2, Value.int .i64 2, Value.int .i64 0, Value.int .i32 30, Value.int .i64 13, Value.int .i64 2, Value.int .i64 2, Value.int .i64 0, Value.int .i32 1, Value.int .i64 15, Value.int .i64 2, Value.int .i64 2, Value.int .i64 0, Value.int .i32 1, Value.int .i64 14, Value.int .i64 3, Value.int .i64 3, Value.int .i64 0, Value.int .i32 1, Value.int .i64 3, Value.int .i64 0, Value.int .i64 3, Value.int .i64 2, Value.int .i32 0]
def lops2 : Array Value := #[Value.int .i64 13, Value.int .i64 0, Value.int .i64 0, Value.int .i64 0, Value.int .i32 8, Value.int .i64 16, Value.int .i64 0, Value.int .i64 0, Value.int .i64 0, Value.int .i32 4]
theorem info_lop : (Try.prog.info? 58).map (fun i => (i.zero, i.size, i.bytes)) = some (some (.agg #[.int .i64 0, .int .i64 0, .int .i64 0, .int .i64 0, .int .i32 0]), 5, 40) := by kernel_rfl
theorem lops2_one : ∀ u ∈ lops2.toList, u.oneCell' = true := by decide
theorem below_grown_trans {w a b : World} (h : Below w.heap.size w a) (k : Below a.heap.size a b) : Below w.heap.size w b := h.trans (k.mono h.size)
theorem below_grown {w w1 w' : World} {v : Value} (h : Below w.heap.size w w1) (hg : w1.grownBy w' v.ownBlock) (hv : ∀ k, v.ownBlock = some k → w.heap.size ≤ k) : Below w.heap.size w w' :=
  h.grown hg h.size hv

set_option maxRecDepth 100000 in
set_option maxHeartbeats 1000000 in
theorem steps_len (w : World) : Calls Try.prog 56 #[.int .i64 0, .int .i64 1, .int .i64 2, .int .i32 3, .int .i64 4] w (SomeSlice w) := by
  obtain ⟨i0, hi, hz0, hz1, hz2⟩ := info_parts info_lop
  have OWN := Lib.hid ((World.ownsRow_lit (base := w.heap.size) (size := 5) (e := 58) w lops8 8 (Nat.le_refl _) (by decide) (by decide)).alloc (.cells lops2 58))
  have NW := Lib.hid (show ∀ j u, lops2.toList[j]? = some u → ((w.alloc (.cells lops8 58)).alloc (.cells lops2 58)).cell? ((⟨w.heap.size + 1, 0, none⟩ : Addr).add j) = some u from fun j u h => by
    have e1 : (⟨w.heap.size + 1, 0, none⟩ : Addr).add j = ⟨(w.alloc (.cells lops8 58)).heap.size, j, none⟩ := by unfold Addr.add; split <;> simp_all
    rw [e1, World.cell?_alloc_new]
    simpa using h)
  have BL := Lib.hid (show Below w.heap.size w ((w.alloc (.cells lops8 58)).alloc (.cells lops2 58)) by go_grown)
  go_enter Try.func56, Try.ntmps56
  go_wp2_with (first | (go_at_call 52; refine (shift4 _).mono ?_; rintro e w' ⟨rfl, rfl⟩) | (go_at_call 65; first | ((with_reducible refine (apart0 _).mono ?_); rintro e w' ⟨rfl, rfl⟩) | ((with_reducible refine (apart1 _).mono ?_); rintro e w' ⟨rfl, rfl⟩)) | (at_builtin; go_loud (refine wpList_append_own ((w.alloc (.cells lops8 58)).alloc (.cells lops2 58)) rfl (.tmp 60) (.tmp 72) 79 rfl w.heap.size 58 i0 (.agg #[.int .i64 0, .int .i64 0, .int .i64 0, .int .i64 0, .int .i32 0]) 5 40 Try.underlying79 hi hz0 hz1 hz2 rfl (by decide) (.slice (some ⟨w.heap.size, 0, none⟩) 8 8) 8 lops8.toList rfl OWN.out ⟨w.heap.size + 1, 0, none⟩ 2 2 lops2.toList rfl rfl NW.out lops2_one (by decide) (by decide) BL.out.size ?_); intro v1 w1 hown hg hn))
  go_ret
  have b1 := below_grown BL.out hg (fun k hk => by cases hk; exact Nat.le_refl _)
  obtain ⟨_, ⟨h1, h2⟩ | ⟨g, cap, cur, rfl, _⟩⟩ := hown
  · cases h2
  · exact ⟨_, 10, cap, rfl, by omega, b1⟩

theorem i64_and15 (n : Int) : bits .and .i64 n 15 = n % 16 := by
  have h15 : (BitVec.ofInt 64 15).toNat = 2 ^ 4 - 1 := by decide
  have key : (BitVec.ofInt 64 n &&& BitVec.ofInt 64 15).toNat = (n % ((2 ^ 64 : Nat) : Int)).toNat % 2 ^ 4 := by
    rw [BitVec.toNat_and, BitVec.toNat_ofInt, h15, Nat.and_two_pow_sub_one_eq_mod]
  show IntKind.i64.wrap ((BitVec.ofInt 64 n &&& BitVec.ofInt 64 15).toNat : Nat) = n % 16
  rw [key, IntKind.wrap_i64]
  omega

set_option maxHeartbeats 1000000 in
theorem law20_lives (w : World) : Calls Try.prog 39 #[] w fun e w' => e = .returned (.bool true) ∧ Below w.heap.size w w' := by
  go_enter Try.func39, Try.ntmps39
  go_wp2_with fail
  refine (quant_scale 101 1073741824 0 _ (by omega) (by omega)).mono ?_
  rw [show scaleS 101 1073741824 0 = 51 by rw [scale_zero, sc1, wrap32]; rfl]
  rintro e w' ⟨rfl, rfl⟩
  go_wp2_with fail
  refine (quant_clamp 7 0 6 _).mono ?_
  rw [show clampS 7 0 6 = 6 by decide]
  rintro e w' ⟨rfl, rfl⟩
  go_wp2_with fail
  refine (steps_len _).mono ?_
  rintro e w1 ⟨b, n, c, rfl, hn, hb⟩
  have h0 : decide (0 < n) = true := decide_eq_true (by omega)
  go_wp2_with fail
  go_ret
  exact ⟨rfl, hb⟩

theorem wf_i32 {a : Int} (h : (Lit.int .i32 a).wf = true) : -2147483648 ≤ a ∧ a ≤ 2147483647 := by
  simpa [Lit.wf, IntKind.min, IntKind.max, IntKind.signed, IntKind.bits] using h
theorem sc1_mono {a b m : Int} (h : a ≤ b) (hm : 0 ≤ m ∧ m ≤ 2147483647) (ha : -1073741824 ≤ a ∧ a ≤ 1073741824) (hb : -1073741824 ≤ b ∧ b ≤ 1073741824) :
    sc1 a m ≤ sc1 b m ∧ -1073741824 ≤ sc1 a m ∧ sc1 b m ≤ 1073741824 := by
  have h1 : a * m ≤ b * m := Int.mul_le_mul_of_nonneg_right h hm.1
  have h2 : -1073741824 * m ≤ a * m := Int.mul_le_mul_of_nonneg_right ha.1 hm.1
  have h3 : b * m ≤ 1073741824 * m := Int.mul_le_mul_of_nonneg_right hb.2 hm.1
  unfold sc1 wrap32
  generalize a * m = p at *
  generalize b * m = q at *
  omega
theorem pow_bd14 {y : Nat} (h : y ≤ 14) : (1 : Int) ≤ 2 ^ y ∧ (2 : Int) ^ y ≤ 16384 := by
  have h1 := pow_toNat_pos y
  have h2 : (2 : Nat) ^ y ≤ 2 ^ 14 := Nat.pow_le_pow_right (by omega) h
  have h3 : ((2 ^ y : Nat) : Int) = (2 : Int) ^ y := by simp
  omega
theorem scale_mono {a b m s : Int} (h : a ≤ b) (hm : 0 ≤ m ∧ m ≤ 2147483647) (ha : -1073741824 ≤ a ∧ a ≤ 1073741824) (hb : -1073741824 ≤ b ∧ b ≤ 1073741824) (hs : 0 ≤ s ∧ s ≤ 15) :
    scaleS a m s ≤ scaleS b m s := by
  obtain ⟨h1, h2, h3⟩ := sc1_mono h hm ha hb
  obtain rfl | hs1 : s = 0 ∨ 1 ≤ s := by omega
  · rw [scale_zero, scale_zero]; exact h1
  · rw [scale_some hs1 (by omega), scale_some hs1 (by omega)]
    obtain ⟨p0, p1⟩ := pow_bd14 (y := s.toNat - 1) (by omega)
    have p2 := pow_toNat_pos s.toNat
    generalize sc1 a m = x at *
    generalize sc1 b m = y at *
    generalize (2 : Int) ^ (s.toNat - 1) = p at *
    apply Int.ediv_le_ediv (by have := (pow_bd (y := s.toNat) (by omega)).1; omega)
    unfold wrap32
    omega

set_option maxHeartbeats 1000000 in
theorem walk_QuantScales (n m s z lo hi : Int) (w0 : (Lit.int .i32 n).wf = true) (w1 : (Lit.int .i32 m).wf = true) (w2 : (Lit.int .i64 s).wf = true) (w3 : (Lit.int .i32 z).wf = true) (w4 : (Lit.int .i32 lo).wf = true) (w5 : (Lit.int .i32 hi).wf = true) (w : World) :
    Calls Try.prog 11 #[.int .i32 n, .int .i32 m, .agg #[.int .i64 s, .int .i32 z, .int .i32 lo, .int .i32 hi]] w fun e w' => e = .returned (.bool true) ∧ Below w.heap.size w w' := by
  have hn := wf_i32 w0
  have hm := wf_i32 w1
  have hz := wf_i32 w3
  clear w0 w1 w2 w3 w4 w5
  go_enter Try.func11, Try.ntmps11
  go_wp2_with fail
  go_region_held3 (fun w' => w'.cell? ⟨w.heap.size, 0, none⟩ = some (.int .i64 s) ∧ w'.cell? ⟨w.heap.size, 1, none⟩ = some (.int .i32 z) ∧ w'.cell? ⟨w.heap.size, 2, none⟩ = some (.int .i32 lo) ∧ w'.cell? ⟨w.heap.size, 3, none⟩ = some (.int .i32 hi) ∧ w.heap.size < w'.heap.size ∧ Below w.heap.size w w')
    (first | exact ⟨by simp, by simp, by simp, by simp, by simp, by go_grown⟩ | (obtain ⟨s0, s1, s2, s3, s4, s5⟩ := ‹_ ∧ _ ∧ _ ∧ _ ∧ _ ∧ Below w.heap.size w _›; exact ⟨(hbl.cell (by show w.heap.size < _; omega)).trans s0, (hbl.cell (by show w.heap.size < _; omega)).trans s1, (hbl.cell (by show w.heap.size < _; omega)).trans s2, (hbl.cell (by show w.heap.size < _; omega)).trans s3, by have := hbl.size; omega, Below.trans s5 (hbl.mono (by omega))⟩) | (with_reducible assumption) | (obtain ⟨s0, s1, s2, s3, s4, s5⟩ := ‹_ ∧ _ ∧ _ ∧ _ ∧ _ ∧ Below w.heap.size w _›; exact ⟨s0, s1, s2, s3, s4, s5⟩))
    (first
    | (go_at_call 33; refine (quant_scale _ _ _ _ hn hm).mono ?_; rintro e w' ⟨rfl, rfl⟩)
    | (go_at_call 34; refine (ref20_scale _ _ _ _ hn hm).mono ?_; rintro e w' ⟨rfl, rfl⟩)
    | (go_at_call 35; refine (quant_clamp _ _ _ _).mono ?_; rintro e w' ⟨rfl, rfl⟩)
    | (go_at_call 36; refine (ref20_clamp _ _ _ _).mono ?_; rintro e w' ⟨rfl, rfl⟩)
    | (go_at_call 37; refine (quant_byte _ _ _ _ _ _ _ hn hm).mono ?_; rintro e w' ⟨rfl, rfl⟩)
    | (go_at_call 38; refine (ref20_byte _ _ _ _ _ _ _ hn hm hz).mono ?_; rintro e w' ⟨rfl, rfl⟩)
    | (go_at_call 39; refine (law20_lives _).mono ?_; rintro e w' ⟨rfl, hbl⟩))
  obtain ⟨_, _, _, _, _, hB⟩ := ‹_ ∧ _ ∧ _ ∧ _ ∧ _ ∧ Below w.heap.size w _›
  go_wp2
  go_ret
  exact ⟨rfl, hB⟩
end Go.Proofs.Ytedfekgacmfjkaa
