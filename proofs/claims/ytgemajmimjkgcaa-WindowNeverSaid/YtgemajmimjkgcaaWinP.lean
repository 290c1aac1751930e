/- Contract of the program's Taps of windows. -/
import Derived.Test.YtgemajmimjkgcaaTaps
import Derived.Test.YtgemajmimjkgcaaTapsR
import Derived.Test.YtgemajmimjkgcaaWinT
import Derived.Test.YtgemajmimjkgcaaWinL
import Derived.OwnWalk
import Derived.Deep.OwnRows
import Derived.Deep.LoopGhost
import Derived.BigRegion
namespace Go.Proofs.Ytgemajmimjkgcaa
open Go Go.RowKit Pl
set_option linter.unusedVariables false

/-- the arrays, and how many come out -/
structure InP (B O : Nat) (n0 n1 k0 k1 s0 s1 p0 p1 q0 q1 D0 D1 : Int) (w : World) : Prop where
  c0 : w.cell? ⟨B, 0, none⟩ = some (.int .i64 n0)
  c1 : w.cell? ⟨B, 1, none⟩ = some (.int .i64 n1)
  c2 : w.cell? ⟨B + 1, 0, none⟩ = some (.int .i64 k0)
  c3 : w.cell? ⟨B + 1, 1, none⟩ = some (.int .i64 k1)
  c4 : w.cell? ⟨B + 1 + 1, 0, none⟩ = some (.int .i64 s0)
  c5 : w.cell? ⟨B + 1 + 1, 1, none⟩ = some (.int .i64 s1)
  c6 : w.cell? ⟨B + 1 + 1 + 1, 0, none⟩ = some (.int .i64 p0)
  c7 : w.cell? ⟨B + 1 + 1 + 1, 1, none⟩ = some (.int .i64 p1)
  c8 : w.cell? ⟨B + 1 + 1 + 1, 2, none⟩ = some (.int .i64 q0)
  c9 : w.cell? ⟨B + 1 + 1 + 1, 3, none⟩ = some (.int .i64 q1)
  c10 : w.cell? ⟨O, 0, none⟩ = some (.int .i64 D0)
  c11 : w.cell? ⟨O, 1, none⟩ = some (.int .i64 D1)
  lt : B + 1 + 1 + 1 < w.heap.size
  lo : O < w.heap.size
theorem InP.later {B O : Nat} {n0 n1 k0 k1 s0 s1 p0 p1 q0 q1 D0 D1 : Int} {w w' : World} (h : InP B O n0 n1 k0 k1 s0 s1 p0 p1 q0 q1 D0 D1 w) (hb : Below w.heap.size w w') : InP B O n0 n1 k0 k1 s0 s1 p0 p1 q0 q1 D0 D1 w' := by
  have l := h.lt
  exact ⟨(hb.cell (by show B < _; omega)).trans h.c0, (hb.cell (by show B < _; omega)).trans h.c1, (hb.cell (by show B + 1 < _; omega)).trans h.c2, (hb.cell (by show B + 1 < _; omega)).trans h.c3, (hb.cell (by show B + 1 + 1 < _; omega)).trans h.c4, (hb.cell (by show B + 1 + 1 < _; omega)).trans h.c5, (hb.cell (by show B + 1 + 1 + 1 < _; omega)).trans h.c6, (hb.cell (by show B + 1 + 1 + 1 < _; omega)).trans h.c7, (hb.cell (by show B + 1 + 1 + 1 < _; omega)).trans h.c8, (hb.cell (by show B + 1 + 1 + 1 < _; omega)).trans h.c9, (hb.cell (by show O < _; exact h.lo)).trans h.c10, (hb.cell (by show O < _; exact h.lo)).trans h.c11, Nat.lt_of_lt_of_le h.lt hb.size, Nat.lt_of_lt_of_le h.lo hb.size⟩
theorem inP_new (n0 n1 k0 k1 s0 s1 p0 p1 q0 q1 D0 D1 : Int) (w w1 : World) (hb : Below (((((w.alloc (.cells #[.int .i64 n0, .int .i64 n1] 22)).alloc (.cells #[.int .i64 k0, .int .i64 k1] 22)).alloc (.cells #[.int .i64 s0, .int .i64 s1] 22)).alloc (.cells #[.int .i64 p0, .int .i64 p1, .int .i64 q0, .int .i64 q1] 23))).heap.size ((((w.alloc (.cells #[.int .i64 n0, .int .i64 n1] 22)).alloc (.cells #[.int .i64 k0, .int .i64 k1] 22)).alloc (.cells #[.int .i64 s0, .int .i64 s1] 22)).alloc (.cells #[.int .i64 p0, .int .i64 p1, .int .i64 q0, .int .i64 q1] 23)) w1) : InP w.heap.size w1.heap.size n0 n1 k0 k1 s0 s1 p0 p1 q0 q1 D0 D1 (w1.alloc (.cells #[.int .i64 D0, .int .i64 D1] 22)) := by
  have hs := hb.size
  simp at hs
  have hb2 : Below (w.heap.size + 1 + 1 + 1 + 1) ((((w.alloc (.cells #[.int .i64 n0, .int .i64 n1] 22)).alloc (.cells #[.int .i64 k0, .int .i64 k1] 22)).alloc (.cells #[.int .i64 s0, .int .i64 s1] 22)).alloc (.cells #[.int .i64 p0, .int .i64 p1, .int .i64 q0, .int .i64 q1] 23)) (w1.alloc (.cells #[.int .i64 D0, .int .i64 D1] 22)) := (hb.mono (by simp)).alloc (by omega) _
  refine ⟨?_, ?_, ?_, ?_, ?_, ?_, ?_, ?_, ?_, ?_, by rw [World.cell?_alloc_new]; rfl, by rw [World.cell?_alloc_new]; rfl, by simp; omega, by simp⟩
  · exact (hb2.cell (p := ⟨w.heap.size, 0, none⟩) (by first | (simp; done) | (simp; omega))).trans (by go_simp)
  · exact (hb2.cell (p := ⟨w.heap.size, 1, none⟩) (by first | (simp; done) | (simp; omega))).trans (by go_simp)
  · exact (hb2.cell (p := ⟨w.heap.size + 1, 0, none⟩) (by first | (simp; done) | (simp; omega))).trans (by go_simp)
  · exact (hb2.cell (p := ⟨w.heap.size + 1, 1, none⟩) (by first | (simp; done) | (simp; omega))).trans (by go_simp)
  · exact (hb2.cell (p := ⟨w.heap.size + 1 + 1, 0, none⟩) (by first | (simp; done) | (simp; omega))).trans (by go_simp)
  · exact (hb2.cell (p := ⟨w.heap.size + 1 + 1, 1, none⟩) (by first | (simp; done) | (simp; omega))).trans (by go_simp)
  · exact (hb2.cell (p := ⟨w.heap.size + 1 + 1 + 1, 0, none⟩) (by first | (simp; done) | (simp; omega))).trans (by go_simp)
  · exact (hb2.cell (p := ⟨w.heap.size + 1 + 1 + 1, 1, none⟩) (by first | (simp; done) | (simp; omega))).trans (by go_simp)
  · exact (hb2.cell (p := ⟨w.heap.size + 1 + 1 + 1, 2, none⟩) (by first | (simp; done) | (simp; omega))).trans (by go_simp)
  · exact (hb2.cell (p := ⟨w.heap.size + 1 + 1 + 1, 3, none⟩) (by first | (simp; done) | (simp; omega))).trans (by go_simp)
set_option maxRecDepth 100000 in
set_option maxHeartbeats 4000000 in
theorem taps_good (n0 n1 k0 k1 s0 s1 p0 p1 q0 q1 y x : Int) (w : World) (g0 : gdW n0 k0 s0 p0 q0 = true) (g1 : gdW n1 k1 s1 p1 q1 = true) (hy : 0 ≤ y ∧ y < odW n0 k0 s0 p0 q0) (hx : 0 ≤ x ∧ x < odW n1 k1 s1 p1 q1) :
    Calls Try.prog 15 #[.agg #[.int .i64 n0, .int .i64 n1], .agg #[.int .i64 k0, .int .i64 k1], .agg #[.int .i64 s0, .int .i64 s1], .agg #[.int .i64 p0, .int .i64 p1, .int .i64 q0, .int .i64 q1], .int .i64 y, .int .i64 x] w fun e w' => (∃ v, e = .returned (.tuple #[v, .bool true]) ∧ w'.ownsRow w.heap.size 22 2 v (cntB (tapB n0 n1 k1 s0 s1 p0 p1 y x) (k0 * k1).toNat) (tapL k1 (tapB n0 n1 k1 s0 s1 p0 p1 y x) (k0 * k1).toNat)) ∧ Below w.heap.size w w' := by
  obtain ⟨i0, hi, hz0, hz1, hz2⟩ := info_parts info_2i
  have OA := Lib.hid (out_any n0 n1 k0 k1 s0 s1 p0 p1 q0 q1)
  have HG := Lib.hid (show (gdW n0 k0 s0 p0 q0 && gdW n1 k1 s1 p1 q1) = true by rw [g0, g1]; rfl)
  have f0 := gdW_o g0
  have f1 := gdW_o g1
  have x0 := od_bd g0
  have x1 := od_bd g1
  obtain ⟨D0, hD0⟩ : ∃ D, odW n0 k0 s0 p0 q0 = D := ⟨_, rfl⟩
  obtain ⟨D1, hD1⟩ : ∃ D, odW n1 k1 s1 p1 q1 = D := ⟨_, rfl⟩
  rw [hD0] at OA x0 hy
  rw [hD1] at OA x1 hx
  clear g0 g1 hD0 hD1
  have KB := kk_bd (k0 := k0) (k1 := k1) (by omega) (by omega)
  obtain ⟨K0, hK0⟩ : ∃ K : Nat, k0 = K := ⟨k0.toNat, by omega⟩
  obtain ⟨K1, hK1⟩ : ∃ K : Nat, k1 = K := ⟨k1.toNat, by omega⟩
  have HK0 := Lib.hid hK0
  have HK1 := Lib.hid hK1
  clear hK0 hK1
  have e1 := IntWalk.i64_in (D0 - 1) (by omega)
  have e2 := IntWalk.i64_in (D1 - 1) (by omega)
  have wy := inB_t (n := y) (a := 0) (b := D0 - 1) (by omega)
  have wx := inB_t (n := x) (a := 0) (b := D1 - 1) (by omega)
  go_enter Try.func15, Try.ntmps15
  go_wp2_with fail
  refine (OA.out _).mono ?_
  rintro e w1 ⟨rfl, b1⟩
  rw [HG.out]
  simp only [if_true]
  have IP := Lib.hid (inP_new n0 n1 k0 k1 s0 s1 p0 p1 q0 q1 D0 D1 w w1 b1)
  have B1 := Lib.hid (show Below w.heap.size w (w1.alloc (.cells #[.int .i64 D0, .int .i64 D1] 22)) from (Below.trans (show Below w.heap.size w ((((w.alloc (.cells #[.int .i64 n0, .int .i64 n1] 22)).alloc (.cells #[.int .i64 k0, .int .i64 k1] 22)).alloc (.cells #[.int .i64 s0, .int .i64 s1] 22)).alloc (.cells #[.int .i64 p0, .int .i64 p1, .int .i64 q0, .int .i64 q1] 23)) by go_grown) (b1.mono (by simp; omega))).alloc (by have := b1.size; simp at this; omega) _)
  have CA := Lib.hid (fun w => corner_any s0 s1 p0 p1 q0 q1 y x w (by omega) (by omega) (by omega) (by omega) (by omega) (by omega))
  clear b1
  obtain ⟨c0, c1, c2, c3, c4, c5, c6, c7, c8, c9, c10, c11, lt, lo⟩ := IP.out
  go_wp2_with fail
  generalize hWD : World.alloc w1 _ = WD at *
  clear hWD
  refine (within_any _ _ _ _).mono ?_
  rintro e w9 ⟨rfl, rfl⟩
  rw [wy]
  go_wp2_with fail
  refine (within_any _ _ _ _).mono ?_
  rintro e w9 ⟨rfl, rfl⟩
  rw [wx]
  go_wp2_with fail
  refine (CA.out _).mono ?_
  rintro e w2 ⟨rfl, b2⟩
  have IP2 := Lib.hid (IP.out.later b2)
  have B2 := Lib.hid (Below.trans B1.out (b2.mono B1.out.size))
  clear c0 c1 c2 c3 c4 c5 c6 c7 c8 c9 c10 c11 lt lo b2 B1 IP
  obtain ⟨c0, c1, c2, c3, c4, c5, c6, c7, c8, c9, c10, c11, lt, lo⟩ := IP2.out
  have OWN0 := Lib.hid (World.ownsRow_nil w2 w2.heap.size 22 2)
  have BEL0 := Lib.hid (Below.refl w2.heap.size w2)
  have GE := Lib.hid (show w.heap.size ≤ w2.heap.size by omega)
  have YB := mul_bdT (x := y) (s := s0) (by omega) (by omega) (by omega) (by omega)
  have XB := mul_bdT (x := x) (s := s1) (by omega) (by omega) (by omega) (by omega)
  have KK := Lib.hid (show (k0 * k1).toNat = K0 * K1 ∧ K0 * K1 ≤ 64 by
    have h : k0 * k1 = ((K0 * K1 : Nat) : Int) := by rw [HK0.out, HK1.out, Int.natCast_mul]
    rw [h] at KB ⊢
    omega)
  clear e1 e2 wy wx HG
  go_wp2_with fail
  go_loopw [17, 53] (fun v i wr => ∃ (n : Nat), n ≤ K0 ∧ i = .int .i64 n ∧ wr.ownsRow w2.heap.size 22 2 v (cntB (tapB n0 n1 k1 s0 s1 p0 p1 y x) (n * K1)) (tapL k1 (tapB n0 n1 k1 s0 s1 p0 p1 y x) (n * K1)) ∧ Below w2.heap.size w2 wr) (fun _ i _ => K0 - (intOf i).toNat)
  case atStart => exact ⟨0, by omega, rfl, by rw [Nat.zero_mul]; exact OWN0.out, BEL0.out⟩
  case round =>
    obtain ⟨n, hn, rfl, own, hb⟩ := hrel
    rename_i vt _ _
    by_cases hlt : n < K0
    · have t0 : decide ((n : Int) < k0) = true := by rw [HK0.out]; simp; omega
      have HK0b : (n : Int) < k0 := of_decide_eq_true t0
      have u1 := IntWalk.i64_in ((n : Int) + 1) (by omega)
      have IP3 := Lib.hid (IP2.out.later hb)
      obtain ⟨wo, rfl⟩ : ∃ wo : World, wo = wr := ⟨_, rfl⟩
      have OWN1 := Lib.hid own
      have HB1 := Lib.hid hb
      clear c0 c1 c2 c3 c4 c5 c6 c7 c8 c9 c10 c11 lt lo own hb
      obtain ⟨c0, c1, c2, c3, c4, c5, c6, c7, c8, c9, c10, c11, lt, lo⟩ := IP3.out
      go_wp2_with fail
      go_loopw [17, 58] (fun v i wr => ∃ (m : Nat), m ≤ K1 ∧ i = .int .i64 m ∧ wr.ownsRow w2.heap.size 22 2 v (cntB (tapB n0 n1 k1 s0 s1 p0 p1 y x) (n * K1 + m)) (tapL k1 (tapB n0 n1 k1 s0 s1 p0 p1 y x) (n * K1 + m)) ∧ Below w2.heap.size w2 wr) (fun _ i _ => K1 - (intOf i).toNat)
      case atStart => exact ⟨0, by omega, rfl, OWN1.out, HB1.out⟩
      case round =>
        obtain ⟨m, hm, rfl, own, hb⟩ := hrel
        rename_i vu _ _
        by_cases hlm : m < K1
        · have t2 : decide ((m : Int) < k1) = true := by rw [HK1.out]; simp; omega
          have HK1b : (m : Int) < k1 := of_decide_eq_true t2
          have u2 := IntWalk.i64_in ((m : Int) + 1) (by omega)
          have IP4 := Lib.hid (IP2.out.later hb)
          have CL := cnt_le (tapB n0 n1 k1 s0 s1 p0 p1 y x) (n * K1 + m)
          have TB := Lib.hid (tap_pair (m0 := n0) (m1 := n1) (s0 := s0) (s1 := s1) (p0 := p0) (p1 := p1) (y := y) (x := x) (i := n) (j := m) HK1.out (by omega))
          have DM := Lib.hid (pair_dm (i := n) (j := m) HK1.out (by omega))
          have OV := Lib.hid (fun w => over_any (y * s0 - p0 + (n : Int)) (x * s1 - p1 + (m : Int)) n0 n1 w (by omega) (by omega) (by omega) (by omega))
          have hop := fun t w => run_complex_sum (P := Try.prog) w .add (Or.inl rfl) t .f64 _ _ _ _ _ _ (cadd_small (y * s0 - p0) (x * s1 - p1) (n : Int) (m : Int) (by omega) (by omega) (by omega) (by omega))
          have OWN2 := Lib.hid own
          have HB2 := Lib.hid hb
          have VO := Lib.hid own.lt
          have hS : wr.cell? ⟨w.heap.size, 0, none⟩ = some (.int .i64 n0) ∧ wr.cell? ⟨w.heap.size, 1, none⟩ = some (.int .i64 n1) ∧ w.heap.size < wr.heap.size ∧ Below wr.heap.size wr wr := ⟨IP4.out.c0, IP4.out.c1, by have := IP4.out.lt; omega, Below.refl _ _⟩
          clear c0 c1 c2 c3 c4 c5 c6 c7 c8 c9 c10 c11 lt lo own hb
          obtain ⟨c0, c1, c2, c3, c4, c5, c6, c7, c8, c9, c10, c11, lt, lo⟩ := IP4.out
          have NM : n * K1 + m < 64 := by
            have := Nat.mul_le_mul_right K1 (show n + 1 ≤ K0 by omega)
            have := KK.out.2
            rw [Nat.succ_mul] at *
            omega
          have E1 := Lib.hid (show cntB (tapB n0 n1 k1 s0 s1 p0 p1 y x) (n * K1 + m) + 1 ≤ maxLen by simp only [maxLen]; omega)
          have E2 := Lib.hid (show (cntB (tapB n0 n1 k1 s0 s1 p0 p1 y x) (n * K1 + m) + 1) * 16 ≤ 140737488355328 by omega)
          clear CL NM
          cases hv : decide (0 ≤ y * s0 - p0 + (n : Int) ∧ y * s0 - p0 + (n : Int) < n0 ∧ 0 ≤ x * s1 - p1 + (m : Int) ∧ x * s1 - p1 + (m : Int) < n1)
          · rw [hv] at TB OV
            go_wp2_with fail
            go_region_held3 (fun w' => w'.cell? ⟨w.heap.size, 0, none⟩ = some (.int .i64 n0) ∧ w'.cell? ⟨w.heap.size, 1, none⟩ = some (.int .i64 n1) ∧ w.heap.size < w'.heap.size ∧ Below wr.heap.size wr w')
              (first | (with_reducible assumption) | (obtain ⟨v0, v1, v2, v3⟩ := ‹_ ∧ _ ∧ _ ∧ Below wr.heap.size wr _›; exact ⟨(hbl.cell (by show w.heap.size < _; omega)).trans v0, (hbl.cell (by show w.heap.size < _; omega)).trans v1, Nat.lt_of_lt_of_le v2 hbl.size, v3.trans (hbl.mono v3.size)⟩) | (obtain ⟨v0, v1, v2, v3⟩ := ‹_ ∧ _ ∧ _ ∧ Below wr.heap.size wr _›; exact ⟨v0, v1, v2, v3.drew⟩) | (obtain ⟨v0, v1, v2, v3⟩ := ‹_ ∧ _ ∧ _ ∧ Below wr.heap.size wr _›; exact ⟨v0, v1, v2, v3⟩))
              (first | (go_at_call 48; refine (place_any _ _ _).mono ?_; rintro e w9 ⟨rfl, rfl⟩) | (go_at_call 47; refine (OV.out _).mono ?_; rintro e w9 ⟨rfl, hbl⟩))
            obtain ⟨v0, v1, v2, v3⟩ := ‹_ ∧ _ ∧ _ ∧ Below wr.heap.size wr _›
            have H8 := Lib.hid (own_laterT OWN2.out v3)
            have HB4 := Lib.hid (Below.trans HB2.out (v3.mono HB2.out.size))
            go_wp2_with fail
            refine ⟨⟨m + 1, by omega, rfl, ?_, HB4.out⟩, by simp [intOf]; omega⟩
            rw [← Nat.add_assoc, cnt_no TB.out, tapL_no TB.out]; exact H8.out
          · rw [hv] at TB OV
            go_wp2_with fail
            go_region_held3 (fun w' => w'.cell? ⟨w.heap.size, 0, none⟩ = some (.int .i64 n0) ∧ w'.cell? ⟨w.heap.size, 1, none⟩ = some (.int .i64 n1) ∧ w.heap.size < w'.heap.size ∧ Below wr.heap.size wr w')
              (first | (with_reducible assumption) | (obtain ⟨v0, v1, v2, v3⟩ := ‹_ ∧ _ ∧ _ ∧ Below wr.heap.size wr _›; exact ⟨(hbl.cell (by show w.heap.size < _; omega)).trans v0, (hbl.cell (by show w.heap.size < _; omega)).trans v1, Nat.lt_of_lt_of_le v2 hbl.size, v3.trans (hbl.mono v3.size)⟩) | (obtain ⟨v0, v1, v2, v3⟩ := ‹_ ∧ _ ∧ _ ∧ Below wr.heap.size wr _›; exact ⟨v0, v1, v2, v3.drew⟩) | (obtain ⟨v0, v1, v2, v3⟩ := ‹_ ∧ _ ∧ _ ∧ Below wr.heap.size wr _›; exact ⟨v0, v1, v2, v3⟩))
              (first | (go_at_call 48; refine (place_any _ _ _).mono ?_; rintro e w9 ⟨rfl, rfl⟩) | (go_at_call 47; refine (OV.out _).mono ?_; rintro e w9 ⟨rfl, hbl⟩))
            obtain ⟨v0, v1, v2, v3⟩ := ‹_ ∧ _ ∧ _ ∧ Below wr.heap.size wr _›
            have H8 := Lib.hid (own_laterT OWN2.out v3)
            have HB4 := Lib.hid (Below.trans HB2.out (v3.mono HB2.out.size))
            have NW2 := fun W => news_2 W (n : Int) (m : Int) _ rfl
            go_wp2_with ((at_builtin; refine wpList_append_own _ rfl (.tmp 68) (.tmp 72) 26 rfl w2.heap.size 22 i0 (.agg #[.int .i64 0, .int .i64 0]) 2 16 Try.underlying26 hi hz0 hz1 hz2 rfl (by decide) _ _ _ rfl (H8.out.alloc _) ⟨_, 0, none⟩ 1 1 [.int .i64 (n : Int), .int .i64 (m : Int)] rfl rfl (NW2 _) (two_one _ _) E1.out E2.out (by have := HB4.out.size; simp; omega) ?_; intro v1 wz hown hg hnz))
            refine ⟨⟨m + 1, by omega, rfl, ?_, ?_⟩, by simp [intOf]; omega⟩
            · rw [← Nat.add_assoc, cnt_yes TB.out, tapL_yes TB.out, DM.out.1, DM.out.2]; exact hown
            · exact below_grownT (HB4.out.alloc HB4.out.size _) hg (by have := HB4.out.size; simp; omega) (fun q hq => (VO.out q hq).1)
        · obtain rfl : K1 = m := by omega
          have t2 : decide ((K1 : Int) < k1) = false := by rw [HK1.out]; simp
          have OWN2 := Lib.hid own
          have HB2 := Lib.hid hb
          clear own hb
          go_wp2_with fail
          refine ⟨⟨n + 1, by omega, rfl, ?_, HB2.out⟩, by simp [intOf]; omega⟩
          rw [Nat.succ_mul]; exact OWN2.out
    · obtain rfl : K0 = n := by omega
      have t0 : decide ((K0 : Int) < k0) = false := by rw [HK0.out]; simp
      have HB2 := Lib.hid (B2.out.trans (hb.mono B2.out.size))
      have OWN := Lib.hid (own_baseT own GE.out)
      clear own hb
      go_wp2_with fail
      refine bodyPost_ret (v := .tuple #[_, .bool true]) (by simp [results, Try.results15, go_sem]; rfl) rfl ⟨⟨_, rfl, ?_⟩, HB2.out⟩
      rw [KK.out.1]
      exact OWN.out
end Go.Proofs.Ytgemajmimjkgcaa
