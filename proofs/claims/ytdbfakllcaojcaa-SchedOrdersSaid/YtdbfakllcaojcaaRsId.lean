/- The document's idle, operators 11, 12, 14. -/
import Derived.Test.YtdbfakllcaojcaaRsZ
import Derived.Deep.DeepCutAuto
namespace Go.Proofs.Ytdbfakllcaojcaa
open Go Go.RowKit
set_option linter.unusedVariables false
set_option linter.unusedSimpArgs false
set_option maxRecDepth 100000

set_option maxHeartbeats 8000000 in
theorem ridle_11 (n : Nd) (ho : n.op = 11) (w : World) : Calls Try.prog 32 #[.agg n.cells.toArray] w fun e w' => e = .returned (.bool (idleN n)) ∧ Below w.heap.size w w' := by
  have RN := Lib.hid (RowAt.new w n.cells 57)
  have BW := Lib.hid (Below.alloc (Below.refl w.heap.size w) (Nat.le_refl _) (.cells n.cells.toArray 57))
  have e0 : n.cells[0]? = some (.int .i64 11) := by rw [← ho]; rfl
  have HA := Lib.hid (show HasC 11 65 true from hasc 11 0 (by decide) (by decide) (by decide))
  have HB := Lib.hid (show HasC 11 66 false from hasc 11 1 (by decide) (by decide) (by decide))
  have Hw := Lib.hid (show HasC 11 119 false from hasc 11 2 (by decide) (by decide) (by decide))
  have Hp := Lib.hid (show HasC 11 112 false from hasc 11 3 (by decide) (by decide) (by decide))
  have Ha := Lib.hid (show HasC 11 97 false from hasc 11 4 (by decide) (by decide) (by decide))
  have Hb := Lib.hid (show HasC 11 98 false from hasc 11 5 (by decide) (by decide) (by decide))
  have Ho := Lib.hid (show HasC 11 111 false from hasc 11 6 (by decide) (by decide) (by decide))
  have Hm := Lib.hid (show HasC 11 109 false from hasc 11 7 (by decide) (by decide) (by decide))
  have Hn := Lib.hid (show HasC 11 110 false from hasc 11 8 (by decide) (by decide) (by decide))
  have Hl := Lib.hid (show HasC 11 108 false from hasc 11 9 (by decide) (by decide) (by decide))
  have HWW := Lib.hid (show HasC 11 87 false from hasc 11 10 (by decide) (by decide) (by decide))
  have HII := Lib.hid (show HasC 11 73 false from hasc 11 11 (by decide) (by decide) (by decide))
  have HCC := Lib.hid (show HasC 11 67 false from hasc 11 12 (by decide) (by decide) (by decide))
  have HSS := Lib.hid (show HasC 11 83 true from hasc 11 13 (by decide) (by decide) (by decide))
  have e2k := eqz2 n.k0 n.k1
  have e2s := eqz2 n.s0 n.s1
  have e4p := eqz4 n.p0 n.p1 n.p2 n.p3
  have e3h := eqz3 n.h0 n.h1 n.h2
  have HE : idleN n = ((n.b == 0) && ((n.k0 == 0 && n.k1 == 0) && (n.s0 == 0 && n.s1 == 0)) && (n.p0 == 0 && (n.p1 == 0 && (n.p2 == 0 && n.p3 == 0))) && (n.za == 0) && (n.zb == 0) && (n.zo == 0) && (n.m1 == 0 && n.t1 == 0) && (n.m2 == 0 && n.t2 == 0) && (n.lo == 0 && n.hi == 0) && (n.w == 0) && (n.bias == 0) && (n.chans == 0)) := by
    unfold idleN; rw [ho]; simp only [show hA 11 = true from rfl, show hB 11 = false from rfl, show hWin 11 = false from rfl, show hPad 11 = false from rfl, show hZa 11 = false from rfl, show hZb 11 = false from rfl, show hZo 11 = false from rfl, show hM 11 = false from rfl, show hN 11 = false from rfl, show hL 11 = false from rfl, show hW 11 = false from rfl, show hI 11 = false from rfl, show hC 11 = false from rfl, show hS 11 = true from rfl, Bool.true_or, Bool.false_or, Bool.true_and, Bool.and_true, Bool.and_assoc]
  rw [HE]
  clear HE ho
  generalize (n.k0 == 0 && n.k1 == 0) = qk at *
  generalize (n.s0 == 0 && n.s1 == 0) = qs at *
  generalize (n.p0 == 0 && (n.p1 == 0 && (n.p2 == 0 && n.p3 == 0))) = qp at *
  generalize (n.h0 == 0 && (n.h1 == 0 && n.h2 == 0)) = qh at *
  go_enter Try.func32, Try.ntmps32
  go_upto_region 2 with fail
  generalize w.alloc (.cells n.cells.toArray 57) = W1 at *
  have RN1 := RN
  have BW1 := BW
  go_cut [4] (fun s4 wx => s4 = .bool ((n.b == 0) && (qk && qs) && qp) ∧ RowAt wx w.heap.size n.cells ∧ Below w.heap.size w wx)
  case first =>
    clear RN1 BW1
    have rl := RN.out.lt
    have c2 := RN.out.cell 2 _ rfl
    have c3 := RN.out.cell 3 _ rfl
    have c4 := RN.out.cell 4 _ rfl
    have c5 := RN.out.cell 5 _ rfl
    have c6 := RN.out.cell 6 _ rfl
    have c7 := RN.out.cell 7 _ rfl
    have c8 := RN.out.cell 8 _ rfl
    have c9 := RN.out.cell 9 _ rfl
    have c10 := RN.out.cell 10 _ rfl
    go_wp2_with (go_at_call 41; (first | (with_reducible refine (HA.out _).mono ?_) | (with_reducible refine (HB.out _).mono ?_) | (with_reducible refine (Hw.out _).mono ?_) | (with_reducible refine (Hp.out _).mono ?_)); rintro e w9 ⟨rfl, hb9⟩; replace RN := Lib.hid (RN.out.over hb9); replace BW := Lib.hid (below_call BW.out hb9); replace rl := RN.out.lt; replace c2 := RN.out.cell 2 _ rfl; replace c3 := RN.out.cell 3 _ rfl; replace c4 := RN.out.cell 4 _ rfl; replace c5 := RN.out.cell 5 _ rfl; replace c6 := RN.out.cell 6 _ rfl; replace c7 := RN.out.cell 7 _ rfl; replace c8 := RN.out.cell 8 _ rfl; replace c9 := RN.out.cell 9 _ rfl; replace c10 := RN.out.cell 10 _ rfl; clear hb9)
    all_goals (go_meet; exact ⟨by simp [*], RN.out, BW.out⟩)
  case rest =>
    clear RN BW RN1 BW1
    obtain ⟨hz, hrn, hbw⟩ := hcut
    obtain ⟨z0, hzz⟩ : ∃ z, z = ((n.b == 0) && (qk && qs) && qp) := ⟨_, rfl⟩
    rw [← hzz] at hz
    have HZ0 := Lib.hid hzz
    subst hz
    have RN := Lib.hid hrn
    have BW := Lib.hid hbw
    clear hrn hbw hzz
    generalize wc = W2 at *
    go_upto_region 3 with fail
    have RN1 := RN
    have BW1 := BW
    go_cut [4] (fun s4 wx => s4 = .bool ((z0 && ((n.za == 0) && (n.zb == 0) && (n.zo == 0)))) ∧ RowAt wx w.heap.size n.cells ∧ Below w.heap.size w wx)
    case first =>
      clear RN1 BW1
      have rl := RN.out.lt
      have c11 := RN.out.cell 11 _ rfl
      have c12 := RN.out.cell 12 _ rfl
      have c13 := RN.out.cell 13 _ rfl
      go_wp2_with (go_at_call 41; (first | (with_reducible refine (Ha.out _).mono ?_) | (with_reducible refine (Hb.out _).mono ?_) | (with_reducible refine (Ho.out _).mono ?_)); rintro e w9 ⟨rfl, hb9⟩; replace RN := Lib.hid (RN.out.over hb9); replace BW := Lib.hid (below_call BW.out hb9); replace rl := RN.out.lt; replace c11 := RN.out.cell 11 _ rfl; replace c12 := RN.out.cell 12 _ rfl; replace c13 := RN.out.cell 13 _ rfl; clear hb9)
      all_goals (go_meet; exact ⟨by simp [*], RN.out, BW.out⟩)
    case rest =>
      clear RN BW RN1 BW1
      obtain ⟨hz, hrn, hbw⟩ := hcut
      obtain ⟨z1, hzz⟩ : ∃ z, z = ((z0 && ((n.za == 0) && (n.zb == 0) && (n.zo == 0)))) := ⟨_, rfl⟩
      rw [← hzz] at hz
      have HZ1 := Lib.hid hzz
      subst hz
      have RN := Lib.hid hrn
      have BW := Lib.hid hbw
      clear hrn hbw hzz
      generalize wc = W3 at *
      go_upto_region 4 with fail
      have RN1 := RN
      have BW1 := BW
      go_cut [4] (fun s4 wx => s4 = .bool ((z1 && ((n.m1 == 0 && n.t1 == 0) && (n.m2 == 0 && n.t2 == 0) && (n.lo == 0 && n.hi == 0)))) ∧ RowAt wx w.heap.size n.cells ∧ Below w.heap.size w wx)
      case first =>
        clear RN1 BW1
        have rl := RN.out.lt
        have c14 := RN.out.cell 14 _ rfl
        have c15 := RN.out.cell 15 _ rfl
        have c16 := RN.out.cell 16 _ rfl
        have c17 := RN.out.cell 17 _ rfl
        have c18 := RN.out.cell 18 _ rfl
        have c19 := RN.out.cell 19 _ rfl
        go_wp2_with (go_at_call 41; (first | (with_reducible refine (Hm.out _).mono ?_) | (with_reducible refine (Hn.out _).mono ?_) | (with_reducible refine (Hl.out _).mono ?_)); rintro e w9 ⟨rfl, hb9⟩; replace RN := Lib.hid (RN.out.over hb9); replace BW := Lib.hid (below_call BW.out hb9); replace rl := RN.out.lt; replace c14 := RN.out.cell 14 _ rfl; replace c15 := RN.out.cell 15 _ rfl; replace c16 := RN.out.cell 16 _ rfl; replace c17 := RN.out.cell 17 _ rfl; replace c18 := RN.out.cell 18 _ rfl; replace c19 := RN.out.cell 19 _ rfl; clear hb9)
        all_goals (go_meet; exact ⟨by simp [*], RN.out, BW.out⟩)
      case rest =>
        clear RN BW RN1 BW1
        obtain ⟨hz, hrn, hbw⟩ := hcut
        obtain ⟨z2, hzz⟩ : ∃ z, z = ((z1 && ((n.m1 == 0 && n.t1 == 0) && (n.m2 == 0 && n.t2 == 0) && (n.lo == 0 && n.hi == 0)))) := ⟨_, rfl⟩
        rw [← hzz] at hz
        have HZ2 := Lib.hid hzz
        subst hz
        have RN := Lib.hid hrn
        have BW := Lib.hid hbw
        clear hrn hbw hzz
        generalize wc = W4 at *
        go_upto_region 5 with fail
        have hE : ((n.b == 0) && (qk && qs) && qp && (n.za == 0) && (n.zb == 0) && (n.zo == 0) && (n.m1 == 0 && n.t1 == 0) && (n.m2 == 0 && n.t2 == 0) && (n.lo == 0 && n.hi == 0) && (n.w == 0) && (n.bias == 0) && (n.chans == 0)) = ((z2 && ((n.w == 0) && (n.bias == 0) && (n.chans == 0)))) := by
          rw [HZ2.out, HZ1.out, HZ0.out]; try simp only [Bool.and_assoc, Bool.true_and]
        have HE := Lib.hid hE
        clear hE
        have rl := RN.out.lt
        have c20 := RN.out.cell 20 _ rfl
        have c21 := RN.out.cell 21 _ rfl
        have c22 := RN.out.cell 22 _ rfl
        go_wp2_with (go_at_call 41; (first | (with_reducible refine (HWW.out _).mono ?_) | (with_reducible refine (HII.out _).mono ?_) | (with_reducible refine (HCC.out _).mono ?_) | (with_reducible refine (HSS.out _).mono ?_)); rintro e w9 ⟨rfl, hb9⟩; replace RN := Lib.hid (RN.out.over hb9); replace BW := Lib.hid (below_call BW.out hb9); replace rl := RN.out.lt; replace c20 := RN.out.cell 20 _ rfl; replace c21 := RN.out.cell 21 _ rfl; replace c22 := RN.out.cell 22 _ rfl; clear hb9)
        all_goals (go_ret; refine ⟨?_, BW.out⟩; rw [HE.out]; simp [*])
set_option maxHeartbeats 8000000 in
theorem ridle_12 (n : Nd) (ho : n.op = 12) (w : World) : Calls Try.prog 32 #[.agg n.cells.toArray] w fun e w' => e = .returned (.bool (idleN n)) ∧ Below w.heap.size w w' := by
  have RN := Lib.hid (RowAt.new w n.cells 57)
  have BW := Lib.hid (Below.alloc (Below.refl w.heap.size w) (Nat.le_refl _) (.cells n.cells.toArray 57))
  have e0 : n.cells[0]? = some (.int .i64 12) := by rw [← ho]; rfl
  have HA := Lib.hid (show HasC 12 65 true from hasc 12 0 (by decide) (by decide) (by decide))
  have HB := Lib.hid (show HasC 12 66 true from hasc 12 1 (by decide) (by decide) (by decide))
  have Hw := Lib.hid (show HasC 12 119 false from hasc 12 2 (by decide) (by decide) (by decide))
  have Hp := Lib.hid (show HasC 12 112 false from hasc 12 3 (by decide) (by decide) (by decide))
  have Ha := Lib.hid (show HasC 12 97 false from hasc 12 4 (by decide) (by decide) (by decide))
  have Hb := Lib.hid (show HasC 12 98 false from hasc 12 5 (by decide) (by decide) (by decide))
  have Ho := Lib.hid (show HasC 12 111 false from hasc 12 6 (by decide) (by decide) (by decide))
  have Hm := Lib.hid (show HasC 12 109 false from hasc 12 7 (by decide) (by decide) (by decide))
  have Hn := Lib.hid (show HasC 12 110 false from hasc 12 8 (by decide) (by decide) (by decide))
  have Hl := Lib.hid (show HasC 12 108 false from hasc 12 9 (by decide) (by decide) (by decide))
  have HWW := Lib.hid (show HasC 12 87 false from hasc 12 10 (by decide) (by decide) (by decide))
  have HII := Lib.hid (show HasC 12 73 false from hasc 12 11 (by decide) (by decide) (by decide))
  have HCC := Lib.hid (show HasC 12 67 false from hasc 12 12 (by decide) (by decide) (by decide))
  have HSS := Lib.hid (show HasC 12 83 false from hasc 12 13 (by decide) (by decide) (by decide))
  have e2k := eqz2 n.k0 n.k1
  have e2s := eqz2 n.s0 n.s1
  have e4p := eqz4 n.p0 n.p1 n.p2 n.p3
  have e3h := eqz3 n.h0 n.h1 n.h2
  have HE : idleN n = (((n.k0 == 0 && n.k1 == 0) && (n.s0 == 0 && n.s1 == 0)) && (n.p0 == 0 && (n.p1 == 0 && (n.p2 == 0 && n.p3 == 0))) && (n.za == 0) && (n.zb == 0) && (n.zo == 0) && (n.m1 == 0 && n.t1 == 0) && (n.m2 == 0 && n.t2 == 0) && (n.lo == 0 && n.hi == 0) && (n.w == 0) && (n.bias == 0) && (n.chans == 0) && (n.h0 == 0 && (n.h1 == 0 && n.h2 == 0))) := by
    unfold idleN; rw [ho]; simp only [show hA 12 = true from rfl, show hB 12 = true from rfl, show hWin 12 = false from rfl, show hPad 12 = false from rfl, show hZa 12 = false from rfl, show hZb 12 = false from rfl, show hZo 12 = false from rfl, show hM 12 = false from rfl, show hN 12 = false from rfl, show hL 12 = false from rfl, show hW 12 = false from rfl, show hI 12 = false from rfl, show hC 12 = false from rfl, show hS 12 = false from rfl, Bool.true_or, Bool.false_or, Bool.true_and, Bool.and_true, Bool.and_assoc]
  rw [HE]
  clear HE ho
  generalize (n.k0 == 0 && n.k1 == 0) = qk at *
  generalize (n.s0 == 0 && n.s1 == 0) = qs at *
  generalize (n.p0 == 0 && (n.p1 == 0 && (n.p2 == 0 && n.p3 == 0))) = qp at *
  generalize (n.h0 == 0 && (n.h1 == 0 && n.h2 == 0)) = qh at *
  go_enter Try.func32, Try.ntmps32
  go_upto_region 2 with fail
  generalize w.alloc (.cells n.cells.toArray 57) = W1 at *
  have RN1 := RN
  have BW1 := BW
  go_cut [4] (fun s4 wx => s4 = .bool ((qk && qs) && qp) ∧ RowAt wx w.heap.size n.cells ∧ Below w.heap.size w wx)
  case first =>
    clear RN1 BW1
    have rl := RN.out.lt
    have c3 := RN.out.cell 3 _ rfl
    have c4 := RN.out.cell 4 _ rfl
    have c5 := RN.out.cell 5 _ rfl
    have c6 := RN.out.cell 6 _ rfl
    have c7 := RN.out.cell 7 _ rfl
    have c8 := RN.out.cell 8 _ rfl
    have c9 := RN.out.cell 9 _ rfl
    have c10 := RN.out.cell 10 _ rfl
    go_wp2_with (go_at_call 41; (first | (with_reducible refine (HA.out _).mono ?_) | (with_reducible refine (HB.out _).mono ?_) | (with_reducible refine (Hw.out _).mono ?_) | (with_reducible refine (Hp.out _).mono ?_)); rintro e w9 ⟨rfl, hb9⟩; replace RN := Lib.hid (RN.out.over hb9); replace BW := Lib.hid (below_call BW.out hb9); replace rl := RN.out.lt; replace c3 := RN.out.cell 3 _ rfl; replace c4 := RN.out.cell 4 _ rfl; replace c5 := RN.out.cell 5 _ rfl; replace c6 := RN.out.cell 6 _ rfl; replace c7 := RN.out.cell 7 _ rfl; replace c8 := RN.out.cell 8 _ rfl; replace c9 := RN.out.cell 9 _ rfl; replace c10 := RN.out.cell 10 _ rfl; clear hb9)
    all_goals (go_meet; exact ⟨by simp [*], RN.out, BW.out⟩)
  case rest =>
    clear RN BW RN1 BW1
    obtain ⟨hz, hrn, hbw⟩ := hcut
    obtain ⟨z0, hzz⟩ : ∃ z, z = ((qk && qs) && qp) := ⟨_, rfl⟩
    rw [← hzz] at hz
    have HZ0 := Lib.hid hzz
    subst hz
    have RN := Lib.hid hrn
    have BW := Lib.hid hbw
    clear hrn hbw hzz
    generalize wc = W2 at *
    go_upto_region 3 with fail
    have RN1 := RN
    have BW1 := BW
    go_cut [4] (fun s4 wx => s4 = .bool ((z0 && ((n.za == 0) && (n.zb == 0) && (n.zo == 0)))) ∧ RowAt wx w.heap.size n.cells ∧ Below w.heap.size w wx)
    case first =>
      clear RN1 BW1
      have rl := RN.out.lt
      have c11 := RN.out.cell 11 _ rfl
      have c12 := RN.out.cell 12 _ rfl
      have c13 := RN.out.cell 13 _ rfl
      go_wp2_with (go_at_call 41; (first | (with_reducible refine (Ha.out _).mono ?_) | (with_reducible refine (Hb.out _).mono ?_) | (with_reducible refine (Ho.out _).mono ?_)); rintro e w9 ⟨rfl, hb9⟩; replace RN := Lib.hid (RN.out.over hb9); replace BW := Lib.hid (below_call BW.out hb9); replace rl := RN.out.lt; replace c11 := RN.out.cell 11 _ rfl; replace c12 := RN.out.cell 12 _ rfl; replace c13 := RN.out.cell 13 _ rfl; clear hb9)
      all_goals (go_meet; exact ⟨by simp [*], RN.out, BW.out⟩)
    case rest =>
      clear RN BW RN1 BW1
      obtain ⟨hz, hrn, hbw⟩ := hcut
      obtain ⟨z1, hzz⟩ : ∃ z, z = ((z0 && ((n.za == 0) && (n.zb == 0) && (n.zo == 0)))) := ⟨_, rfl⟩
      rw [← hzz] at hz
      have HZ1 := Lib.hid hzz
      subst hz
      have RN := Lib.hid hrn
      have BW := Lib.hid hbw
      clear hrn hbw hzz
      generalize wc = W3 at *
      go_upto_region 4 with fail
      have RN1 := RN
      have BW1 := BW
      go_cut [4] (fun s4 wx => s4 = .bool ((z1 && ((n.m1 == 0 && n.t1 == 0) && (n.m2 == 0 && n.t2 == 0) && (n.lo == 0 && n.hi == 0)))) ∧ RowAt wx w.heap.size n.cells ∧ Below w.heap.size w wx)
      case first =>
        clear RN1 BW1
        have rl := RN.out.lt
        have c14 := RN.out.cell 14 _ rfl
        have c15 := RN.out.cell 15 _ rfl
        have c16 := RN.out.cell 16 _ rfl
        have c17 := RN.out.cell 17 _ rfl
        have c18 := RN.out.cell 18 _ rfl
        have c19 := RN.out.cell 19 _ rfl
        go_wp2_with (go_at_call 41; (first | (with_reducible refine (Hm.out _).mono ?_) | (with_reducible refine (Hn.out _).mono ?_) | (with_reducible refine (Hl.out _).mono ?_)); rintro e w9 ⟨rfl, hb9⟩; replace RN := Lib.hid (RN.out.over hb9); replace BW := Lib.hid (below_call BW.out hb9); replace rl := RN.out.lt; replace c14 := RN.out.cell 14 _ rfl; replace c15 := RN.out.cell 15 _ rfl; replace c16 := RN.out.cell 16 _ rfl; replace c17 := RN.out.cell 17 _ rfl; replace c18 := RN.out.cell 18 _ rfl; replace c19 := RN.out.cell 19 _ rfl; clear hb9)
        all_goals (go_meet; exact ⟨by simp [*], RN.out, BW.out⟩)
      case rest =>
        clear RN BW RN1 BW1
        obtain ⟨hz, hrn, hbw⟩ := hcut
        obtain ⟨z2, hzz⟩ : ∃ z, z = ((z1 && ((n.m1 == 0 && n.t1 == 0) && (n.m2 == 0 && n.t2 == 0) && (n.lo == 0 && n.hi == 0)))) := ⟨_, rfl⟩
        rw [← hzz] at hz
        have HZ2 := Lib.hid hzz
        subst hz
        have RN := Lib.hid hrn
        have BW := Lib.hid hbw
        clear hrn hbw hzz
        generalize wc = W4 at *
        go_upto_region 5 with fail
        have hE : ((qk && qs) && qp && (n.za == 0) && (n.zb == 0) && (n.zo == 0) && (n.m1 == 0 && n.t1 == 0) && (n.m2 == 0 && n.t2 == 0) && (n.lo == 0 && n.hi == 0) && (n.w == 0) && (n.bias == 0) && (n.chans == 0) && qh) = ((z2 && ((n.w == 0) && (n.bias == 0) && (n.chans == 0) && qh))) := by
          rw [HZ2.out, HZ1.out, HZ0.out]; try simp only [Bool.and_assoc, Bool.true_and]
        have HE := Lib.hid hE
        clear hE
        have rl := RN.out.lt
        have c20 := RN.out.cell 20 _ rfl
        have c21 := RN.out.cell 21 _ rfl
        have c22 := RN.out.cell 22 _ rfl
        have c23 := RN.out.cell 23 _ rfl
        have c24 := RN.out.cell 24 _ rfl
        have c25 := RN.out.cell 25 _ rfl
        go_wp2_with (go_at_call 41; (first | (with_reducible refine (HWW.out _).mono ?_) | (with_reducible refine (HII.out _).mono ?_) | (with_reducible refine (HCC.out _).mono ?_) | (with_reducible refine (HSS.out _).mono ?_)); rintro e w9 ⟨rfl, hb9⟩; replace RN := Lib.hid (RN.out.over hb9); replace BW := Lib.hid (below_call BW.out hb9); replace rl := RN.out.lt; replace c20 := RN.out.cell 20 _ rfl; replace c21 := RN.out.cell 21 _ rfl; replace c22 := RN.out.cell 22 _ rfl; replace c23 := RN.out.cell 23 _ rfl; replace c24 := RN.out.cell 24 _ rfl; replace c25 := RN.out.cell 25 _ rfl; clear hb9)
        all_goals (go_ret; refine ⟨?_, BW.out⟩; rw [HE.out]; simp [*])
set_option maxHeartbeats 8000000 in
theorem ridle_14 (n : Nd) (ho : n.op = 14) (w : World) : Calls Try.prog 32 #[.agg n.cells.toArray] w fun e w' => e = .returned (.bool (idleN n)) ∧ Below w.heap.size w w' := by
  have RN := Lib.hid (RowAt.new w n.cells 57)
  have BW := Lib.hid (Below.alloc (Below.refl w.heap.size w) (Nat.le_refl _) (.cells n.cells.toArray 57))
  have e0 : n.cells[0]? = some (.int .i64 14) := by rw [← ho]; rfl
  have HA := Lib.hid (show HasC 14 65 true from hasc 14 0 (by decide) (by decide) (by decide))
  have HB := Lib.hid (show HasC 14 66 false from hasc 14 1 (by decide) (by decide) (by decide))
  have Hw := Lib.hid (show HasC 14 119 false from hasc 14 2 (by decide) (by decide) (by decide))
  have Hp := Lib.hid (show HasC 14 112 false from hasc 14 3 (by decide) (by decide) (by decide))
  have Ha := Lib.hid (show HasC 14 97 false from hasc 14 4 (by decide) (by decide) (by decide))
  have Hb := Lib.hid (show HasC 14 98 false from hasc 14 5 (by decide) (by decide) (by decide))
  have Ho := Lib.hid (show HasC 14 111 false from hasc 14 6 (by decide) (by decide) (by decide))
  have Hm := Lib.hid (show HasC 14 109 false from hasc 14 7 (by decide) (by decide) (by decide))
  have Hn := Lib.hid (show HasC 14 110 false from hasc 14 8 (by decide) (by decide) (by decide))
  have Hl := Lib.hid (show HasC 14 108 false from hasc 14 9 (by decide) (by decide) (by decide))
  have HWW := Lib.hid (show HasC 14 87 true from hasc 14 10 (by decide) (by decide) (by decide))
  have HII := Lib.hid (show HasC 14 73 false from hasc 14 11 (by decide) (by decide) (by decide))
  have HCC := Lib.hid (show HasC 14 67 false from hasc 14 12 (by decide) (by decide) (by decide))
  have HSS := Lib.hid (show HasC 14 83 false from hasc 14 13 (by decide) (by decide) (by decide))
  have e2k := eqz2 n.k0 n.k1
  have e2s := eqz2 n.s0 n.s1
  have e4p := eqz4 n.p0 n.p1 n.p2 n.p3
  have e3h := eqz3 n.h0 n.h1 n.h2
  have HE : idleN n = ((n.b == 0) && ((n.k0 == 0 && n.k1 == 0) && (n.s0 == 0 && n.s1 == 0)) && (n.p0 == 0 && (n.p1 == 0 && (n.p2 == 0 && n.p3 == 0))) && (n.za == 0) && (n.zb == 0) && (n.zo == 0) && (n.m1 == 0 && n.t1 == 0) && (n.m2 == 0 && n.t2 == 0) && (n.lo == 0 && n.hi == 0) && (n.bias == 0) && (n.chans == 0) && (n.h0 == 0 && (n.h1 == 0 && n.h2 == 0))) := by
    unfold idleN; rw [ho]; simp only [show hA 14 = true from rfl, show hB 14 = false from rfl, show hWin 14 = false from rfl, show hPad 14 = false from rfl, show hZa 14 = false from rfl, show hZb 14 = false from rfl, show hZo 14 = false from rfl, show hM 14 = false from rfl, show hN 14 = false from rfl, show hL 14 = false from rfl, show hW 14 = true from rfl, show hI 14 = false from rfl, show hC 14 = false from rfl, show hS 14 = false from rfl, Bool.true_or, Bool.false_or, Bool.true_and, Bool.and_true, Bool.and_assoc]
  rw [HE]
  clear HE ho
  generalize (n.k0 == 0 && n.k1 == 0) = qk at *
  generalize (n.s0 == 0 && n.s1 == 0) = qs at *
  generalize (n.p0 == 0 && (n.p1 == 0 && (n.p2 == 0 && n.p3 == 0))) = qp at *
  generalize (n.h0 == 0 && (n.h1 == 0 && n.h2 == 0)) = qh at *
  go_enter Try.func32, Try.ntmps32
  go_upto_region 2 with fail
  generalize w.alloc (.cells n.cells.toArray 57) = W1 at *
  have RN1 := RN
  have BW1 := BW
  go_cut [4] (fun s4 wx => s4 = .bool ((n.b == 0) && (qk && qs) && qp) ∧ RowAt wx w.heap.size n.cells ∧ Below w.heap.size w wx)
  case first =>
    clear RN1 BW1
    have rl := RN.out.lt
    have c2 := RN.out.cell 2 _ rfl
    have c3 := RN.out.cell 3 _ rfl
    have c4 := RN.out.cell 4 _ rfl
    have c5 := RN.out.cell 5 _ rfl
    have c6 := RN.out.cell 6 _ rfl
    have c7 := RN.out.cell 7 _ rfl
    have c8 := RN.out.cell 8 _ rfl
    have c9 := RN.out.cell 9 _ rfl
    have c10 := RN.out.cell 10 _ rfl
    go_wp2_with (go_at_call 41; (first | (with_reducible refine (HA.out _).mono ?_) | (with_reducible refine (HB.out _).mono ?_) | (with_reducible refine (Hw.out _).mono ?_) | (with_reducible refine (Hp.out _).mono ?_)); rintro e w9 ⟨rfl, hb9⟩; replace RN := Lib.hid (RN.out.over hb9); replace BW := Lib.hid (below_call BW.out hb9); replace rl := RN.out.lt; replace c2 := RN.out.cell 2 _ rfl; replace c3 := RN.out.cell 3 _ rfl; replace c4 := RN.out.cell 4 _ rfl; replace c5 := RN.out.cell 5 _ rfl; replace c6 := RN.out.cell 6 _ rfl; replace c7 := RN.out.cell 7 _ rfl; replace c8 := RN.out.cell 8 _ rfl; replace c9 := RN.out.cell 9 _ rfl; replace c10 := RN.out.cell 10 _ rfl; clear hb9)
    all_goals (go_meet; exact ⟨by simp [*], RN.out, BW.out⟩)
  case rest =>
    clear RN BW RN1 BW1
    obtain ⟨hz, hrn, hbw⟩ := hcut
    obtain ⟨z0, hzz⟩ : ∃ z, z = ((n.b == 0) && (qk && qs) && qp) := ⟨_, rfl⟩
    rw [← hzz] at hz
    have HZ0 := Lib.hid hzz
    subst hz
    have RN := Lib.hid hrn
    have BW := Lib.hid hbw
    clear hrn hbw hzz
    generalize wc = W2 at *
    go_upto_region 3 with fail
    have RN1 := RN
    have BW1 := BW
    go_cut [4] (fun s4 wx => s4 = .bool ((z0 && ((n.za == 0) && (n.zb == 0) && (n.zo == 0)))) ∧ RowAt wx w.heap.size n.cells ∧ Below w.heap.size w wx)
    case first =>
      clear RN1 BW1
      have rl := RN.out.lt
      have c11 := RN.out.cell 11 _ rfl
      have c12 := RN.out.cell 12 _ rfl
      have c13 := RN.out.cell 13 _ rfl
      go_wp2_with (go_at_call 41; (first | (with_reducible refine (Ha.out _).mono ?_) | (with_reducible refine (Hb.out _).mono ?_) | (with_reducible refine (Ho.out _).mono ?_)); rintro e w9 ⟨rfl, hb9⟩; replace RN := Lib.hid (RN.out.over hb9); replace BW := Lib.hid (below_call BW.out hb9); replace rl := RN.out.lt; replace c11 := RN.out.cell 11 _ rfl; replace c12 := RN.out.cell 12 _ rfl; replace c13 := RN.out.cell 13 _ rfl; clear hb9)
      all_goals (go_meet; exact ⟨by simp [*], RN.out, BW.out⟩)
    case rest =>
      clear RN BW RN1 BW1
      obtain ⟨hz, hrn, hbw⟩ := hcut
      obtain ⟨z1, hzz⟩ : ∃ z, z = ((z0 && ((n.za == 0) && (n.zb == 0) && (n.zo == 0)))) := ⟨_, rfl⟩
      rw [← hzz] at hz
      have HZ1 := Lib.hid hzz
      subst hz
      have RN := Lib.hid hrn
      have BW := Lib.hid hbw
      clear hrn hbw hzz
      generalize wc = W3 at *
      go_upto_region 4 with fail
      have RN1 := RN
      have BW1 := BW
      go_cut [4] (fun s4 wx => s4 = .bool ((z1 && ((n.m1 == 0 && n.t1 == 0) && (n.m2 == 0 && n.t2 == 0) && (n.lo == 0 && n.hi == 0)))) ∧ RowAt wx w.heap.size n.cells ∧ Below w.heap.size w wx)
      case first =>
        clear RN1 BW1
        have rl := RN.out.lt
        have c14 := RN.out.cell 14 _ rfl
        have c15 := RN.out.cell 15 _ rfl
        have c16 := RN.out.cell 16 _ rfl
        have c17 := RN.out.cell 17 _ rfl
        have c18 := RN.out.cell 18 _ rfl
        have c19 := RN.out.cell 19 _ rfl
        go_wp2_with (go_at_call 41; (first | (with_reducible refine (Hm.out _).mono ?_) | (with_reducible refine (Hn.out _).mono ?_) | (with_reducible refine (Hl.out _).mono ?_)); rintro e w9 ⟨rfl, hb9⟩; replace RN := Lib.hid (RN.out.over hb9); replace BW := Lib.hid (below_call BW.out hb9); replace rl := RN.out.lt; replace c14 := RN.out.cell 14 _ rfl; replace c15 := RN.out.cell 15 _ rfl; replace c16 := RN.out.cell 16 _ rfl; replace c17 := RN.out.cell 17 _ rfl; replace c18 := RN.out.cell 18 _ rfl; replace c19 := RN.out.cell 19 _ rfl; clear hb9)
        all_goals (go_meet; exact ⟨by simp [*], RN.out, BW.out⟩)
      case rest =>
        clear RN BW RN1 BW1
        obtain ⟨hz, hrn, hbw⟩ := hcut
        obtain ⟨z2, hzz⟩ : ∃ z, z = ((z1 && ((n.m1 == 0 && n.t1 == 0) && (n.m2 == 0 && n.t2 == 0) && (n.lo == 0 && n.hi == 0)))) := ⟨_, rfl⟩
        rw [← hzz] at hz
        have HZ2 := Lib.hid hzz
        subst hz
        have RN := Lib.hid hrn
        have BW := Lib.hid hbw
        clear hrn hbw hzz
        generalize wc = W4 at *
        go_upto_region 5 with fail
        have hE : ((n.b == 0) && (qk && qs) && qp && (n.za == 0) && (n.zb == 0) && (n.zo == 0) && (n.m1 == 0 && n.t1 == 0) && (n.m2 == 0 && n.t2 == 0) && (n.lo == 0 && n.hi == 0) && (n.bias == 0) && (n.chans == 0) && qh) = ((z2 && ((n.bias == 0) && (n.chans == 0) && qh))) := by
          rw [HZ2.out, HZ1.out, HZ0.out]; try simp only [Bool.and_assoc, Bool.true_and]
        have HE := Lib.hid hE
        clear hE
        have rl := RN.out.lt
        have c21 := RN.out.cell 21 _ rfl
        have c22 := RN.out.cell 22 _ rfl
        have c23 := RN.out.cell 23 _ rfl
        have c24 := RN.out.cell 24 _ rfl
        have c25 := RN.out.cell 25 _ rfl
        go_wp2_with (go_at_call 41; (first | (with_reducible refine (HWW.out _).mono ?_) | (with_reducible refine (HII.out _).mono ?_) | (with_reducible refine (HCC.out _).mono ?_) | (with_reducible refine (HSS.out _).mono ?_)); rintro e w9 ⟨rfl, hb9⟩; replace RN := Lib.hid (RN.out.over hb9); replace BW := Lib.hid (below_call BW.out hb9); replace rl := RN.out.lt; replace c21 := RN.out.cell 21 _ rfl; replace c22 := RN.out.cell 22 _ rfl; replace c23 := RN.out.cell 23 _ rfl; replace c24 := RN.out.cell 24 _ rfl; replace c25 := RN.out.cell 25 _ rfl; clear hb9)
        all_goals (go_ret; refine ⟨?_, BW.out⟩; rw [HE.out]; simp [*])
end Go.Proofs.Ytdbfakllcaojcaa
