/- Package infer: the judge's method numbers. -/
import Derived.Test.YtmifojpmomdmeaaJP
import Derived.Test.YtmifojpmomdmeaaTW
import Derived.BigRegion
import Derived.Deep.LoopGhost
import Derived.Test.YtmifojpmomdmeaaJQ
namespace Go.Proofs.Ytmifojpmomdmeaa
open Go Go.RowKit
set_option linter.unusedVariables false

set_option maxRecDepth 100000 in
set_option maxHeartbeats 4000000 in
theorem jnum_q0 (J : Nat) (j : Jg) (w : World) (hJ : JAt w J j) (hz0 : smallB j.n.za = true) (hz1 : smallB j.n.zb = true) (hz2 : smallB j.n.zo = true) (hz3 : smallB j.n.lo = true) (hz4 : smallB j.n.hi = true) (q0 : j.n.m1 < 0) :
    Calls Try.prog 62 #[.pointer (some ⟨J, 0, none⟩)] w fun e w' => e = .returned (.int .i64 11) ∧ Below w.heap.size w w' := by
  obtain ⟨T, Z, Z0, K, NL⟩ := node_letter j.n
  have hL := NL.load
  have hAl := NL.alloc
  have hSt := NL.store
  have tA := NL.agg
  have tS := NL.size
  have tZ := NL.zero
  have tK := NL.len
  have tT := NL.st1 w
  have hlt := hJ.lt
  have RG := Lib.hid (jg_rg hJ NL)
  have k_0 : K[0]? = some (.int .i64 j.n.op) := by rw [NL.cells]; rfl
  have k_11 : K[11]? = some (.int .i64 j.n.za) := by rw [NL.cells]; rfl
  have k_12 : K[12]? = some (.int .i64 j.n.zb) := by rw [NL.cells]; rfl
  have k_13 : K[13]? = some (.int .i64 j.n.zo) := by rw [NL.cells]; rfl
  have k_18 : K[18]? = some (.int .i64 j.n.lo) := by rw [NL.cells]; rfl
  have k_19 : K[19]? = some (.int .i64 j.n.hi) := by rw [NL.cells]; rfl
  have k_14 : K[14]? = some (.int .i32 j.n.m1) := by rw [NL.cells]; rfl
  have k_15 : K[15]? = some (.int .i32 j.n.m2) := by rw [NL.cells]; rfl
  have k_16 : K[16]? = some (.int .i64 j.n.t1) := by rw [NL.cells]; rfl
  have k_17 : K[17]? = some (.int .i64 j.n.t2) := by rw [NL.cells]; rfl
  have tR := NL.read w J RG.out
  have ix0 : ∀ w, (Instr.index 111 (.agg #[.int .i64 j.n.za, .int .i64 j.n.zb, .int .i64 j.n.zo, .int .i64 j.n.lo, .int .i64 j.n.hi]) (.int .i64 0)).run Try.prog w = .ok (.int .i64 j.n.za) w := fun _ => by kernel_rfl
  have ix1 : ∀ w, (Instr.index 111 (.agg #[.int .i64 j.n.za, .int .i64 j.n.zb, .int .i64 j.n.zo, .int .i64 j.n.lo, .int .i64 j.n.hi]) (.int .i64 1)).run Try.prog w = .ok (.int .i64 j.n.zb) w := fun _ => by kernel_rfl
  have ix2 : ∀ w, (Instr.index 111 (.agg #[.int .i64 j.n.za, .int .i64 j.n.zb, .int .i64 j.n.zo, .int .i64 j.n.lo, .int .i64 j.n.hi]) (.int .i64 2)).run Try.prog w = .ok (.int .i64 j.n.zo) w := fun _ => by kernel_rfl
  have ix3 : ∀ w, (Instr.index 111 (.agg #[.int .i64 j.n.za, .int .i64 j.n.zb, .int .i64 j.n.zo, .int .i64 j.n.lo, .int .i64 j.n.hi]) (.int .i64 3)).run Try.prog w = .ok (.int .i64 j.n.lo) w := fun _ => by kernel_rfl
  have ix4 : ∀ w, (Instr.index 111 (.agg #[.int .i64 j.n.za, .int .i64 j.n.zb, .int .i64 j.n.zo, .int .i64 j.n.lo, .int .i64 j.n.hi]) (.int .i64 4)).run Try.prog w = .ok (.int .i64 j.n.hi) w := fun _ => by kernel_rfl
  have WZ0 := Lib.hid (show ∀ W : World, Calls Try.prog 82 #[.int .i64 j.n.za, .int .i64 (-128), .int .i64 127] W fun e w' => e = .returned (.bool true) ∧ w' = W from fun W => by have := jwithin (j.n.za) (-128) 127 W; rwa [show decide (-128 ≤ j.n.za ∧ j.n.za ≤ 127) = true from hz0] at this)
  have WZ1 := Lib.hid (show ∀ W : World, Calls Try.prog 82 #[.int .i64 j.n.zb, .int .i64 (-128), .int .i64 127] W fun e w' => e = .returned (.bool true) ∧ w' = W from fun W => by have := jwithin (j.n.zb) (-128) 127 W; rwa [show decide (-128 ≤ j.n.zb ∧ j.n.zb ≤ 127) = true from hz1] at this)
  have WZ2 := Lib.hid (show ∀ W : World, Calls Try.prog 82 #[.int .i64 j.n.zo, .int .i64 (-128), .int .i64 127] W fun e w' => e = .returned (.bool true) ∧ w' = W from fun W => by have := jwithin (j.n.zo) (-128) 127 W; rwa [show decide (-128 ≤ j.n.zo ∧ j.n.zo ≤ 127) = true from hz2] at this)
  have WZ3 := Lib.hid (show ∀ W : World, Calls Try.prog 82 #[.int .i64 j.n.lo, .int .i64 (-128), .int .i64 127] W fun e w' => e = .returned (.bool true) ∧ w' = W from fun W => by have := jwithin (j.n.lo) (-128) 127 W; rwa [show decide (-128 ≤ j.n.lo ∧ j.n.lo ≤ 127) = true from hz3] at this)
  have WZ4 := Lib.hid (show ∀ W : World, Calls Try.prog 82 #[.int .i64 j.n.hi, .int .i64 (-128), .int .i64 127] W fun e w' => e = .returned (.bool true) ∧ w' = W from fun W => by have := jwithin (j.n.hi) (-128) 127 W; rwa [show decide (-128 ≤ j.n.hi ∧ j.n.hi ≤ 127) = true from hz4] at this)
  clear hJ hz0 hz1 hz2 hz3 hz4
  go_enter Try.func62, Try.ntmps62
  simp only [hL, hAl, hSt]
  clear hL hAl hSt NL RG
  go_wp2_with fail
  refine wp_loop_rounds 6 ?_
  iterate 6 (
    rw [rounds_succ]
    go_wp2_with (first | (go_at_call 82; (with_reducible refine (WZ0.out _).mono ?_); rintro e w' ⟨rfl, rfl⟩) | (go_at_call 82; (with_reducible refine (WZ1.out _).mono ?_); rintro e w' ⟨rfl, rfl⟩) | (go_at_call 82; (with_reducible refine (WZ2.out _).mono ?_); rintro e w' ⟨rfl, rfl⟩) | (go_at_call 82; (with_reducible refine (WZ3.out _).mono ?_); rintro e w' ⟨rfl, rfl⟩) | (go_at_call 82; (with_reducible refine (WZ4.out _).mono ?_); rintro e w' ⟨rfl, rfl⟩)))
  go_ret
  exact ⟨rfl, by go_grown⟩
set_option maxRecDepth 100000 in
set_option maxHeartbeats 4000000 in
theorem jnum_q1 (J : Nat) (j : Jg) (w : World) (hJ : JAt w J j) (hz0 : smallB j.n.za = true) (hz1 : smallB j.n.zb = true) (hz2 : smallB j.n.zo = true) (hz3 : smallB j.n.lo = true) (hz4 : smallB j.n.hi = true) (q0 : 0 ≤ j.n.m1) (q1 : j.n.m2 < 0) :
    Calls Try.prog 62 #[.pointer (some ⟨J, 0, none⟩)] w fun e w' => e = .returned (.int .i64 11) ∧ Below w.heap.size w w' := by
  obtain ⟨T, Z, Z0, K, NL⟩ := node_letter j.n
  have hL := NL.load
  have hAl := NL.alloc
  have hSt := NL.store
  have tA := NL.agg
  have tS := NL.size
  have tZ := NL.zero
  have tK := NL.len
  have tT := NL.st1 w
  have hlt := hJ.lt
  have RG := Lib.hid (jg_rg hJ NL)
  have k_0 : K[0]? = some (.int .i64 j.n.op) := by rw [NL.cells]; rfl
  have k_11 : K[11]? = some (.int .i64 j.n.za) := by rw [NL.cells]; rfl
  have k_12 : K[12]? = some (.int .i64 j.n.zb) := by rw [NL.cells]; rfl
  have k_13 : K[13]? = some (.int .i64 j.n.zo) := by rw [NL.cells]; rfl
  have k_18 : K[18]? = some (.int .i64 j.n.lo) := by rw [NL.cells]; rfl
  have k_19 : K[19]? = some (.int .i64 j.n.hi) := by rw [NL.cells]; rfl
  have k_14 : K[14]? = some (.int .i32 j.n.m1) := by rw [NL.cells]; rfl
  have k_15 : K[15]? = some (.int .i32 j.n.m2) := by rw [NL.cells]; rfl
  have k_16 : K[16]? = some (.int .i64 j.n.t1) := by rw [NL.cells]; rfl
  have k_17 : K[17]? = some (.int .i64 j.n.t2) := by rw [NL.cells]; rfl
  have tR := NL.read w J RG.out
  have ix0 : ∀ w, (Instr.index 111 (.agg #[.int .i64 j.n.za, .int .i64 j.n.zb, .int .i64 j.n.zo, .int .i64 j.n.lo, .int .i64 j.n.hi]) (.int .i64 0)).run Try.prog w = .ok (.int .i64 j.n.za) w := fun _ => by kernel_rfl
  have ix1 : ∀ w, (Instr.index 111 (.agg #[.int .i64 j.n.za, .int .i64 j.n.zb, .int .i64 j.n.zo, .int .i64 j.n.lo, .int .i64 j.n.hi]) (.int .i64 1)).run Try.prog w = .ok (.int .i64 j.n.zb) w := fun _ => by kernel_rfl
  have ix2 : ∀ w, (Instr.index 111 (.agg #[.int .i64 j.n.za, .int .i64 j.n.zb, .int .i64 j.n.zo, .int .i64 j.n.lo, .int .i64 j.n.hi]) (.int .i64 2)).run Try.prog w = .ok (.int .i64 j.n.zo) w := fun _ => by kernel_rfl
  have ix3 : ∀ w, (Instr.index 111 (.agg #[.int .i64 j.n.za, .int .i64 j.n.zb, .int .i64 j.n.zo, .int .i64 j.n.lo, .int .i64 j.n.hi]) (.int .i64 3)).run Try.prog w = .ok (.int .i64 j.n.lo) w := fun _ => by kernel_rfl
  have ix4 : ∀ w, (Instr.index 111 (.agg #[.int .i64 j.n.za, .int .i64 j.n.zb, .int .i64 j.n.zo, .int .i64 j.n.lo, .int .i64 j.n.hi]) (.int .i64 4)).run Try.prog w = .ok (.int .i64 j.n.hi) w := fun _ => by kernel_rfl
  have WZ0 := Lib.hid (show ∀ W : World, Calls Try.prog 82 #[.int .i64 j.n.za, .int .i64 (-128), .int .i64 127] W fun e w' => e = .returned (.bool true) ∧ w' = W from fun W => by have := jwithin (j.n.za) (-128) 127 W; rwa [show decide (-128 ≤ j.n.za ∧ j.n.za ≤ 127) = true from hz0] at this)
  have WZ1 := Lib.hid (show ∀ W : World, Calls Try.prog 82 #[.int .i64 j.n.zb, .int .i64 (-128), .int .i64 127] W fun e w' => e = .returned (.bool true) ∧ w' = W from fun W => by have := jwithin (j.n.zb) (-128) 127 W; rwa [show decide (-128 ≤ j.n.zb ∧ j.n.zb ≤ 127) = true from hz1] at this)
  have WZ2 := Lib.hid (show ∀ W : World, Calls Try.prog 82 #[.int .i64 j.n.zo, .int .i64 (-128), .int .i64 127] W fun e w' => e = .returned (.bool true) ∧ w' = W from fun W => by have := jwithin (j.n.zo) (-128) 127 W; rwa [show decide (-128 ≤ j.n.zo ∧ j.n.zo ≤ 127) = true from hz2] at this)
  have WZ3 := Lib.hid (show ∀ W : World, Calls Try.prog 82 #[.int .i64 j.n.lo, .int .i64 (-128), .int .i64 127] W fun e w' => e = .returned (.bool true) ∧ w' = W from fun W => by have := jwithin (j.n.lo) (-128) 127 W; rwa [show decide (-128 ≤ j.n.lo ∧ j.n.lo ≤ 127) = true from hz3] at this)
  have WZ4 := Lib.hid (show ∀ W : World, Calls Try.prog 82 #[.int .i64 j.n.hi, .int .i64 (-128), .int .i64 127] W fun e w' => e = .returned (.bool true) ∧ w' = W from fun W => by have := jwithin (j.n.hi) (-128) 127 W; rwa [show decide (-128 ≤ j.n.hi ∧ j.n.hi ≤ 127) = true from hz4] at this)
  clear hJ hz0 hz1 hz2 hz3 hz4
  go_enter Try.func62, Try.ntmps62
  simp only [hL, hAl, hSt]
  clear hL hAl hSt NL RG
  go_wp2_with fail
  refine wp_loop_rounds 6 ?_
  iterate 6 (
    rw [rounds_succ]
    go_wp2_with (first | (go_at_call 82; (with_reducible refine (WZ0.out _).mono ?_); rintro e w' ⟨rfl, rfl⟩) | (go_at_call 82; (with_reducible refine (WZ1.out _).mono ?_); rintro e w' ⟨rfl, rfl⟩) | (go_at_call 82; (with_reducible refine (WZ2.out _).mono ?_); rintro e w' ⟨rfl, rfl⟩) | (go_at_call 82; (with_reducible refine (WZ3.out _).mono ?_); rintro e w' ⟨rfl, rfl⟩) | (go_at_call 82; (with_reducible refine (WZ4.out _).mono ?_); rintro e w' ⟨rfl, rfl⟩)))
  go_ret
  exact ⟨rfl, by go_grown⟩
set_option maxRecDepth 100000 in
set_option maxHeartbeats 4000000 in
theorem jnum_q2 (J : Nat) (j : Jg) (w : World) (hJ : JAt w J j) (hz0 : smallB j.n.za = true) (hz1 : smallB j.n.zb = true) (hz2 : smallB j.n.zo = true) (hz3 : smallB j.n.lo = true) (hz4 : smallB j.n.hi = true) (q0 : 0 ≤ j.n.m1) (q1 : 0 ≤ j.n.m2) (q2 : decide (0 ≤ j.n.t1 ∧ j.n.t1 ≤ 31) = false) :
    Calls Try.prog 62 #[.pointer (some ⟨J, 0, none⟩)] w fun e w' => e = .returned (.int .i64 11) ∧ Below w.heap.size w w' := by
  obtain ⟨T, Z, Z0, K, NL⟩ := node_letter j.n
  have hL := NL.load
  have hAl := NL.alloc
  have hSt := NL.store
  have tA := NL.agg
  have tS := NL.size
  have tZ := NL.zero
  have tK := NL.len
  have tT := NL.st1 w
  have hlt := hJ.lt
  have RG := Lib.hid (jg_rg hJ NL)
  have k_0 : K[0]? = some (.int .i64 j.n.op) := by rw [NL.cells]; rfl
  have k_11 : K[11]? = some (.int .i64 j.n.za) := by rw [NL.cells]; rfl
  have k_12 : K[12]? = some (.int .i64 j.n.zb) := by rw [NL.cells]; rfl
  have k_13 : K[13]? = some (.int .i64 j.n.zo) := by rw [NL.cells]; rfl
  have k_18 : K[18]? = some (.int .i64 j.n.lo) := by rw [NL.cells]; rfl
  have k_19 : K[19]? = some (.int .i64 j.n.hi) := by rw [NL.cells]; rfl
  have k_14 : K[14]? = some (.int .i32 j.n.m1) := by rw [NL.cells]; rfl
  have k_15 : K[15]? = some (.int .i32 j.n.m2) := by rw [NL.cells]; rfl
  have k_16 : K[16]? = some (.int .i64 j.n.t1) := by rw [NL.cells]; rfl
  have k_17 : K[17]? = some (.int .i64 j.n.t2) := by rw [NL.cells]; rfl
  have tR := NL.read w J RG.out
  have ix0 : ∀ w, (Instr.index 111 (.agg #[.int .i64 j.n.za, .int .i64 j.n.zb, .int .i64 j.n.zo, .int .i64 j.n.lo, .int .i64 j.n.hi]) (.int .i64 0)).run Try.prog w = .ok (.int .i64 j.n.za) w := fun _ => by kernel_rfl
  have ix1 : ∀ w, (Instr.index 111 (.agg #[.int .i64 j.n.za, .int .i64 j.n.zb, .int .i64 j.n.zo, .int .i64 j.n.lo, .int .i64 j.n.hi]) (.int .i64 1)).run Try.prog w = .ok (.int .i64 j.n.zb) w := fun _ => by kernel_rfl
  have ix2 : ∀ w, (Instr.index 111 (.agg #[.int .i64 j.n.za, .int .i64 j.n.zb, .int .i64 j.n.zo, .int .i64 j.n.lo, .int .i64 j.n.hi]) (.int .i64 2)).run Try.prog w = .ok (.int .i64 j.n.zo) w := fun _ => by kernel_rfl
  have ix3 : ∀ w, (Instr.index 111 (.agg #[.int .i64 j.n.za, .int .i64 j.n.zb, .int .i64 j.n.zo, .int .i64 j.n.lo, .int .i64 j.n.hi]) (.int .i64 3)).run Try.prog w = .ok (.int .i64 j.n.lo) w := fun _ => by kernel_rfl
  have ix4 : ∀ w, (Instr.index 111 (.agg #[.int .i64 j.n.za, .int .i64 j.n.zb, .int .i64 j.n.zo, .int .i64 j.n.lo, .int .i64 j.n.hi]) (.int .i64 4)).run Try.prog w = .ok (.int .i64 j.n.hi) w := fun _ => by kernel_rfl
  have WZ0 := Lib.hid (show ∀ W : World, Calls Try.prog 82 #[.int .i64 j.n.za, .int .i64 (-128), .int .i64 127] W fun e w' => e = .returned (.bool true) ∧ w' = W from fun W => by have := jwithin (j.n.za) (-128) 127 W; rwa [show decide (-128 ≤ j.n.za ∧ j.n.za ≤ 127) = true from hz0] at this)
  have WZ1 := Lib.hid (show ∀ W : World, Calls Try.prog 82 #[.int .i64 j.n.zb, .int .i64 (-128), .int .i64 127] W fun e w' => e = .returned (.bool true) ∧ w' = W from fun W => by have := jwithin (j.n.zb) (-128) 127 W; rwa [show decide (-128 ≤ j.n.zb ∧ j.n.zb ≤ 127) = true from hz1] at this)
  have WZ2 := Lib.hid (show ∀ W : World, Calls Try.prog 82 #[.int .i64 j.n.zo, .int .i64 (-128), .int .i64 127] W fun e w' => e = .returned (.bool true) ∧ w' = W from fun W => by have := jwithin (j.n.zo) (-128) 127 W; rwa [show decide (-128 ≤ j.n.zo ∧ j.n.zo ≤ 127) = true from hz2] at this)
  have WZ3 := Lib.hid (show ∀ W : World, Calls Try.prog 82 #[.int .i64 j.n.lo, .int .i64 (-128), .int .i64 127] W fun e w' => e = .returned (.bool true) ∧ w' = W from fun W => by have := jwithin (j.n.lo) (-128) 127 W; rwa [show decide (-128 ≤ j.n.lo ∧ j.n.lo ≤ 127) = true from hz3] at this)
  have WZ4 := Lib.hid (show ∀ W : World, Calls Try.prog 82 #[.int .i64 j.n.hi, .int .i64 (-128), .int .i64 127] W fun e w' => e = .returned (.bool true) ∧ w' = W from fun W => by have := jwithin (j.n.hi) (-128) 127 W; rwa [show decide (-128 ≤ j.n.hi ∧ j.n.hi ≤ 127) = true from hz4] at this)
  have WQ2 := Lib.hid (show ∀ W : World, Calls Try.prog 82 #[.int .i64 j.n.t1, .int .i64 (0), .int .i64 31] W fun e w' => e = .returned (.bool false) ∧ w' = W from fun W => by have := jwithin (j.n.t1) (0) 31 W; rwa [q2] at this)
  clear hJ hz0 hz1 hz2 hz3 hz4 q2
  go_enter Try.func62, Try.ntmps62
  simp only [hL, hAl, hSt]
  clear hL hAl hSt NL RG
  go_wp2_with fail
  refine wp_loop_rounds 6 ?_
  iterate 5 (
    rw [rounds_succ]
    go_wp2_with (first | (go_at_call 82; (with_reducible refine (WZ0.out _).mono ?_); rintro e w' ⟨rfl, rfl⟩) | (go_at_call 82; (with_reducible refine (WZ1.out _).mono ?_); rintro e w' ⟨rfl, rfl⟩) | (go_at_call 82; (with_reducible refine (WZ2.out _).mono ?_); rintro e w' ⟨rfl, rfl⟩) | (go_at_call 82; (with_reducible refine (WZ3.out _).mono ?_); rintro e w' ⟨rfl, rfl⟩) | (go_at_call 82; (with_reducible refine (WZ4.out _).mono ?_); rintro e w' ⟨rfl, rfl⟩)))
  rw [rounds_succ]
  go_wp2_with (first | (go_at_call 82; (with_reducible refine (WZ0.out _).mono ?_); rintro e w' ⟨rfl, rfl⟩) | (go_at_call 82; (with_reducible refine (WZ1.out _).mono ?_); rintro e w' ⟨rfl, rfl⟩) | (go_at_call 82; (with_reducible refine (WZ2.out _).mono ?_); rintro e w' ⟨rfl, rfl⟩) | (go_at_call 82; (with_reducible refine (WZ3.out _).mono ?_); rintro e w' ⟨rfl, rfl⟩) | (go_at_call 82; (with_reducible refine (WZ4.out _).mono ?_); rintro e w' ⟨rfl, rfl⟩) | (go_at_call 82; (with_reducible refine (WQ2.out _).mono ?_); rintro e w' ⟨rfl, rfl⟩))
  go_ret
  exact ⟨rfl, by go_grown⟩
set_option maxRecDepth 100000 in
set_option maxHeartbeats 4000000 in
theorem jnum_q3 (J : Nat) (j : Jg) (w : World) (hJ : JAt w J j) (hz0 : smallB j.n.za = true) (hz1 : smallB j.n.zb = true) (hz2 : smallB j.n.zo = true) (hz3 : smallB j.n.lo = true) (hz4 : smallB j.n.hi = true) (q0 : 0 ≤ j.n.m1) (q1 : 0 ≤ j.n.m2) (q2 : decide (0 ≤ j.n.t1 ∧ j.n.t1 ≤ 31) = true) (q3 : decide (0 ≤ j.n.t2 ∧ j.n.t2 ≤ 31) = false) :
    Calls Try.prog 62 #[.pointer (some ⟨J, 0, none⟩)] w fun e w' => e = .returned (.int .i64 11) ∧ Below w.heap.size w w' := by
  obtain ⟨T, Z, Z0, K, NL⟩ := node_letter j.n
  have hL := NL.load
  have hAl := NL.alloc
  have hSt := NL.store
  have tA := NL.agg
  have tS := NL.size
  have tZ := NL.zero
  have tK := NL.len
  have tT := NL.st1 w
  have hlt := hJ.lt
  have RG := Lib.hid (jg_rg hJ NL)
  have k_0 : K[0]? = some (.int .i64 j.n.op) := by rw [NL.cells]; rfl
  have k_11 : K[11]? = some (.int .i64 j.n.za) := by rw [NL.cells]; rfl
  have k_12 : K[12]? = some (.int .i64 j.n.zb) := by rw [NL.cells]; rfl
  have k_13 : K[13]? = some (.int .i64 j.n.zo) := by rw [NL.cells]; rfl
  have k_18 : K[18]? = some (.int .i64 j.n.lo) := by rw [NL.cells]; rfl
  have k_19 : K[19]? = some (.int .i64 j.n.hi) := by rw [NL.cells]; rfl
  have k_14 : K[14]? = some (.int .i32 j.n.m1) := by rw [NL.cells]; rfl
  have k_15 : K[15]? = some (.int .i32 j.n.m2) := by rw [NL.cells]; rfl
  have k_16 : K[16]? = some (.int .i64 j.n.t1) := by rw [NL.cells]; rfl
  have k_17 : K[17]? = some (.int .i64 j.n.t2) := by rw [NL.cells]; rfl
  have tR := NL.read w J RG.out
  have ix0 : ∀ w, (Instr.index 111 (.agg #[.int .i64 j.n.za, .int .i64 j.n.zb, .int .i64 j.n.zo, .int .i64 j.n.lo, .int .i64 j.n.hi]) (.int .i64 0)).run Try.prog w = .ok (.int .i64 j.n.za) w := fun _ => by kernel_rfl
  have ix1 : ∀ w, (Instr.index 111 (.agg #[.int .i64 j.n.za, .int .i64 j.n.zb, .int .i64 j.n.zo, .int .i64 j.n.lo, .int .i64 j.n.hi]) (.int .i64 1)).run Try.prog w = .ok (.int .i64 j.n.zb) w := fun _ => by kernel_rfl
  have ix2 : ∀ w, (Instr.index 111 (.agg #[.int .i64 j.n.za, .int .i64 j.n.zb, .int .i64 j.n.zo, .int .i64 j.n.lo, .int .i64 j.n.hi]) (.int .i64 2)).run Try.prog w = .ok (.int .i64 j.n.zo) w := fun _ => by kernel_rfl
  have ix3 : ∀ w, (Instr.index 111 (.agg #[.int .i64 j.n.za, .int .i64 j.n.zb, .int .i64 j.n.zo, .int .i64 j.n.lo, .int .i64 j.n.hi]) (.int .i64 3)).run Try.prog w = .ok (.int .i64 j.n.lo) w := fun _ => by kernel_rfl
  have ix4 : ∀ w, (Instr.index 111 (.agg #[.int .i64 j.n.za, .int .i64 j.n.zb, .int .i64 j.n.zo, .int .i64 j.n.lo, .int .i64 j.n.hi]) (.int .i64 4)).run Try.prog w = .ok (.int .i64 j.n.hi) w := fun _ => by kernel_rfl
  have WZ0 := Lib.hid (show ∀ W : World, Calls Try.prog 82 #[.int .i64 j.n.za, .int .i64 (-128), .int .i64 127] W fun e w' => e = .returned (.bool true) ∧ w' = W from fun W => by have := jwithin (j.n.za) (-128) 127 W; rwa [show decide (-128 ≤ j.n.za ∧ j.n.za ≤ 127) = true from hz0] at this)
  have WZ1 := Lib.hid (show ∀ W : World, Calls Try.prog 82 #[.int .i64 j.n.zb, .int .i64 (-128), .int .i64 127] W fun e w' => e = .returned (.bool true) ∧ w' = W from fun W => by have := jwithin (j.n.zb) (-128) 127 W; rwa [show decide (-128 ≤ j.n.zb ∧ j.n.zb ≤ 127) = true from hz1] at this)
  have WZ2 := Lib.hid (show ∀ W : World, Calls Try.prog 82 #[.int .i64 j.n.zo, .int .i64 (-128), .int .i64 127] W fun e w' => e = .returned (.bool true) ∧ w' = W from fun W => by have := jwithin (j.n.zo) (-128) 127 W; rwa [show decide (-128 ≤ j.n.zo ∧ j.n.zo ≤ 127) = true from hz2] at this)
  have WZ3 := Lib.hid (show ∀ W : World, Calls Try.prog 82 #[.int .i64 j.n.lo, .int .i64 (-128), .int .i64 127] W fun e w' => e = .returned (.bool true) ∧ w' = W from fun W => by have := jwithin (j.n.lo) (-128) 127 W; rwa [show decide (-128 ≤ j.n.lo ∧ j.n.lo ≤ 127) = true from hz3] at this)
  have WZ4 := Lib.hid (show ∀ W : World, Calls Try.prog 82 #[.int .i64 j.n.hi, .int .i64 (-128), .int .i64 127] W fun e w' => e = .returned (.bool true) ∧ w' = W from fun W => by have := jwithin (j.n.hi) (-128) 127 W; rwa [show decide (-128 ≤ j.n.hi ∧ j.n.hi ≤ 127) = true from hz4] at this)
  have WQ2 := Lib.hid (show ∀ W : World, Calls Try.prog 82 #[.int .i64 j.n.t1, .int .i64 (0), .int .i64 31] W fun e w' => e = .returned (.bool true) ∧ w' = W from fun W => by have := jwithin (j.n.t1) (0) 31 W; rwa [q2] at this)
  have WQ3 := Lib.hid (show ∀ W : World, Calls Try.prog 82 #[.int .i64 j.n.t2, .int .i64 (0), .int .i64 31] W fun e w' => e = .returned (.bool false) ∧ w' = W from fun W => by have := jwithin (j.n.t2) (0) 31 W; rwa [q3] at this)
  clear hJ hz0 hz1 hz2 hz3 hz4 q2 q3
  go_enter Try.func62, Try.ntmps62
  simp only [hL, hAl, hSt]
  clear hL hAl hSt NL RG
  go_wp2_with fail
  refine wp_loop_rounds 6 ?_
  iterate 5 (
    rw [rounds_succ]
    go_wp2_with (first | (go_at_call 82; (with_reducible refine (WZ0.out _).mono ?_); rintro e w' ⟨rfl, rfl⟩) | (go_at_call 82; (with_reducible refine (WZ1.out _).mono ?_); rintro e w' ⟨rfl, rfl⟩) | (go_at_call 82; (with_reducible refine (WZ2.out _).mono ?_); rintro e w' ⟨rfl, rfl⟩) | (go_at_call 82; (with_reducible refine (WZ3.out _).mono ?_); rintro e w' ⟨rfl, rfl⟩) | (go_at_call 82; (with_reducible refine (WZ4.out _).mono ?_); rintro e w' ⟨rfl, rfl⟩)))
  rw [rounds_succ]
  go_wp2_with (first | (go_at_call 82; (with_reducible refine (WZ0.out _).mono ?_); rintro e w' ⟨rfl, rfl⟩) | (go_at_call 82; (with_reducible refine (WZ1.out _).mono ?_); rintro e w' ⟨rfl, rfl⟩) | (go_at_call 82; (with_reducible refine (WZ2.out _).mono ?_); rintro e w' ⟨rfl, rfl⟩) | (go_at_call 82; (with_reducible refine (WZ3.out _).mono ?_); rintro e w' ⟨rfl, rfl⟩) | (go_at_call 82; (with_reducible refine (WZ4.out _).mono ?_); rintro e w' ⟨rfl, rfl⟩) | (go_at_call 82; (with_reducible refine (WQ2.out _).mono ?_); rintro e w' ⟨rfl, rfl⟩) | (go_at_call 82; (with_reducible refine (WQ3.out _).mono ?_); rintro e w' ⟨rfl, rfl⟩))
  go_ret
  exact ⟨rfl, by go_grown⟩
set_option maxRecDepth 100000 in
set_option maxHeartbeats 4000000 in
theorem jnum_q4 (J : Nat) (j : Jg) (w : World) (hJ : JAt w J j) (hz0 : smallB j.n.za = true) (hz1 : smallB j.n.zb = true) (hz2 : smallB j.n.zo = true) (hz3 : smallB j.n.lo = true) (hz4 : smallB j.n.hi = true) (q0 : 0 ≤ j.n.m1) (q1 : 0 ≤ j.n.m2) (q2 : decide (0 ≤ j.n.t1 ∧ j.n.t1 ≤ 31) = true) (q3 : decide (0 ≤ j.n.t2 ∧ j.n.t2 ≤ 31) = true) (q4 : j.n.hi < j.n.lo) :
    Calls Try.prog 62 #[.pointer (some ⟨J, 0, none⟩)] w fun e w' => e = .returned (.int .i64 11) ∧ Below w.heap.size w w' := by
  obtain ⟨T, Z, Z0, K, NL⟩ := node_letter j.n
  have hL := NL.load
  have hAl := NL.alloc
  have hSt := NL.store
  have tA := NL.agg
  have tS := NL.size
  have tZ := NL.zero
  have tK := NL.len
  have tT := NL.st1 w
  have hlt := hJ.lt
  have RG := Lib.hid (jg_rg hJ NL)
  have k_0 : K[0]? = some (.int .i64 j.n.op) := by rw [NL.cells]; rfl
  have k_11 : K[11]? = some (.int .i64 j.n.za) := by rw [NL.cells]; rfl
  have k_12 : K[12]? = some (.int .i64 j.n.zb) := by rw [NL.cells]; rfl
  have k_13 : K[13]? = some (.int .i64 j.n.zo) := by rw [NL.cells]; rfl
  have k_18 : K[18]? = some (.int .i64 j.n.lo) := by rw [NL.cells]; rfl
  have k_19 : K[19]? = some (.int .i64 j.n.hi) := by rw [NL.cells]; rfl
  have k_14 : K[14]? = some (.int .i32 j.n.m1) := by rw [NL.cells]; rfl
  have k_15 : K[15]? = some (.int .i32 j.n.m2) := by rw [NL.cells]; rfl
  have k_16 : K[16]? = some (.int .i64 j.n.t1) := by rw [NL.cells]; rfl
  have k_17 : K[17]? = some (.int .i64 j.n.t2) := by rw [NL.cells]; rfl
  have tR := NL.read w J RG.out
  have ix0 : ∀ w, (Instr.index 111 (.agg #[.int .i64 j.n.za, .int .i64 j.n.zb, .int .i64 j.n.zo, .int .i64 j.n.lo, .int .i64 j.n.hi]) (.int .i64 0)).run Try.prog w = .ok (.int .i64 j.n.za) w := fun _ => by kernel_rfl
  have ix1 : ∀ w, (Instr.index 111 (.agg #[.int .i64 j.n.za, .int .i64 j.n.zb, .int .i64 j.n.zo, .int .i64 j.n.lo, .int .i64 j.n.hi]) (.int .i64 1)).run Try.prog w = .ok (.int .i64 j.n.zb) w := fun _ => by kernel_rfl
  have ix2 : ∀ w, (Instr.index 111 (.agg #[.int .i64 j.n.za, .int .i64 j.n.zb, .int .i64 j.n.zo, .int .i64 j.n.lo, .int .i64 j.n.hi]) (.int .i64 2)).run Try.prog w = .ok (.int .i64 j.n.zo) w := fun _ => by kernel_rfl
  have ix3 : ∀ w, (Instr.index 111 (.agg #[.int .i64 j.n.za, .int .i64 j.n.zb, .int .i64 j.n.zo, .int .i64 j.n.lo, .int .i64 j.n.hi]) (.int .i64 3)).run Try.prog w = .ok (.int .i64 j.n.lo) w := fun _ => by kernel_rfl
  have ix4 : ∀ w, (Instr.index 111 (.agg #[.int .i64 j.n.za, .int .i64 j.n.zb, .int .i64 j.n.zo, .int .i64 j.n.lo, .int .i64 j.n.hi]) (.int .i64 4)).run Try.prog w = .ok (.int .i64 j.n.hi) w := fun _ => by kernel_rfl
  have WZ0 := Lib.hid (show ∀ W : World, Calls Try.prog 82 #[.int .i64 j.n.za, .int .i64 (-128), .int .i64 127] W fun e w' => e = .returned (.bool true) ∧ w' = W from fun W => by have := jwithin (j.n.za) (-128) 127 W; rwa [show decide (-128 ≤ j.n.za ∧ j.n.za ≤ 127) = true from hz0] at this)
  have WZ1 := Lib.hid (show ∀ W : World, Calls Try.prog 82 #[.int .i64 j.n.zb, .int .i64 (-128), .int .i64 127] W fun e w' => e = .returned (.bool true) ∧ w' = W from fun W => by have := jwithin (j.n.zb) (-128) 127 W; rwa [show decide (-128 ≤ j.n.zb ∧ j.n.zb ≤ 127) = true from hz1] at this)
  have WZ2 := Lib.hid (show ∀ W : World, Calls Try.prog 82 #[.int .i64 j.n.zo, .int .i64 (-128), .int .i64 127] W fun e w' => e = .returned (.bool true) ∧ w' = W from fun W => by have := jwithin (j.n.zo) (-128) 127 W; rwa [show decide (-128 ≤ j.n.zo ∧ j.n.zo ≤ 127) = true from hz2] at this)
  have WZ3 := Lib.hid (show ∀ W : World, Calls Try.prog 82 #[.int .i64 j.n.lo, .int .i64 (-128), .int .i64 127] W fun e w' => e = .returned (.bool true) ∧ w' = W from fun W => by have := jwithin (j.n.lo) (-128) 127 W; rwa [show decide (-128 ≤ j.n.lo ∧ j.n.lo ≤ 127) = true from hz3] at this)
  have WZ4 := Lib.hid (show ∀ W : World, Calls Try.prog 82 #[.int .i64 j.n.hi, .int .i64 (-128), .int .i64 127] W fun e w' => e = .returned (.bool true) ∧ w' = W from fun W => by have := jwithin (j.n.hi) (-128) 127 W; rwa [show decide (-128 ≤ j.n.hi ∧ j.n.hi ≤ 127) = true from hz4] at this)
  have WQ2 := Lib.hid (show ∀ W : World, Calls Try.prog 82 #[.int .i64 j.n.t1, .int .i64 (0), .int .i64 31] W fun e w' => e = .returned (.bool true) ∧ w' = W from fun W => by have := jwithin (j.n.t1) (0) 31 W; rwa [q2] at this)
  have WQ3 := Lib.hid (show ∀ W : World, Calls Try.prog 82 #[.int .i64 j.n.t2, .int .i64 (0), .int .i64 31] W fun e w' => e = .returned (.bool true) ∧ w' = W from fun W => by have := jwithin (j.n.t2) (0) 31 W; rwa [q3] at this)
  clear hJ hz0 hz1 hz2 hz3 hz4 q2 q3
  go_enter Try.func62, Try.ntmps62
  simp only [hL, hAl, hSt]
  clear hL hAl hSt NL RG
  go_wp2_with fail
  refine wp_loop_rounds 6 ?_
  iterate 5 (
    rw [rounds_succ]
    go_wp2_with (first | (go_at_call 82; (with_reducible refine (WZ0.out _).mono ?_); rintro e w' ⟨rfl, rfl⟩) | (go_at_call 82; (with_reducible refine (WZ1.out _).mono ?_); rintro e w' ⟨rfl, rfl⟩) | (go_at_call 82; (with_reducible refine (WZ2.out _).mono ?_); rintro e w' ⟨rfl, rfl⟩) | (go_at_call 82; (with_reducible refine (WZ3.out _).mono ?_); rintro e w' ⟨rfl, rfl⟩) | (go_at_call 82; (with_reducible refine (WZ4.out _).mono ?_); rintro e w' ⟨rfl, rfl⟩)))
  rw [rounds_succ]
  go_wp2_with (first | (go_at_call 82; (with_reducible refine (WZ0.out _).mono ?_); rintro e w' ⟨rfl, rfl⟩) | (go_at_call 82; (with_reducible refine (WZ1.out _).mono ?_); rintro e w' ⟨rfl, rfl⟩) | (go_at_call 82; (with_reducible refine (WZ2.out _).mono ?_); rintro e w' ⟨rfl, rfl⟩) | (go_at_call 82; (with_reducible refine (WZ3.out _).mono ?_); rintro e w' ⟨rfl, rfl⟩) | (go_at_call 82; (with_reducible refine (WZ4.out _).mono ?_); rintro e w' ⟨rfl, rfl⟩) | (go_at_call 82; (with_reducible refine (WQ2.out _).mono ?_); rintro e w' ⟨rfl, rfl⟩) | (go_at_call 82; (with_reducible refine (WQ3.out _).mono ?_); rintro e w' ⟨rfl, rfl⟩))
  go_ret
  exact ⟨rfl, by go_grown⟩
set_option maxRecDepth 100000 in
set_option maxHeartbeats 4000000 in
theorem jnum_none (J : Nat) (j : Jg) (w : World) (hJ : JAt w J j) (hj : JOk j) (hi : hI j.n.op = false) (h14 : (j.n.op == 14) = false) (hz0 : smallB j.n.za = true) (hz1 : smallB j.n.zb = true) (hz2 : smallB j.n.zo = true) (hz3 : smallB j.n.lo = true) (hz4 : smallB j.n.hi = true) (q0 : 0 ≤ j.n.m1) (q1 : 0 ≤ j.n.m2) (q2 : decide (0 ≤ j.n.t1 ∧ j.n.t1 ≤ 31) = true) (q3 : decide (0 ≤ j.n.t2 ∧ j.n.t2 ≤ 31) = true) (q4 : j.n.lo ≤ j.n.hi) :
    Calls Try.prog 62 #[.pointer (some ⟨J, 0, none⟩)] w fun e w' => e = .returned (.int .i64 0) ∧ Below w.heap.size w w' := by
  have hb : bits .and .i64 j.h 2048 = 0 := by rw [hj.has]; exact (bit_12 hj.op).2 hi
  have c_26 := hJ.cell 26 _ rfl
  obtain ⟨T, Z, Z0, K, NL⟩ := node_letter j.n
  have hL := NL.load
  have hAl := NL.alloc
  have hSt := NL.store
  have tA := NL.agg
  have tS := NL.size
  have tZ := NL.zero
  have tK := NL.len
  have tT := NL.st1 w
  have hlt := hJ.lt
  have RG := Lib.hid (jg_rg hJ NL)
  have k_0 : K[0]? = some (.int .i64 j.n.op) := by rw [NL.cells]; rfl
  have k_11 : K[11]? = some (.int .i64 j.n.za) := by rw [NL.cells]; rfl
  have k_12 : K[12]? = some (.int .i64 j.n.zb) := by rw [NL.cells]; rfl
  have k_13 : K[13]? = some (.int .i64 j.n.zo) := by rw [NL.cells]; rfl
  have k_18 : K[18]? = some (.int .i64 j.n.lo) := by rw [NL.cells]; rfl
  have k_19 : K[19]? = some (.int .i64 j.n.hi) := by rw [NL.cells]; rfl
  have k_14 : K[14]? = some (.int .i32 j.n.m1) := by rw [NL.cells]; rfl
  have k_15 : K[15]? = some (.int .i32 j.n.m2) := by rw [NL.cells]; rfl
  have k_16 : K[16]? = some (.int .i64 j.n.t1) := by rw [NL.cells]; rfl
  have k_17 : K[17]? = some (.int .i64 j.n.t2) := by rw [NL.cells]; rfl
  have tR := NL.read w J RG.out
  have ix0 : ∀ w, (Instr.index 111 (.agg #[.int .i64 j.n.za, .int .i64 j.n.zb, .int .i64 j.n.zo, .int .i64 j.n.lo, .int .i64 j.n.hi]) (.int .i64 0)).run Try.prog w = .ok (.int .i64 j.n.za) w := fun _ => by kernel_rfl
  have ix1 : ∀ w, (Instr.index 111 (.agg #[.int .i64 j.n.za, .int .i64 j.n.zb, .int .i64 j.n.zo, .int .i64 j.n.lo, .int .i64 j.n.hi]) (.int .i64 1)).run Try.prog w = .ok (.int .i64 j.n.zb) w := fun _ => by kernel_rfl
  have ix2 : ∀ w, (Instr.index 111 (.agg #[.int .i64 j.n.za, .int .i64 j.n.zb, .int .i64 j.n.zo, .int .i64 j.n.lo, .int .i64 j.n.hi]) (.int .i64 2)).run Try.prog w = .ok (.int .i64 j.n.zo) w := fun _ => by kernel_rfl
  have ix3 : ∀ w, (Instr.index 111 (.agg #[.int .i64 j.n.za, .int .i64 j.n.zb, .int .i64 j.n.zo, .int .i64 j.n.lo, .int .i64 j.n.hi]) (.int .i64 3)).run Try.prog w = .ok (.int .i64 j.n.lo) w := fun _ => by kernel_rfl
  have ix4 : ∀ w, (Instr.index 111 (.agg #[.int .i64 j.n.za, .int .i64 j.n.zb, .int .i64 j.n.zo, .int .i64 j.n.lo, .int .i64 j.n.hi]) (.int .i64 4)).run Try.prog w = .ok (.int .i64 j.n.hi) w := fun _ => by kernel_rfl
  have WZ0 := Lib.hid (show ∀ W : World, Calls Try.prog 82 #[.int .i64 j.n.za, .int .i64 (-128), .int .i64 127] W fun e w' => e = .returned (.bool true) ∧ w' = W from fun W => by have := jwithin (j.n.za) (-128) 127 W; rwa [show decide (-128 ≤ j.n.za ∧ j.n.za ≤ 127) = true from hz0] at this)
  have WZ1 := Lib.hid (show ∀ W : World, Calls Try.prog 82 #[.int .i64 j.n.zb, .int .i64 (-128), .int .i64 127] W fun e w' => e = .returned (.bool true) ∧ w' = W from fun W => by have := jwithin (j.n.zb) (-128) 127 W; rwa [show decide (-128 ≤ j.n.zb ∧ j.n.zb ≤ 127) = true from hz1] at this)
  have WZ2 := Lib.hid (show ∀ W : World, Calls Try.prog 82 #[.int .i64 j.n.zo, .int .i64 (-128), .int .i64 127] W fun e w' => e = .returned (.bool true) ∧ w' = W from fun W => by have := jwithin (j.n.zo) (-128) 127 W; rwa [show decide (-128 ≤ j.n.zo ∧ j.n.zo ≤ 127) = true from hz2] at this)
  have WZ3 := Lib.hid (show ∀ W : World, Calls Try.prog 82 #[.int .i64 j.n.lo, .int .i64 (-128), .int .i64 127] W fun e w' => e = .returned (.bool true) ∧ w' = W from fun W => by have := jwithin (j.n.lo) (-128) 127 W; rwa [show decide (-128 ≤ j.n.lo ∧ j.n.lo ≤ 127) = true from hz3] at this)
  have WZ4 := Lib.hid (show ∀ W : World, Calls Try.prog 82 #[.int .i64 j.n.hi, .int .i64 (-128), .int .i64 127] W fun e w' => e = .returned (.bool true) ∧ w' = W from fun W => by have := jwithin (j.n.hi) (-128) 127 W; rwa [show decide (-128 ≤ j.n.hi ∧ j.n.hi ≤ 127) = true from hz4] at this)
  have WQ2 := Lib.hid (show ∀ W : World, Calls Try.prog 82 #[.int .i64 j.n.t1, .int .i64 (0), .int .i64 31] W fun e w' => e = .returned (.bool true) ∧ w' = W from fun W => by have := jwithin (j.n.t1) (0) 31 W; rwa [q2] at this)
  have WQ3 := Lib.hid (show ∀ W : World, Calls Try.prog 82 #[.int .i64 j.n.t2, .int .i64 (0), .int .i64 31] W fun e w' => e = .returned (.bool true) ∧ w' = W from fun W => by have := jwithin (j.n.t2) (0) 31 W; rwa [q3] at this)
  clear hJ hj hi hz0 hz1 hz2 hz3 hz4 q2 q3
  go_enter Try.func62, Try.ntmps62
  simp only [hL, hAl, hSt]
  clear hL hAl hSt NL RG
  go_wp2_with fail
  refine wp_loop_rounds 6 ?_
  iterate 5 (
    rw [rounds_succ]
    go_wp2_with (first | (go_at_call 82; (with_reducible refine (WZ0.out _).mono ?_); rintro e w' ⟨rfl, rfl⟩) | (go_at_call 82; (with_reducible refine (WZ1.out _).mono ?_); rintro e w' ⟨rfl, rfl⟩) | (go_at_call 82; (with_reducible refine (WZ2.out _).mono ?_); rintro e w' ⟨rfl, rfl⟩) | (go_at_call 82; (with_reducible refine (WZ3.out _).mono ?_); rintro e w' ⟨rfl, rfl⟩) | (go_at_call 82; (with_reducible refine (WZ4.out _).mono ?_); rintro e w' ⟨rfl, rfl⟩)))
  rw [rounds_succ]
  go_wp2_with (first | (go_at_call 82; (with_reducible refine (WZ0.out _).mono ?_); rintro e w' ⟨rfl, rfl⟩) | (go_at_call 82; (with_reducible refine (WZ1.out _).mono ?_); rintro e w' ⟨rfl, rfl⟩) | (go_at_call 82; (with_reducible refine (WZ2.out _).mono ?_); rintro e w' ⟨rfl, rfl⟩) | (go_at_call 82; (with_reducible refine (WZ3.out _).mono ?_); rintro e w' ⟨rfl, rfl⟩) | (go_at_call 82; (with_reducible refine (WZ4.out _).mono ?_); rintro e w' ⟨rfl, rfl⟩) | (go_at_call 82; (with_reducible refine (WQ2.out _).mono ?_); rintro e w' ⟨rfl, rfl⟩) | (go_at_call 82; (with_reducible refine (WQ3.out _).mono ?_); rintro e w' ⟨rfl, rfl⟩))
  refine wp_loop_rounds 1 ?_
  rw [rounds_succ]
  go_wp2_with fail
  go_ret
  exact ⟨rfl, by go_grown⟩
end Go.Proofs.Ytmifojpmomdmeaa
