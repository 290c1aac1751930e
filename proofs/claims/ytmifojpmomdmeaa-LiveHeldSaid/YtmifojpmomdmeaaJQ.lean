/- Package infer: the judge's method numbers. -/
import Derived.Test.YtmifojpmomdmeaaJP
import Derived.Test.YtmifojpmomdmeaaTW
import Derived.BigRegion
import Derived.Deep.LoopGhost
namespace Go.Proofs.Ytmifojpmomdmeaa
open Go Go.RowKit
set_option linter.unusedVariables false

/-- the cells of a slice of integers that came in -/
theorem ints_cell {k : IntKind} {w : World} {a : Option Addr} {l : List Int} {c : Nat} (h : IntsIn k w a l c) : ∀ i z, l[i]? = some z → (Lit.int k z).wf = true ∧ ∃ b off, a = some ⟨b, off, none⟩ ∧ b < w.heap.size ∧ w.cell? ⟨b, off + i, none⟩ = some (.int k z) := by
  intro i z hz
  obtain ⟨⟨_, _, _, ⟨_, h1, _⟩ | ⟨_, h1⟩ | ⟨b, off, rfl, hb, hc⟩⟩, hw⟩ := h
  · rw [List.map_eq_nil_iff] at h1; subst h1; simp at hz
  · rw [List.map_eq_nil_iff] at h1; subst h1; simp at hz
  · refine ⟨hw z (List.mem_of_getElem? hz), b, off, rfl, hb, ?_⟩
    have := hc i [.int k z] (by simp [hz]) 0 (.int k z) rfl
    simpa using this
end Go.Proofs.Ytmifojpmomdmeaa

namespace Go.Proofs.Ytmifojpmomdmeaa
open Go Go.RowKit
set_option linter.unusedVariables false

set_option maxRecDepth 100000 in
set_option maxHeartbeats 4000000 in
theorem jnum_z0 (J : Nat) (j : Jg) (w : World) (hJ : JAt w J j) (hz0 : smallB j.n.za = false) :
    Calls Try.prog 62 #[.pointer (some ⟨J, 0, none⟩)] w fun e w' => e = .returned (.int .i64 11) ∧ Below w.heap.size w w' := by
  obtain ⟨T, Z, Z0, K, NL⟩ := node_letter j.n
  have hL := NL.load
  have hAl := NL.alloc
  have hSt := NL.store
  have tA := NL.agg
  have tS := NL.size
  have tZ := NL.zero
  have tK := NL.len
  have tT := NL.st1 w
  have hlt := hJ.lt
  have RG := Lib.hid (jg_rg hJ NL)
  have k_0 : K[0]? = some (.int .i64 j.n.op) := by rw [NL.cells]; rfl
  have k_11 : K[11]? = some (.int .i64 j.n.za) := by rw [NL.cells]; rfl
  have k_12 : K[12]? = some (.int .i64 j.n.zb) := by rw [NL.cells]; rfl
  have k_13 : K[13]? = some (.int .i64 j.n.zo) := by rw [NL.cells]; rfl
  have k_18 : K[18]? = some (.int .i64 j.n.lo) := by rw [NL.cells]; rfl
  have k_19 : K[19]? = some (.int .i64 j.n.hi) := by rw [NL.cells]; rfl
  have k_14 : K[14]? = some (.int .i32 j.n.m1) := by rw [NL.cells]; rfl
  have k_15 : K[15]? = some (.int .i32 j.n.m2) := by rw [NL.cells]; rfl
  have k_16 : K[16]? = some (.int .i64 j.n.t1) := by rw [NL.cells]; rfl
  have k_17 : K[17]? = some (.int .i64 j.n.t2) := by rw [NL.cells]; rfl
  have tR := NL.read w J RG.out
  have ix0 : ∀ w, (Instr.index 111 (.agg #[.int .i64 j.n.za, .int .i64 j.n.zb, .int .i64 j.n.zo, .int .i64 j.n.lo, .int .i64 j.n.hi]) (.int .i64 0)).run Try.prog w = .ok (.int .i64 j.n.za) w := fun _ => by kernel_rfl
  have ix1 : ∀ w, (Instr.index 111 (.agg #[.int .i64 j.n.za, .int .i64 j.n.zb, .int .i64 j.n.zo, .int .i64 j.n.lo, .int .i64 j.n.hi]) (.int .i64 1)).run Try.prog w = .ok (.int .i64 j.n.zb) w := fun _ => by kernel_rfl
  have ix2 : ∀ w, (Instr.index 111 (.agg #[.int .i64 j.n.za, .int .i64 j.n.zb, .int .i64 j.n.zo, .int .i64 j.n.lo, .int .i64 j.n.hi]) (.int .i64 2)).run Try.prog w = .ok (.int .i64 j.n.zo) w := fun _ => by kernel_rfl
  have ix3 : ∀ w, (Instr.index 111 (.agg #[.int .i64 j.n.za, .int .i64 j.n.zb, .int .i64 j.n.zo, .int .i64 j.n.lo, .int .i64 j.n.hi]) (.int .i64 3)).run Try.prog w = .ok (.int .i64 j.n.lo) w := fun _ => by kernel_rfl
  have ix4 : ∀ w, (Instr.index 111 (.agg #[.int .i64 j.n.za, .int .i64 j.n.zb, .int .i64 j.n.zo, .int .i64 j.n.lo, .int .i64 j.n.hi]) (.int .i64 4)).run Try.prog w = .ok (.int .i64 j.n.hi) w := fun _ => by kernel_rfl
  have WZ0 := Lib.hid (show ∀ W : World, Calls Try.prog 82 #[.int .i64 j.n.za, .int .i64 (-128), .int .i64 127] W fun e w' => e = .returned (.bool false) ∧ w' = W from fun W => by have := jwithin (j.n.za) (-128) 127 W; rwa [show decide (-128 ≤ j.n.za ∧ j.n.za ≤ 127) = false from hz0] at this)
  clear hJ hz0
  go_enter Try.func62, Try.ntmps62
  simp only [hL, hAl, hSt]
  clear hL hAl hSt NL RG
  go_wp2_with fail
  refine wp_loop_rounds 6 ?_
  rw [rounds_succ]
  go_wp2_with (first | (go_at_call 82; (with_reducible refine (WZ0.out _).mono ?_); rintro e w' ⟨rfl, rfl⟩))
  go_ret
  exact ⟨rfl, by go_grown⟩
set_option maxRecDepth 100000 in
set_option maxHeartbeats 4000000 in
theorem jnum_z1 (J : Nat) (j : Jg) (w : World) (hJ : JAt w J j) (hz0 : smallB j.n.za = true) (hz1 : smallB j.n.zb = false) :
    Calls Try.prog 62 #[.pointer (some ⟨J, 0, none⟩)] w fun e w' => e = .returned (.int .i64 11) ∧ Below w.heap.size w w' := by
  obtain ⟨T, Z, Z0, K, NL⟩ := node_letter j.n
  have hL := NL.load
  have hAl := NL.alloc
  have hSt := NL.store
  have tA := NL.agg
  have tS := NL.size
  have tZ := NL.zero
  have tK := NL.len
  have tT := NL.st1 w
  have hlt := hJ.lt
  have RG := Lib.hid (jg_rg hJ NL)
  have k_0 : K[0]? = some (.int .i64 j.n.op) := by rw [NL.cells]; rfl
  have k_11 : K[11]? = some (.int .i64 j.n.za) := by rw [NL.cells]; rfl
  have k_12 : K[12]? = some (.int .i64 j.n.zb) := by rw [NL.cells]; rfl
  have k_13 : K[13]? = some (.int .i64 j.n.zo) := by rw [NL.cells]; rfl
  have k_18 : K[18]? = some (.int .i64 j.n.lo) := by rw [NL.cells]; rfl
  have k_19 : K[19]? = some (.int .i64 j.n.hi) := by rw [NL.cells]; rfl
  have k_14 : K[14]? = some (.int .i32 j.n.m1) := by rw [NL.cells]; rfl
  have k_15 : K[15]? = some (.int .i32 j.n.m2) := by rw [NL.cells]; rfl
  have k_16 : K[16]? = some (.int .i64 j.n.t1) := by rw [NL.cells]; rfl
  have k_17 : K[17]? = some (.int .i64 j.n.t2) := by rw [NL.cells]; rfl
  have tR := NL.read w J RG.out
  have ix0 : ∀ w, (Instr.index 111 (.agg #[.int .i64 j.n.za, .int .i64 j.n.zb, .int .i64 j.n.zo, .int .i64 j.n.lo, .int .i64 j.n.hi]) (.int .i64 0)).run Try.prog w = .ok (.int .i64 j.n.za) w := fun _ => by kernel_rfl
  have ix1 : ∀ w, (Instr.index 111 (.agg #[.int .i64 j.n.za, .int .i64 j.n.zb, .int .i64 j.n.zo, .int .i64 j.n.lo, .int .i64 j.n.hi]) (.int .i64 1)).run Try.prog w = .ok (.int .i64 j.n.zb) w := fun _ => by kernel_rfl
  have ix2 : ∀ w, (Instr.index 111 (.agg #[.int .i64 j.n.za, .int .i64 j.n.zb, .int .i64 j.n.zo, .int .i64 j.n.lo, .int .i64 j.n.hi]) (.int .i64 2)).run Try.prog w = .ok (.int .i64 j.n.zo) w := fun _ => by kernel_rfl
  have ix3 : ∀ w, (Instr.index 111 (.agg #[.int .i64 j.n.za, .int .i64 j.n.zb, .int .i64 j.n.zo, .int .i64 j.n.lo, .int .i64 j.n.hi]) (.int .i64 3)).run Try.prog w = .ok (.int .i64 j.n.lo) w := fun _ => by kernel_rfl
  have ix4 : ∀ w, (Instr.index 111 (.agg #[.int .i64 j.n.za, .int .i64 j.n.zb, .int .i64 j.n.zo, .int .i64 j.n.lo, .int .i64 j.n.hi]) (.int .i64 4)).run Try.prog w = .ok (.int .i64 j.n.hi) w := fun _ => by kernel_rfl
  have WZ0 := Lib.hid (show ∀ W : World, Calls Try.prog 82 #[.int .i64 j.n.za, .int .i64 (-128), .int .i64 127] W fun e w' => e = .returned (.bool true) ∧ w' = W from fun W => by have := jwithin (j.n.za) (-128) 127 W; rwa [show decide (-128 ≤ j.n.za ∧ j.n.za ≤ 127) = true from hz0] at this)
  have WZ1 := Lib.hid (show ∀ W : World, Calls Try.prog 82 #[.int .i64 j.n.zb, .int .i64 (-128), .int .i64 127] W fun e w' => e = .returned (.bool false) ∧ w' = W from fun W => by have := jwithin (j.n.zb) (-128) 127 W; rwa [show decide (-128 ≤ j.n.zb ∧ j.n.zb ≤ 127) = false from hz1] at this)
  clear hJ hz0 hz1
  go_enter Try.func62, Try.ntmps62
  simp only [hL, hAl, hSt]
  clear hL hAl hSt NL RG
  go_wp2_with fail
  refine wp_loop_rounds 6 ?_
  iterate 2 (
    rw [rounds_succ]
    go_wp2_with (first | (go_at_call 82; (with_reducible refine (WZ0.out _).mono ?_); rintro e w' ⟨rfl, rfl⟩) | (go_at_call 82; (with_reducible refine (WZ1.out _).mono ?_); rintro e w' ⟨rfl, rfl⟩)))
  go_ret
  exact ⟨rfl, by go_grown⟩
set_option maxRecDepth 100000 in
set_option maxHeartbeats 4000000 in
theorem jnum_z2 (J : Nat) (j : Jg) (w : World) (hJ : JAt w J j) (hz0 : smallB j.n.za = true) (hz1 : smallB j.n.zb = true) (hz2 : smallB j.n.zo = false) :
    Calls Try.prog 62 #[.pointer (some ⟨J, 0, none⟩)] w fun e w' => e = .returned (.int .i64 11) ∧ Below w.heap.size w w' := by
  obtain ⟨T, Z, Z0, K, NL⟩ := node_letter j.n
  have hL := NL.load
  have hAl := NL.alloc
  have hSt := NL.store
  have tA := NL.agg
  have tS := NL.size
  have tZ := NL.zero
  have tK := NL.len
  have tT := NL.st1 w
  have hlt := hJ.lt
  have RG := Lib.hid (jg_rg hJ NL)
  have k_0 : K[0]? = some (.int .i64 j.n.op) := by rw [NL.cells]; rfl
  have k_11 : K[11]? = some (.int .i64 j.n.za) := by rw [NL.cells]; rfl
  have k_12 : K[12]? = some (.int .i64 j.n.zb) := by rw [NL.cells]; rfl
  have k_13 : K[13]? = some (.int .i64 j.n.zo) := by rw [NL.cells]; rfl
  have k_18 : K[18]? = some (.int .i64 j.n.lo) := by rw [NL.cells]; rfl
  have k_19 : K[19]? = some (.int .i64 j.n.hi) := by rw [NL.cells]; rfl
  have k_14 : K[14]? = some (.int .i32 j.n.m1) := by rw [NL.cells]; rfl
  have k_15 : K[15]? = some (.int .i32 j.n.m2) := by rw [NL.cells]; rfl
  have k_16 : K[16]? = some (.int .i64 j.n.t1) := by rw [NL.cells]; rfl
  have k_17 : K[17]? = some (.int .i64 j.n.t2) := by rw [NL.cells]; rfl
  have tR := NL.read w J RG.out
  have ix0 : ∀ w, (Instr.index 111 (.agg #[.int .i64 j.n.za, .int .i64 j.n.zb, .int .i64 j.n.zo, .int .i64 j.n.lo, .int .i64 j.n.hi]) (.int .i64 0)).run Try.prog w = .ok (.int .i64 j.n.za) w := fun _ => by kernel_rfl
  have ix1 : ∀ w, (Instr.index 111 (.agg #[.int .i64 j.n.za, .int .i64 j.n.zb, .int .i64 j.n.zo, .int .i64 j.n.lo, .int .i64 j.n.hi]) (.int .i64 1)).run Try.prog w = .ok (.int .i64 j.n.zb) w := fun _ => by kernel_rfl
  have ix2 : ∀ w, (Instr.index 111 (.agg #[.int .i64 j.n.za, .int .i64 j.n.zb, .int .i64 j.n.zo, .int .i64 j.n.lo, .int .i64 j.n.hi]) (.int .i64 2)).run Try.prog w = .ok (.int .i64 j.n.zo) w := fun _ => by kernel_rfl
  have ix3 : ∀ w, (Instr.index 111 (.agg #[.int .i64 j.n.za, .int .i64 j.n.zb, .int .i64 j.n.zo, .int .i64 j.n.lo, .int .i64 j.n.hi]) (.int .i64 3)).run Try.prog w = .ok (.int .i64 j.n.lo) w := fun _ => by kernel_rfl
  have ix4 : ∀ w, (Instr.index 111 (.agg #[.int .i64 j.n.za, .int .i64 j.n.zb, .int .i64 j.n.zo, .int .i64 j.n.lo, .int .i64 j.n.hi]) (.int .i64 4)).run Try.prog w = .ok (.int .i64 j.n.hi) w := fun _ => by kernel_rfl
  have WZ0 := Lib.hid (show ∀ W : World, Calls Try.prog 82 #[.int .i64 j.n.za, .int .i64 (-128), .int .i64 127] W fun e w' => e = .returned (.bool true) ∧ w' = W from fun W => by have := jwithin (j.n.za) (-128) 127 W; rwa [show decide (-128 ≤ j.n.za ∧ j.n.za ≤ 127) = true from hz0] at this)
  have WZ1 := Lib.hid (show ∀ W : World, Calls Try.prog 82 #[.int .i64 j.n.zb, .int .i64 (-128), .int .i64 127] W fun e w' => e = .returned (.bool true) ∧ w' = W from fun W => by have := jwithin (j.n.zb) (-128) 127 W; rwa [show decide (-128 ≤ j.n.zb ∧ j.n.zb ≤ 127) = true from hz1] at this)
  have WZ2 := Lib.hid (show ∀ W : World, Calls Try.prog 82 #[.int .i64 j.n.zo, .int .i64 (-128), .int .i64 127] W fun e w' => e = .returned (.bool false) ∧ w' = W from fun W => by have := jwithin (j.n.zo) (-128) 127 W; rwa [show decide (-128 ≤ j.n.zo ∧ j.n.zo ≤ 127) = false from hz2] at this)
  clear hJ hz0 hz1 hz2
  go_enter Try.func62, Try.ntmps62
  simp only [hL, hAl, hSt]
  clear hL hAl hSt NL RG
  go_wp2_with fail
  refine wp_loop_rounds 6 ?_
  iterate 3 (
    rw [rounds_succ]
    go_wp2_with (first | (go_at_call 82; (with_reducible refine (WZ0.out _).mono ?_); rintro e w' ⟨rfl, rfl⟩) | (go_at_call 82; (with_reducible refine (WZ1.out _).mono ?_); rintro e w' ⟨rfl, rfl⟩) | (go_at_call 82; (with_reducible refine (WZ2.out _).mono ?_); rintro e w' ⟨rfl, rfl⟩)))
  go_ret
  exact ⟨rfl, by go_grown⟩
set_option maxRecDepth 100000 in
set_option maxHeartbeats 4000000 in
theorem jnum_z3 (J : Nat) (j : Jg) (w : World) (hJ : JAt w J j) (hz0 : smallB j.n.za = true) (hz1 : smallB j.n.zb = true) (hz2 : smallB j.n.zo = true) (hz3 : smallB j.n.lo = false) :
    Calls Try.prog 62 #[.pointer (some ⟨J, 0, none⟩)] w fun e w' => e = .returned (.int .i64 11) ∧ Below w.heap.size w w' := by
  obtain ⟨T, Z, Z0, K, NL⟩ := node_letter j.n
  have hL := NL.load
  have hAl := NL.alloc
  have hSt := NL.store
  have tA := NL.agg
  have tS := NL.size
  have tZ := NL.zero
  have tK := NL.len
  have tT := NL.st1 w
  have hlt := hJ.lt
  have RG := Lib.hid (jg_rg hJ NL)
  have k_0 : K[0]? = some (.int .i64 j.n.op) := by rw [NL.cells]; rfl
  have k_11 : K[11]? = some (.int .i64 j.n.za) := by rw [NL.cells]; rfl
  have k_12 : K[12]? = some (.int .i64 j.n.zb) := by rw [NL.cells]; rfl
  have k_13 : K[13]? = some (.int .i64 j.n.zo) := by rw [NL.cells]; rfl
  have k_18 : K[18]? = some (.int .i64 j.n.lo) := by rw [NL.cells]; rfl
  have k_19 : K[19]? = some (.int .i64 j.n.hi) := by rw [NL.cells]; rfl
  have k_14 : K[14]? = some (.int .i32 j.n.m1) := by rw [NL.cells]; rfl
  have k_15 : K[15]? = some (.int .i32 j.n.m2) := by rw [NL.cells]; rfl
  have k_16 : K[16]? = some (.int .i64 j.n.t1) := by rw [NL.cells]; rfl
  have k_17 : K[17]? = some (.int .i64 j.n.t2) := by rw [NL.cells]; rfl
  have tR := NL.read w J RG.out
  have ix0 : ∀ w, (Instr.index 111 (.agg #[.int .i64 j.n.za, .int .i64 j.n.zb, .int .i64 j.n.zo, .int .i64 j.n.lo, .int .i64 j.n.hi]) (.int .i64 0)).run Try.prog w = .ok (.int .i64 j.n.za) w := fun _ => by kernel_rfl
  have ix1 : ∀ w, (Instr.index 111 (.agg #[.int .i64 j.n.za, .int .i64 j.n.zb, .int .i64 j.n.zo, .int .i64 j.n.lo, .int .i64 j.n.hi]) (.int .i64 1)).run Try.prog w = .ok (.int .i64 j.n.zb) w := fun _ => by kernel_rfl
  have ix2 : ∀ w, (Instr.index 111 (.agg #[.int .i64 j.n.za, .int .i64 j.n.zb, .int .i64 j.n.zo, .int .i64 j.n.lo, .int .i64 j.n.hi]) (.int .i64 2)).run Try.prog w = .ok (.int .i64 j.n.zo) w := fun _ => by kernel_rfl
  have ix3 : ∀ w, (Instr.index 111 (.agg #[.int .i64 j.n.za, .int .i64 j.n.zb, .int .i64 j.n.zo, .int .i64 j.n.lo, .int .i64 j.n.hi]) (.int .i64 3)).run Try.prog w = .ok (.int .i64 j.n.lo) w := fun _ => by kernel_rfl
  have ix4 : ∀ w, (Instr.index 111 (.agg #[.int .i64 j.n.za, .int .i64 j.n.zb, .int .i64 j.n.zo, .int .i64 j.n.lo, .int .i64 j.n.hi]) (.int .i64 4)).run Try.prog w = .ok (.int .i64 j.n.hi) w := fun _ => by kernel_rfl
  have WZ0 := Lib.hid (show ∀ W : World, Calls Try.prog 82 #[.int .i64 j.n.za, .int .i64 (-128), .int .i64 127] W fun e w' => e = .returned (.bool true) ∧ w' = W from fun W => by have := jwithin (j.n.za) (-128) 127 W; rwa [show decide (-128 ≤ j.n.za ∧ j.n.za ≤ 127) = true from hz0] at this)
  have WZ1 := Lib.hid (show ∀ W : World, Calls Try.prog 82 #[.int .i64 j.n.zb, .int .i64 (-128), .int .i64 127] W fun e w' => e = .returned (.bool true) ∧ w' = W from fun W => by have := jwithin (j.n.zb) (-128) 127 W; rwa [show decide (-128 ≤ j.n.zb ∧ j.n.zb ≤ 127) = true from hz1] at this)
  have WZ2 := Lib.hid (show ∀ W : World, Calls Try.prog 82 #[.int .i64 j.n.zo, .int .i64 (-128), .int .i64 127] W fun e w' => e = .returned (.bool true) ∧ w' = W from fun W => by have := jwithin (j.n.zo) (-128) 127 W; rwa [show decide (-128 ≤ j.n.zo ∧ j.n.zo ≤ 127) = true from hz2] at this)
  have WZ3 := Lib.hid (show ∀ W : World, Calls Try.prog 82 #[.int .i64 j.n.lo, .int .i64 (-128), .int .i64 127] W fun e w' => e = .returned (.bool false) ∧ w' = W from fun W => by have := jwithin (j.n.lo) (-128) 127 W; rwa [show decide (-128 ≤ j.n.lo ∧ j.n.lo ≤ 127) = false from hz3] at this)
  clear hJ hz0 hz1 hz2 hz3
  go_enter Try.func62, Try.ntmps62
  simp only [hL, hAl, hSt]
  clear hL hAl hSt NL RG
  go_wp2_with fail
  refine wp_loop_rounds 6 ?_
  iterate 4 (
    rw [rounds_succ]
    go_wp2_with (first | (go_at_call 82; (with_reducible refine (WZ0.out _).mono ?_); rintro e w' ⟨rfl, rfl⟩) | (go_at_call 82; (with_reducible refine (WZ1.out _).mono ?_); rintro e w' ⟨rfl, rfl⟩) | (go_at_call 82; (with_reducible refine (WZ2.out _).mono ?_); rintro e w' ⟨rfl, rfl⟩) | (go_at_call 82; (with_reducible refine (WZ3.out _).mono ?_); rintro e w' ⟨rfl, rfl⟩)))
  go_ret
  exact ⟨rfl, by go_grown⟩
set_option maxRecDepth 100000 in
set_option maxHeartbeats 4000000 in
theorem jnum_z4 (J : Nat) (j : Jg) (w : World) (hJ : JAt w J j) (hz0 : smallB j.n.za = true) (hz1 : smallB j.n.zb = true) (hz2 : smallB j.n.zo = true) (hz3 : smallB j.n.lo = true) (hz4 : smallB j.n.hi = false) :
    Calls Try.prog 62 #[.pointer (some ⟨J, 0, none⟩)] w fun e w' => e = .returned (.int .i64 11) ∧ Below w.heap.size w w' := by
  obtain ⟨T, Z, Z0, K, NL⟩ := node_letter j.n
  have hL := NL.load
  have hAl := NL.alloc
  have hSt := NL.store
  have tA := NL.agg
  have tS := NL.size
  have tZ := NL.zero
  have tK := NL.len
  have tT := NL.st1 w
  have hlt := hJ.lt
  have RG := Lib.hid (jg_rg hJ NL)
  have k_0 : K[0]? = some (.int .i64 j.n.op) := by rw [NL.cells]; rfl
  have k_11 : K[11]? = some (.int .i64 j.n.za) := by rw [NL.cells]; rfl
  have k_12 : K[12]? = some (.int .i64 j.n.zb) := by rw [NL.cells]; rfl
  have k_13 : K[13]? = some (.int .i64 j.n.zo) := by rw [NL.cells]; rfl
  have k_18 : K[18]? = some (.int .i64 j.n.lo) := by rw [NL.cells]; rfl
  have k_19 : K[19]? = some (.int .i64 j.n.hi) := by rw [NL.cells]; rfl
  have k_14 : K[14]? = some (.int .i32 j.n.m1) := by rw [NL.cells]; rfl
  have k_15 : K[15]? = some (.int .i32 j.n.m2) := by rw [NL.cells]; rfl
  have k_16 : K[16]? = some (.int .i64 j.n.t1) := by rw [NL.cells]; rfl
  have k_17 : K[17]? = some (.int .i64 j.n.t2) := by rw [NL.cells]; rfl
  have tR := NL.read w J RG.out
  have ix0 : ∀ w, (Instr.index 111 (.agg #[.int .i64 j.n.za, .int .i64 j.n.zb, .int .i64 j.n.zo, .int .i64 j.n.lo, .int .i64 j.n.hi]) (.int .i64 0)).run Try.prog w = .ok (.int .i64 j.n.za) w := fun _ => by kernel_rfl
  have ix1 : ∀ w, (Instr.index 111 (.agg #[.int .i64 j.n.za, .int .i64 j.n.zb, .int .i64 j.n.zo, .int .i64 j.n.lo, .int .i64 j.n.hi]) (.int .i64 1)).run Try.prog w = .ok (.int .i64 j.n.zb) w := fun _ => by kernel_rfl
  have ix2 : ∀ w, (Instr.index 111 (.agg #[.int .i64 j.n.za, .int .i64 j.n.zb, .int .i64 j.n.zo, .int .i64 j.n.lo, .int .i64 j.n.hi]) (.int .i64 2)).run Try.prog w = .ok (.int .i64 j.n.zo) w := fun _ => by kernel_rfl
  have ix3 : ∀ w, (Instr.index 111 (.agg #[.int .i64 j.n.za, .int .i64 j.n.zb, .int .i64 j.n.zo, .int .i64 j.n.lo, .int .i64 j.n.hi]) (.int .i64 3)).run Try.prog w = .ok (.int .i64 j.n.lo) w := fun _ => by kernel_rfl
  have ix4 : ∀ w, (Instr.index 111 (.agg #[.int .i64 j.n.za, .int .i64 j.n.zb, .int .i64 j.n.zo, .int .i64 j.n.lo, .int .i64 j.n.hi]) (.int .i64 4)).run Try.prog w = .ok (.int .i64 j.n.hi) w := fun _ => by kernel_rfl
  have WZ0 := Lib.hid (show ∀ W : World, Calls Try.prog 82 #[.int .i64 j.n.za, .int .i64 (-128), .int .i64 127] W fun e w' => e = .returned (.bool true) ∧ w' = W from fun W => by have := jwithin (j.n.za) (-128) 127 W; rwa [show decide (-128 ≤ j.n.za ∧ j.n.za ≤ 127) = true from hz0] at this)
  have WZ1 := Lib.hid (show ∀ W : World, Calls Try.prog 82 #[.int .i64 j.n.zb, .int .i64 (-128), .int .i64 127] W fun e w' => e = .returned (.bool true) ∧ w' = W from fun W => by have := jwithin (j.n.zb) (-128) 127 W; rwa [show decide (-128 ≤ j.n.zb ∧ j.n.zb ≤ 127) = true from hz1] at this)
  have WZ2 := Lib.hid (show ∀ W : World, Calls Try.prog 82 #[.int .i64 j.n.zo, .int .i64 (-128), .int .i64 127] W fun e w' => e = .returned (.bool true) ∧ w' = W from fun W => by have := jwithin (j.n.zo) (-128) 127 W; rwa [show decide (-128 ≤ j.n.zo ∧ j.n.zo ≤ 127) = true from hz2] at this)
  have WZ3 := Lib.hid (show ∀ W : World, Calls Try.prog 82 #[.int .i64 j.n.lo, .int .i64 (-128), .int .i64 127] W fun e w' => e = .returned (.bool true) ∧ w' = W from fun W => by have := jwithin (j.n.lo) (-128) 127 W; rwa [show decide (-128 ≤ j.n.lo ∧ j.n.lo ≤ 127) = true from hz3] at this)
  have WZ4 := Lib.hid (show ∀ W : World, Calls Try.prog 82 #[.int .i64 j.n.hi, .int .i64 (-128), .int .i64 127] W fun e w' => e = .returned (.bool false) ∧ w' = W from fun W => by have := jwithin (j.n.hi) (-128) 127 W; rwa [show decide (-128 ≤ j.n.hi ∧ j.n.hi ≤ 127) = false from hz4] at this)
  clear hJ hz0 hz1 hz2 hz3 hz4
  go_enter Try.func62, Try.ntmps62
  simp only [hL, hAl, hSt]
  clear hL hAl hSt NL RG
  go_wp2_with fail
  refine wp_loop_rounds 6 ?_
  iterate 5 (
    rw [rounds_succ]
    go_wp2_with (first | (go_at_call 82; (with_reducible refine (WZ0.out _).mono ?_); rintro e w' ⟨rfl, rfl⟩) | (go_at_call 82; (with_reducible refine (WZ1.out _).mono ?_); rintro e w' ⟨rfl, rfl⟩) | (go_at_call 82; (with_reducible refine (WZ2.out _).mono ?_); rintro e w' ⟨rfl, rfl⟩) | (go_at_call 82; (with_reducible refine (WZ3.out _).mono ?_); rintro e w' ⟨rfl, rfl⟩) | (go_at_call 82; (with_reducible refine (WZ4.out _).mono ?_); rintro e w' ⟨rfl, rfl⟩)))
  go_ret
  exact ⟨rfl, by go_grown⟩
end Go.Proofs.Ytmifojpmomdmeaa

namespace Go.Proofs.Ytmifojpmomdmeaa
open Go Go.RowKit
set_option linter.unusedVariables false

set_option maxRecDepth 100000 in
set_option maxHeartbeats 4000000 in
theorem jnum_bias (J : Nat) (j : Jg) (w : World) (C : List CnQ) (cc : Nat) (ca : Option Addr) (hcs : j.cs = .slice ca C.length cc) (hJ : JAt w J j) (hC : CnsIn w ca C cc) (hj : JOk j) (k0 : Nat) (q : CnQ) (hk : j.n.bias = (k0 : Int)) (hq : C[k0]? = some q) (hi : hI j.n.op = true) (h14 : (j.n.op == 14) = false) (hz0 : smallB j.n.za = true) (hz1 : smallB j.n.zb = true) (hz2 : smallB j.n.zo = true) (hz3 : smallB j.n.lo = true) (hz4 : smallB j.n.hi = true) (q0 : 0 ≤ j.n.m1) (q1 : 0 ≤ j.n.m2) (q2 : decide (0 ≤ j.n.t1 ∧ j.n.t1 ≤ 31) = true) (q3 : decide (0 ≤ j.n.t2 ∧ j.n.t2 ≤ 31) = true) (q4 : j.n.lo ≤ j.n.hi) :
    Calls Try.prog 62 #[.pointer (some ⟨J, 0, none⟩)] w fun e w' => e = .returned (.int .i64 (if (q.ws.all fun v => decide (-268435456 ≤ v ∧ v ≤ 268435456)) then 0 else 11)) ∧ Below w.heap.size w w' := by
  have hb : ¬ bits .and .i64 j.h 2048 = 0 := by rw [hj.has]; intro e; rw [(bit_12 hj.op).1 e] at hi; cases hi
  have hbB : (bits .and .i64 j.h 2048 != 0) = true := by simpa using hb
  have c_26 := hJ.cell 26 _ rfl
  have c_27 := hJ.cell 27 _ rfl
  rw [hcs] at c_27
  obtain ⟨T, Z, Z0, K, NL⟩ := node_letter j.n
  have hL := NL.load
  have hAl := NL.alloc
  have hSt := NL.store
  have tA := NL.agg
  have tS := NL.size
  have tZ := NL.zero
  have tK := NL.len
  have tT := NL.st1 w
  have hlt := hJ.lt
  have RG := Lib.hid (jg_rg hJ NL)
  have k_0 : K[0]? = some (.int .i64 j.n.op) := by rw [NL.cells]; rfl
  have k_11 : K[11]? = some (.int .i64 j.n.za) := by rw [NL.cells]; rfl
  have k_12 : K[12]? = some (.int .i64 j.n.zb) := by rw [NL.cells]; rfl
  have k_13 : K[13]? = some (.int .i64 j.n.zo) := by rw [NL.cells]; rfl
  have k_18 : K[18]? = some (.int .i64 j.n.lo) := by rw [NL.cells]; rfl
  have k_19 : K[19]? = some (.int .i64 j.n.hi) := by rw [NL.cells]; rfl
  have k_14 : K[14]? = some (.int .i32 j.n.m1) := by rw [NL.cells]; rfl
  have k_15 : K[15]? = some (.int .i32 j.n.m2) := by rw [NL.cells]; rfl
  have k_16 : K[16]? = some (.int .i64 j.n.t1) := by rw [NL.cells]; rfl
  have k_17 : K[17]? = some (.int .i64 j.n.t2) := by rw [NL.cells]; rfl
  have k_21 : K[21]? = some (.int .i64 (k0 : Int)) := by rw [NL.cells, ← hk]; rfl
  have tR := NL.read w J RG.out
  have ix0 : ∀ w, (Instr.index 111 (.agg #[.int .i64 j.n.za, .int .i64 j.n.zb, .int .i64 j.n.zo, .int .i64 j.n.lo, .int .i64 j.n.hi]) (.int .i64 0)).run Try.prog w = .ok (.int .i64 j.n.za) w := fun _ => by kernel_rfl
  have ix1 : ∀ w, (Instr.index 111 (.agg #[.int .i64 j.n.za, .int .i64 j.n.zb, .int .i64 j.n.zo, .int .i64 j.n.lo, .int .i64 j.n.hi]) (.int .i64 1)).run Try.prog w = .ok (.int .i64 j.n.zb) w := fun _ => by kernel_rfl
  have ix2 : ∀ w, (Instr.index 111 (.agg #[.int .i64 j.n.za, .int .i64 j.n.zb, .int .i64 j.n.zo, .int .i64 j.n.lo, .int .i64 j.n.hi]) (.int .i64 2)).run Try.prog w = .ok (.int .i64 j.n.zo) w := fun _ => by kernel_rfl
  have ix3 : ∀ w, (Instr.index 111 (.agg #[.int .i64 j.n.za, .int .i64 j.n.zb, .int .i64 j.n.zo, .int .i64 j.n.lo, .int .i64 j.n.hi]) (.int .i64 3)).run Try.prog w = .ok (.int .i64 j.n.lo) w := fun _ => by kernel_rfl
  have ix4 : ∀ w, (Instr.index 111 (.agg #[.int .i64 j.n.za, .int .i64 j.n.zb, .int .i64 j.n.zo, .int .i64 j.n.lo, .int .i64 j.n.hi]) (.int .i64 4)).run Try.prog w = .ok (.int .i64 j.n.hi) w := fun _ => by kernel_rfl
  have WZ0 := Lib.hid (show ∀ W : World, Calls Try.prog 82 #[.int .i64 j.n.za, .int .i64 (-128), .int .i64 127] W fun e w' => e = .returned (.bool true) ∧ w' = W from fun W => by have := jwithin (j.n.za) (-128) 127 W; rwa [show decide (-128 ≤ j.n.za ∧ j.n.za ≤ 127) = true from hz0] at this)
  have WZ1 := Lib.hid (show ∀ W : World, Calls Try.prog 82 #[.int .i64 j.n.zb, .int .i64 (-128), .int .i64 127] W fun e w' => e = .returned (.bool true) ∧ w' = W from fun W => by have := jwithin (j.n.zb) (-128) 127 W; rwa [show decide (-128 ≤ j.n.zb ∧ j.n.zb ≤ 127) = true from hz1] at this)
  have WZ2 := Lib.hid (show ∀ W : World, Calls Try.prog 82 #[.int .i64 j.n.zo, .int .i64 (-128), .int .i64 127] W fun e w' => e = .returned (.bool true) ∧ w' = W from fun W => by have := jwithin (j.n.zo) (-128) 127 W; rwa [show decide (-128 ≤ j.n.zo ∧ j.n.zo ≤ 127) = true from hz2] at this)
  have WZ3 := Lib.hid (show ∀ W : World, Calls Try.prog 82 #[.int .i64 j.n.lo, .int .i64 (-128), .int .i64 127] W fun e w' => e = .returned (.bool true) ∧ w' = W from fun W => by have := jwithin (j.n.lo) (-128) 127 W; rwa [show decide (-128 ≤ j.n.lo ∧ j.n.lo ≤ 127) = true from hz3] at this)
  have WZ4 := Lib.hid (show ∀ W : World, Calls Try.prog 82 #[.int .i64 j.n.hi, .int .i64 (-128), .int .i64 127] W fun e w' => e = .returned (.bool true) ∧ w' = W from fun W => by have := jwithin (j.n.hi) (-128) 127 W; rwa [show decide (-128 ≤ j.n.hi ∧ j.n.hi ≤ 127) = true from hz4] at this)
  have WQ2 := Lib.hid (show ∀ W : World, Calls Try.prog 82 #[.int .i64 j.n.t1, .int .i64 (0), .int .i64 31] W fun e w' => e = .returned (.bool true) ∧ w' = W from fun W => by have := jwithin (j.n.t1) (0) 31 W; rwa [q2] at this)
  have WQ3 := Lib.hid (show ∀ W : World, Calls Try.prog 82 #[.int .i64 j.n.t2, .int .i64 (0), .int .i64 31] W fun e w' => e = .returned (.bool true) ∧ w' = W from fun W => by have := jwithin (j.n.t2) (0) 31 W; rwa [q3] at this)
  have hkl : k0 < C.length := (List.getElem?_eq_some_iff.1 hq).1
  have hW := ((hC.2.2.1 q (List.mem_of_getElem? hq)).2)
  obtain ⟨hcl, hcb, _, ⟨_, h, _⟩ | ⟨_, h⟩ | ⟨b, off, rfl, hbl, hcell⟩⟩ := hC
  · rw [h] at hkl; simp at hkl
  · rw [h] at hkl; simp at hkl
  obtain ⟨_, e1⟩ := hcell k0 q hq
  have i0 : (0 : Int) ≤ (k0 : Int) := by omega
  have i1 : (k0 : Int) < (C.length : Int) := by omega
  obtain ⟨cl, hcl2⟩ : ∃ n, n = C.length := ⟨_, rfl⟩
  obtain ⟨ws, hws⟩ : ∃ l, l = q.ws := ⟨_, rfl⟩
  obtain ⟨wa, hwa⟩ : ∃ l, l = q.wa := ⟨_, rfl⟩
  obtain ⟨wc, hwc⟩ : ∃ l, l = q.wc := ⟨_, rfl⟩
  rw [← hws, ← hwa, ← hwc] at e1 hW
  rw [← hws]
  rw [← hcl2] at c_27 i1 hkl
  obtain ⟨A, hA⟩ : ∃ A : Bool, (ws.all fun v => decide (-268435456 ≤ v ∧ v ≤ 268435456)) = A := ⟨_, rfl⟩
  rw [hA]
  obtain ⟨c, hcA⟩ : ∃ c : Int, (if A = true then (0 : Int) else 11) = c := ⟨_, rfl⟩
  rw [hcA]
  have CF := Lib.hid (show A = false → 11 = c from fun h => by rw [← hcA, h]; rfl)
  have CT := Lib.hid (show A = true → 0 = c from fun h => by rw [← hcA, h]; rfl)
  clear hcA
  have WC := Lib.hid (ints_cell hW)
  have wl64 : ws.length ≤ 9223372036854775807 := by have := hW.1.1; have h2 := hW.1.2.1; rw [List.length_map] at this; omega
  have AF := Lib.hid (show ∀ (k : Nat) (z : Int), ws[k]? = some z → ¬ (-268435456 ≤ z ∧ z ≤ 268435456) → A = false from fun k z hz hn => by
    rw [← hA, List.all_eq_false]; exact ⟨z, List.mem_of_getElem? hz, by simpa using hn⟩)
  have AT := Lib.hid (show (∀ (k : Nat) (z : Int), ws[k]? = some z → -268435456 ≤ z ∧ z ≤ 268435456) → A = true from fun h => by
    rw [← hA, List.all_eq_true]; intro z hz; obtain ⟨k, hk⟩ := List.getElem?_of_mem hz; simpa using h k z hk)
  have hjw : JAt w J j := hJ
  clear hjw
  clear hJ hj hi hcs hq hcell hcl hW hws hwa hwc hA hcl2 hk hz0 hz1 hz2 hz3 hz4 q2 q3
  go_enter Try.func62, Try.ntmps62
  simp only [hL, hAl, hSt]
  clear hL hAl hSt NL RG
  go_wp2_with fail
  refine wp_loop_rounds 6 ?_
  iterate 5 (
    rw [rounds_succ]
    go_wp2_with (first | (go_at_call 82; (with_reducible refine (WZ0.out _).mono ?_); rintro e w' ⟨rfl, rfl⟩) | (go_at_call 82; (with_reducible refine (WZ1.out _).mono ?_); rintro e w' ⟨rfl, rfl⟩) | (go_at_call 82; (with_reducible refine (WZ2.out _).mono ?_); rintro e w' ⟨rfl, rfl⟩) | (go_at_call 82; (with_reducible refine (WZ3.out _).mono ?_); rintro e w' ⟨rfl, rfl⟩) | (go_at_call 82; (with_reducible refine (WZ4.out _).mono ?_); rintro e w' ⟨rfl, rfl⟩)))
  rw [rounds_succ]
  go_wp2_with (first | (go_at_call 82; (with_reducible refine (WZ0.out _).mono ?_); rintro e w' ⟨rfl, rfl⟩) | (go_at_call 82; (with_reducible refine (WZ1.out _).mono ?_); rintro e w' ⟨rfl, rfl⟩) | (go_at_call 82; (with_reducible refine (WZ2.out _).mono ?_); rintro e w' ⟨rfl, rfl⟩) | (go_at_call 82; (with_reducible refine (WZ3.out _).mono ?_); rintro e w' ⟨rfl, rfl⟩) | (go_at_call 82; (with_reducible refine (WZ4.out _).mono ?_); rintro e w' ⟨rfl, rfl⟩) | (go_at_call 82; (with_reducible refine (WQ2.out _).mono ?_); rintro e w' ⟨rfl, rfl⟩) | (go_at_call 82; (with_reducible refine (WQ3.out _).mono ?_); rintro e w' ⟨rfl, rfl⟩))
  go_region
  all_goals
    go_wp2_with fail
    go_loop [91] (fun kk => ∃ k : Nat, k ≤ ws.length ∧ kk = .int .i64 k ∧ (∀ (i : Nat) (z : Int), i < k → ws[i]? = some z → -268435456 ≤ z ∧ z ≤ 268435456)) (fun kk => ws.length - (intOf kk).toNat)
    case atStart => exact ⟨0, Nat.zero_le _, rfl, fun i z h => by omega⟩
    case round =>
      obtain ⟨k, hk, rfl, hinv⟩ := hrel
      have HI := Lib.hid hinv
      clear hinv
      by_cases hkw : k < ws.length
      · obtain ⟨z, hz⟩ : ∃ z, ws[k]? = some z := ⟨_, List.getElem?_eq_getElem hkw⟩
        obtain ⟨hwf, b2, off2, hwa2, hb2, hc2⟩ := WC.out k z hz
        have hzb : -2147483648 ≤ z ∧ z ≤ 2147483647 := by simpa [Lit.wf, IntKind.min, IntKind.max, IntKind.signed, IntKind.bits] using hwf
        subst hwa2
        obtain ⟨zb0, zb1⟩ := hzb
        have HZ := Lib.hid hz
        have HK := Lib.hid hkw
        have kw0 : (0 : Int) ≤ (k : Int) := by omega
        have kw1 : (k : Int) < (ws.length : Int) := by omega
        have kw2 : (k : Int) + 1 ≤ 9223372036854775807 := by omega
        clear hz hwf
        cases hd : decide (-268435456 ≤ z ∧ z ≤ 268435456)
        · have WI := Lib.hid (show ∀ W : World, Calls Try.prog 82 #[.int .i64 z, .int .i64 (-268435456), .int .i64 268435456] W fun e w' => e = .returned (.bool false) ∧ w' = W from fun W => by have := jwithin z (-268435456) 268435456 W; rwa [hd] at this)
          have HD := Lib.hid (of_decide_eq_false hd)
          clear hd hkw
          go_wp2_with (go_at_call 82; (with_reducible refine (WI.out _).mono ?_); rintro e w' ⟨rfl, rfl⟩)
          go_ret
          exact ⟨ret_i64 (CF.out (AF.out k z HZ.out HD.out)), by go_grown⟩
        · have WI := Lib.hid (show ∀ W : World, Calls Try.prog 82 #[.int .i64 z, .int .i64 (-268435456), .int .i64 268435456] W fun e w' => e = .returned (.bool true) ∧ w' = W from fun W => by have := jwithin z (-268435456) 268435456 W; rwa [hd] at this)
          have HD := Lib.hid (of_decide_eq_true hd)
          clear hd hkw
          go_wp2_with (go_at_call 82; (with_reducible refine (WI.out _).mono ?_); rintro e w' ⟨rfl, rfl⟩)
          refine ⟨⟨k + 1, by have := HK.out; omega, rfl, fun i y hi hy => ?_⟩, by have := HK.out; simp [intOf]; omega⟩
          rcases Nat.lt_or_ge i k with h | h
          · exact HI.out i y h hy
          · obtain rfl : i = k := by omega
            rw [HZ.out] at hy
            obtain rfl := Option.some.inj hy
            exact HD.out
      · obtain rfl : k = ws.length := by omega
        go_wp2_with fail
        go_ret
        exact ⟨ret_i64 (CT.out (AT.out (fun i z hz => HI.out i z (List.getElem?_eq_some_iff.1 hz).1 hz))), by go_grown⟩
end Go.Proofs.Ytmifojpmomdmeaa

namespace Go.Proofs.Ytmifojpmomdmeaa
open Go Go.RowKit
set_option linter.unusedVariables false

set_option maxRecDepth 100000 in
set_option maxHeartbeats 4000000 in
theorem jnum_soft (J : Nat) (j : Jg) (w : World) (C : List CnQ) (cc : Nat) (ca : Option Addr) (hcs : j.cs = .slice ca C.length cc) (hJ : JAt w J j) (hC : CnsIn w ca C cc) (hj : JOk j) (k0 : Nat) (q : CnQ) (hk : j.n.w = (k0 : Int)) (hq : C[k0]? = some q) (hi : hI j.n.op = false) (h14 : (j.n.op == 14) = true) (hne : 0 < q.ws.length) (hz0 : smallB j.n.za = true) (hz1 : smallB j.n.zb = true) (hz2 : smallB j.n.zo = true) (hz3 : smallB j.n.lo = true) (hz4 : smallB j.n.hi = true) (q0 : 0 ≤ j.n.m1) (q1 : 0 ≤ j.n.m2) (q2 : decide (0 ≤ j.n.t1 ∧ j.n.t1 ≤ 31) = true) (q3 : decide (0 ≤ j.n.t2 ∧ j.n.t2 ≤ 31) = true) (q4 : j.n.lo ≤ j.n.hi) :
    Calls Try.prog 62 #[.pointer (some ⟨J, 0, none⟩)] w fun e w' => e = .returned (.int .i64 (if ((q.ws.all fun v => decide (0 ≤ v ∧ v ≤ 65535)) && decide (q.ws.getD 0 0 ≠ 0)) then 0 else 11)) ∧ Below w.heap.size w w' := by
  have hb : bits .and .i64 j.h 2048 = 0 := by rw [hj.has]; exact (bit_12 hj.op).2 hi
  have hbB : (bits .and .i64 j.h 2048 != 0) = false := by simpa using hb
  have c_26 := hJ.cell 26 _ rfl
  have c_27 := hJ.cell 27 _ rfl
  rw [hcs] at c_27
  obtain ⟨T, Z, Z0, K, NL⟩ := node_letter j.n
  have hL := NL.load
  have hAl := NL.alloc
  have hSt := NL.store
  have tA := NL.agg
  have tS := NL.size
  have tZ := NL.zero
  have tK := NL.len
  have tT := NL.st1 w
  have hlt := hJ.lt
  have RG := Lib.hid (jg_rg hJ NL)
  have k_0 : K[0]? = some (.int .i64 j.n.op) := by rw [NL.cells]; rfl
  have k_11 : K[11]? = some (.int .i64 j.n.za) := by rw [NL.cells]; rfl
  have k_12 : K[12]? = some (.int .i64 j.n.zb) := by rw [NL.cells]; rfl
  have k_13 : K[13]? = some (.int .i64 j.n.zo) := by rw [NL.cells]; rfl
  have k_18 : K[18]? = some (.int .i64 j.n.lo) := by rw [NL.cells]; rfl
  have k_19 : K[19]? = some (.int .i64 j.n.hi) := by rw [NL.cells]; rfl
  have k_14 : K[14]? = some (.int .i32 j.n.m1) := by rw [NL.cells]; rfl
  have k_15 : K[15]? = some (.int .i32 j.n.m2) := by rw [NL.cells]; rfl
  have k_16 : K[16]? = some (.int .i64 j.n.t1) := by rw [NL.cells]; rfl
  have k_17 : K[17]? = some (.int .i64 j.n.t2) := by rw [NL.cells]; rfl
  have k_20 : K[20]? = some (.int .i64 (k0 : Int)) := by rw [NL.cells, ← hk]; rfl
  have tR := NL.read w J RG.out
  have ix0 : ∀ w, (Instr.index 111 (.agg #[.int .i64 j.n.za, .int .i64 j.n.zb, .int .i64 j.n.zo, .int .i64 j.n.lo, .int .i64 j.n.hi]) (.int .i64 0)).run Try.prog w = .ok (.int .i64 j.n.za) w := fun _ => by kernel_rfl
  have ix1 : ∀ w, (Instr.index 111 (.agg #[.int .i64 j.n.za, .int .i64 j.n.zb, .int .i64 j.n.zo, .int .i64 j.n.lo, .int .i64 j.n.hi]) (.int .i64 1)).run Try.prog w = .ok (.int .i64 j.n.zb) w := fun _ => by kernel_rfl
  have ix2 : ∀ w, (Instr.index 111 (.agg #[.int .i64 j.n.za, .int .i64 j.n.zb, .int .i64 j.n.zo, .int .i64 j.n.lo, .int .i64 j.n.hi]) (.int .i64 2)).run Try.prog w = .ok (.int .i64 j.n.zo) w := fun _ => by kernel_rfl
  have ix3 : ∀ w, (Instr.index 111 (.agg #[.int .i64 j.n.za, .int .i64 j.n.zb, .int .i64 j.n.zo, .int .i64 j.n.lo, .int .i64 j.n.hi]) (.int .i64 3)).run Try.prog w = .ok (.int .i64 j.n.lo) w := fun _ => by kernel_rfl
  have ix4 : ∀ w, (Instr.index 111 (.agg #[.int .i64 j.n.za, .int .i64 j.n.zb, .int .i64 j.n.zo, .int .i64 j.n.lo, .int .i64 j.n.hi]) (.int .i64 4)).run Try.prog w = .ok (.int .i64 j.n.hi) w := fun _ => by kernel_rfl
  have WZ0 := Lib.hid (show ∀ W : World, Calls Try.prog 82 #[.int .i64 j.n.za, .int .i64 (-128), .int .i64 127] W fun e w' => e = .returned (.bool true) ∧ w' = W from fun W => by have := jwithin (j.n.za) (-128) 127 W; rwa [show decide (-128 ≤ j.n.za ∧ j.n.za ≤ 127) = true from hz0] at this)
  have WZ1 := Lib.hid (show ∀ W : World, Calls Try.prog 82 #[.int .i64 j.n.zb, .int .i64 (-128), .int .i64 127] W fun e w' => e = .returned (.bool true) ∧ w' = W from fun W => by have := jwithin (j.n.zb) (-128) 127 W; rwa [show decide (-128 ≤ j.n.zb ∧ j.n.zb ≤ 127) = true from hz1] at this)
  have WZ2 := Lib.hid (show ∀ W : World, Calls Try.prog 82 #[.int .i64 j.n.zo, .int .i64 (-128), .int .i64 127] W fun e w' => e = .returned (.bool true) ∧ w' = W from fun W => by have := jwithin (j.n.zo) (-128) 127 W; rwa [show decide (-128 ≤ j.n.zo ∧ j.n.zo ≤ 127) = true from hz2] at this)
  have WZ3 := Lib.hid (show ∀ W : World, Calls Try.prog 82 #[.int .i64 j.n.lo, .int .i64 (-128), .int .i64 127] W fun e w' => e = .returned (.bool true) ∧ w' = W from fun W => by have := jwithin (j.n.lo) (-128) 127 W; rwa [show decide (-128 ≤ j.n.lo ∧ j.n.lo ≤ 127) = true from hz3] at this)
  have WZ4 := Lib.hid (show ∀ W : World, Calls Try.prog 82 #[.int .i64 j.n.hi, .int .i64 (-128), .int .i64 127] W fun e w' => e = .returned (.bool true) ∧ w' = W from fun W => by have := jwithin (j.n.hi) (-128) 127 W; rwa [show decide (-128 ≤ j.n.hi ∧ j.n.hi ≤ 127) = true from hz4] at this)
  have WQ2 := Lib.hid (show ∀ W : World, Calls Try.prog 82 #[.int .i64 j.n.t1, .int .i64 (0), .int .i64 31] W fun e w' => e = .returned (.bool true) ∧ w' = W from fun W => by have := jwithin (j.n.t1) (0) 31 W; rwa [q2] at this)
  have WQ3 := Lib.hid (show ∀ W : World, Calls Try.prog 82 #[.int .i64 j.n.t2, .int .i64 (0), .int .i64 31] W fun e w' => e = .returned (.bool true) ∧ w' = W from fun W => by have := jwithin (j.n.t2) (0) 31 W; rwa [q3] at this)
  have hkl : k0 < C.length := (List.getElem?_eq_some_iff.1 hq).1
  have hW := ((hC.2.2.1 q (List.mem_of_getElem? hq)).2)
  obtain ⟨hcl, hcb, _, ⟨_, h, _⟩ | ⟨_, h⟩ | ⟨b, off, rfl, hbl, hcell⟩⟩ := hC
  · rw [h] at hkl; simp at hkl
  · rw [h] at hkl; simp at hkl
  obtain ⟨_, e1⟩ := hcell k0 q hq
  have i0 : (0 : Int) ≤ (k0 : Int) := by omega
  have i1 : (k0 : Int) < (C.length : Int) := by omega
  obtain ⟨cl, hcl2⟩ : ∃ n, n = C.length := ⟨_, rfl⟩
  obtain ⟨ws, hws⟩ : ∃ l, l = q.ws := ⟨_, rfl⟩
  obtain ⟨wa, hwa⟩ : ∃ l, l = q.wa := ⟨_, rfl⟩
  obtain ⟨wc, hwc⟩ : ∃ l, l = q.wc := ⟨_, rfl⟩
  rw [← hws, ← hwa, ← hwc] at e1 hW
  rw [← hws]
  rw [← hws] at hne
  rw [← hcl2] at c_27 i1 hkl
  obtain ⟨A, hA⟩ : ∃ A : Bool, ((ws.all fun v => decide (0 ≤ v ∧ v ≤ 65535)) && decide (ws.getD 0 0 ≠ 0)) = A := ⟨_, rfl⟩
  rw [hA]
  obtain ⟨c, hcA⟩ : ∃ c : Int, (if A = true then (0 : Int) else 11) = c := ⟨_, rfl⟩
  rw [hcA]
  have CF := Lib.hid (show A = false → 11 = c from fun h => by rw [← hcA, h]; rfl)
  have CT := Lib.hid (show A = true → 0 = c from fun h => by rw [← hcA, h]; rfl)
  clear hcA
  have WC := Lib.hid (ints_cell hW)
  have wl64 : ws.length ≤ 9223372036854775807 := by have := hW.1.1; have h2 := hW.1.2.1; rw [List.length_map] at this; omega
  have HNE := Lib.hid hne
  have AF := Lib.hid (show ∀ (k : Nat) (z : Int), ws[k]? = some z → ¬ (0 ≤ z ∧ z ≤ 65535) → A = false from fun k z hz hn => by
    rw [← hA, Bool.and_eq_false_iff]; left; rw [List.all_eq_false]; exact ⟨z, List.mem_of_getElem? hz, by simpa using hn⟩)
  have AG := Lib.hid (show ws[0]? = some 0 → A = false from fun h0 => by rw [← hA]; simp [h0])
  have AT := Lib.hid (show (∀ (k : Nat) (z : Int), ws[k]? = some z → 0 ≤ z ∧ z ≤ 65535) → ¬ ws[0]? = some 0 → A = true from fun h h0 => by
    rw [← hA, Bool.and_eq_true]
    refine ⟨?_, ?_⟩
    · rw [List.all_eq_true]; intro z hz; obtain ⟨k, hk⟩ := List.getElem?_of_mem hz; simpa using h k z hk
    · have : ws[0]? = some (ws.getD 0 0) := by rw [List.getD_eq_getElem?_getD, List.getElem?_eq_getElem hne]; rfl
      rw [this] at h0; simpa using h0)
  have hjw : JAt w J j := hJ
  clear hjw
  clear hJ hj hi hcs hq hcell hcl hW hws hwa hwc hA hcl2 hk hz0 hz1 hz2 hz3 hz4 q2 q3 hne
  go_enter Try.func62, Try.ntmps62
  simp only [hL, hAl, hSt]
  clear hL hAl hSt NL RG
  go_wp2_with fail
  refine wp_loop_rounds 6 ?_
  iterate 5 (
    rw [rounds_succ]
    go_wp2_with (first | (go_at_call 82; (with_reducible refine (WZ0.out _).mono ?_); rintro e w' ⟨rfl, rfl⟩) | (go_at_call 82; (with_reducible refine (WZ1.out _).mono ?_); rintro e w' ⟨rfl, rfl⟩) | (go_at_call 82; (with_reducible refine (WZ2.out _).mono ?_); rintro e w' ⟨rfl, rfl⟩) | (go_at_call 82; (with_reducible refine (WZ3.out _).mono ?_); rintro e w' ⟨rfl, rfl⟩) | (go_at_call 82; (with_reducible refine (WZ4.out _).mono ?_); rintro e w' ⟨rfl, rfl⟩)))
  rw [rounds_succ]
  go_wp2_with (first | (go_at_call 82; (with_reducible refine (WZ0.out _).mono ?_); rintro e w' ⟨rfl, rfl⟩) | (go_at_call 82; (with_reducible refine (WZ1.out _).mono ?_); rintro e w' ⟨rfl, rfl⟩) | (go_at_call 82; (with_reducible refine (WZ2.out _).mono ?_); rintro e w' ⟨rfl, rfl⟩) | (go_at_call 82; (with_reducible refine (WZ3.out _).mono ?_); rintro e w' ⟨rfl, rfl⟩) | (go_at_call 82; (with_reducible refine (WZ4.out _).mono ?_); rintro e w' ⟨rfl, rfl⟩) | (go_at_call 82; (with_reducible refine (WQ2.out _).mono ?_); rintro e w' ⟨rfl, rfl⟩) | (go_at_call 82; (with_reducible refine (WQ3.out _).mono ?_); rintro e w' ⟨rfl, rfl⟩))
  go_region
  all_goals
    go_wp2_with fail
    go_loop [91] (fun kk => ∃ k : Nat, k ≤ ws.length ∧ kk = .int .i64 k ∧ ((∀ (i : Nat) (z : Int), i < k → ws[i]? = some z → 0 ≤ z ∧ z ≤ 65535) ∧ (0 < k → ¬ ws[0]? = some 0))) (fun kk => ws.length - (intOf kk).toNat)
    case atStart => exact ⟨0, Nat.zero_le _, rfl, fun i z h => by omega, fun h => by omega⟩
    case round =>
      obtain ⟨k, hk, rfl, hinv⟩ := hrel
      have HI := Lib.hid hinv
      clear hinv
      by_cases hkw : k < ws.length
      · obtain ⟨z, hz⟩ : ∃ z, ws[k]? = some z := ⟨_, List.getElem?_eq_getElem hkw⟩
        obtain ⟨hwf, b2, off2, hwa2, hb2, hc2⟩ := WC.out k z hz
        have hzb : -2147483648 ≤ z ∧ z ≤ 2147483647 := by simpa [Lit.wf, IntKind.min, IntKind.max, IntKind.signed, IntKind.bits] using hwf
        subst hwa2
        obtain ⟨zb0, zb1⟩ := hzb
        have HZ := Lib.hid hz
        have HK := Lib.hid hkw
        have kw0 : (0 : Int) ≤ (k : Int) := by omega
        have kw1 : (k : Int) < (ws.length : Int) := by omega
        have kw2 : (k : Int) + 1 ≤ 9223372036854775807 := by omega
        clear hz hwf
        cases hd : decide (0 ≤ z ∧ z ≤ 65535)
        · have WI := Lib.hid (show ∀ W : World, Calls Try.prog 82 #[.int .i64 z, .int .i64 (0), .int .i64 65535] W fun e w' => e = .returned (.bool false) ∧ w' = W from fun W => by have := jwithin z (0) 65535 W; rwa [hd] at this)
          have HD := Lib.hid (of_decide_eq_false hd)
          clear hd hkw
          go_wp2_with (go_at_call 82; (with_reducible refine (WI.out _).mono ?_); rintro e w' ⟨rfl, rfl⟩)
          go_ret
          exact ⟨ret_i64 (CF.out (AF.out k z HZ.out HD.out)), by go_grown⟩
        · have WI := Lib.hid (show ∀ W : World, Calls Try.prog 82 #[.int .i64 z, .int .i64 (0), .int .i64 65535] W fun e w' => e = .returned (.bool true) ∧ w' = W from fun W => by have := jwithin z (0) 65535 W; rwa [hd] at this)
          have HD := Lib.hid (of_decide_eq_true hd)
          clear hd hkw
          by_cases hk0 : k = 0
          · have hkb : ((k : Int) == 0) = true := by simpa using hk0
            have HK0 := Lib.hid hk0
            clear hk0
            by_cases hz0 : z = 0
            · have hzb : (z == 0) = true := by simpa using hz0
              have HZ0 := Lib.hid hz0
              clear hz0
              go_wp2_with (go_at_call 82; (with_reducible refine (WI.out _).mono ?_); rintro e w' ⟨rfl, rfl⟩)
              go_ret
              exact ⟨ret_i64 (CF.out (AG.out (by have h1 := HZ.out; rw [HK0.out, HZ0.out] at h1; exact h1))), by go_grown⟩
            · have hzb : (z == 0) = false := by simpa using hz0
              have HZ0 := Lib.hid hz0
              clear hz0
              go_wp2_with (go_at_call 82; (with_reducible refine (WI.out _).mono ?_); rintro e w' ⟨rfl, rfl⟩)
              refine ⟨⟨k + 1, by have := HK.out; omega, rfl, fun i y hi hy => ?_, fun _ h0 => ?_⟩, by have := HK.out; simp [intOf]; omega⟩
              · obtain rfl : i = k := by have := HK0.out; omega
                rw [HZ.out] at hy
                obtain rfl := Option.some.inj hy
                exact HD.out
              · have h1 := HZ.out
                rw [HK0.out, h0] at h1
                exact HZ0.out (Option.some.inj h1).symm
          · have hkb : ((k : Int) == 0) = false := by simpa using hk0
            have HK0 := Lib.hid hk0
            clear hk0
            go_wp2_with (go_at_call 82; (with_reducible refine (WI.out _).mono ?_); rintro e w' ⟨rfl, rfl⟩)
            refine ⟨⟨k + 1, by have := HK.out; omega, rfl, fun i y hi hy => ?_, fun _ => HI.out.2 (by have := HK0.out; omega)⟩, by have := HK.out; simp [intOf]; omega⟩
            rcases Nat.lt_or_ge i k with h | h
            · exact HI.out.1 i y h hy
            · obtain rfl : i = k := by omega
              rw [HZ.out] at hy
              obtain rfl := Option.some.inj hy
              exact HD.out
      · obtain rfl : k = ws.length := by omega
        go_wp2_with fail
        go_ret
        exact ⟨ret_i64 (CT.out (AT.out (fun i z hz => HI.out.1 i z (List.getElem?_eq_some_iff.1 hz).1 hz) (HI.out.2 HNE.out))), by go_grown⟩
end Go.Proofs.Ytmifojpmomdmeaa
