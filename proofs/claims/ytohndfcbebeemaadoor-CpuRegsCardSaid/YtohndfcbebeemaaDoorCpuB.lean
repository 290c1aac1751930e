/- CpuRegs, the walk. -/
import Derived.Test.YtohndfcbebeemaaDoorCpuA
import Derived.Deep.RegionHeld3
namespace Go.Proofs.YtohndfcbebeemaaDoor
open Go Go.RowKit
set_option linter.unusedVariables false
theorem map_any (w : World) : Calls Tryd.prog 10 #[] w fun e w' => e = .returned (.agg #[.int .u32 4096, .int .u32 256, .int .u32 2147483648, .int .u32 128]) ∧ Below w.heap.size w w' :=
  calls_closed names_ok mixed_ok (n := 60) (args := []) (by kernel_rfl) (by kernel_rfl) rfl rfl w
theorem cnew_none (pc : Int) (w : World) :
    Calls Tryd.prog 11 #[.pointer none, .int .u32 pc] w fun e w' => e = .returned (.pointer none) ∧ w = w' := by
  go_enter Tryd.func11, Tryd.ntmps11
  go_wp2
  go_ret
  exact ⟨rfl, rfl⟩
theorem ptr_eq (t : TypeId) (e : TypeId) (z : Nat) (hu : Tryd.prog.underlying t = some (.pointer e)) (hz : sizeB Tryd.prog e = some (z + 1)) (b : Nat) (w : World) : (binOp .eql t (.pointer (some ⟨b, 0, none⟩)) (.pointer (some ⟨b, 0, none⟩))).run Tryd.prog w = .ok (.bool true) w := by
  have h1 : RV (fun _ => some (b, 0)) (.pointer (some ⟨0, 0, none⟩)) (.pointer (some ⟨b, 0, none⟩)) := .one (.base (.ptr rfl))
  exact (aEqB_ok (P := Tryd.prog) (w := w) (t := t) (x := .pointer (some ⟨0, 0, none⟩)) (y := .pointer (some ⟨0, 0, none⟩)) (b := true) (by simp [aEqB, hu, hz]) h1 h1).2.1
set_option maxRecDepth 100000 in
set_option maxHeartbeats 2000000 in
theorem regs_low (n x pc : Int) (w : World) (ht : T3 w) (hn : n < 0) :
    Calls Tryd.prog 4 #[.int .i64 n, .int .u32 x, .int .u32 pc] w fun e w' => e = .returned (.bool true) ∧ Below w.heap.size w w' := by
  have HT := Lib.hid (fun W (h : Below w.heap.size w W) => ht.later h)
  clear ht
  have PE := ptr_eq 26 68 5 (by kernel_rfl) (by kernel_rfl)
  have EE : ∀ w, (Op.equal 38 (.agg #[.int .u32 0, .int .u32 0, .int .i64 0, .int .u32 0, .int .i64 0]) (.agg #[.int .u32 0, .int .u32 0, .int .i64 0, .int .u32 0, .int .i64 0])).run Tryd.prog w = .ok true w := fun _ => by kernel_rfl
  go_enter Tryd.func4, Tryd.ntmps4
  go_wp2_with fail
  refine (map_any _).mono ?_
  rintro e w1 ⟨rfl, b1⟩
  go_wp2_with fail
  refine (mnew _).mono ?_
  rintro e w2 ⟨m, rfl, m0, m1, b2⟩
  have B2 := Lib.hid (b1.trans (b2.mono b1.size))
  clear b1 b2
  go_wp2_with fail
  refine (cnew_any _ _ _).mono ?_
  rintro e w3 ⟨cs, rfl, hM, rfl⟩
  have c0 : (w2.alloc (.cells cs 71)).cell? ⟨w2.heap.size, 0, none⟩ = some (.pointer (some ⟨m, 0, none⟩)) := by rw [World.cell?_alloc_new]; exact hM.mem
  have c1 : (w2.alloc (.cells cs 71)).cell? ⟨w2.heap.size, 1, none⟩ = some (.int .u32 pc) := by rw [World.cell?_alloc_new]; exact hM.pc
  have cr : ∀ k, k < 32 → (w2.alloc (.cells cs 71)).cell? ⟨w2.heap.size, 2 + k, none⟩ = some (.int .u32 0) := fun k hk => by rw [World.cell?_alloc_new]; exact hM.reg k hk
  have cf : ∀ k, (w2.alloc (.cells cs 71)).frozen? ⟨w2.heap.size, k, none⟩ = false := fun k => by simp
  have hB : Below w.heap.size w (w2.alloc (.cells cs 71)) := B2.out.alloc B2.out.size _
  have hz : w2.heap.size < (w2.alloc (.cells cs 71)).heap.size := by simp
  have hb0 : w.heap.size ≤ w2.heap.size := B2.out.size
  clear B2 hM m0 m1
  generalize w2.alloc (.cells cs 71) = W at c0 c1 cr cf hB hz
  generalize w2.heap.size = B at c0 c1 cr cf hz hb0
  have CR := Lib.hid cr
  have CF := Lib.hid cf
  have HB := Lib.hid hB
  clear cr cf hB
  go_wp2_with fail
  refine (pc_some B pc W c1).mono ?_
  rintro e W1 ⟨rfl, rfl⟩
  go_wp2_with fail
  refine (set_out B _ x W (by omega)).mono ?_
  rintro e W1 ⟨rfl, rfl⟩
  have R0' := Lib.hid (CR.out 0 (by omega))
  clear c1 CR CF
  go_wp2_with fail
  refine (cnew_none _ _).mono ?_
  rintro e W1 ⟨rfl, rfl⟩
  go_wp2_with fail
  refine (set_none _ _ _).mono ?_
  rintro e W1 ⟨rfl, rfl⟩
  go_wp2_with fail
  refine (step_none _).mono ?_
  rintro e W1 ⟨rfl, hs⟩
  have hz1 : B < W1.heap.size := Nat.lt_of_lt_of_le hz hs.size
  have d0 : W1.cell? ⟨B, 0, none⟩ = some (.pointer (some ⟨m, 0, none⟩)) := (hs.cell (p := ⟨B, 0, none⟩) hz).trans c0
  have dr0 : W1.cell? ⟨B, 2 + 0, none⟩ = some (.int .u32 0) := (hs.cell (p := ⟨B, 2 + 0, none⟩) hz).trans R0'.out
  have HB1 := Lib.hid (HB.out.trans (hs.mono HB.out.size))
  clear hs c0 HB hz
  have D0 := Lib.hid d0
  have DR0 := Lib.hid dr0
  clear d0 dr0
  go_wp2_with fail
  have hV2 : Below W1.heap.size W1 (W1.alloc (.cells #[.int .u32 0, .int .u32 0, .int .i64 0, .int .u32 0, .int .i64 0] 38)) := (Below.refl _ _).alloc (Nat.le_refl _) _
  have k0 : (W1.alloc (.cells #[.int .u32 0, .int .u32 0, .int .i64 0, .int .u32 0, .int .i64 0] 38)).cell? ⟨W1.heap.size, 0, none⟩ = some (.int .u32 0) := by simp
  have k1 : (W1.alloc (.cells #[.int .u32 0, .int .u32 0, .int .i64 0, .int .u32 0, .int .i64 0] 38)).cell? ⟨W1.heap.size, 1, none⟩ = some (.int .u32 0) := by simp
  have k2 : (W1.alloc (.cells #[.int .u32 0, .int .u32 0, .int .i64 0, .int .u32 0, .int .i64 0] 38)).cell? ⟨W1.heap.size, 2, none⟩ = some (.int .i64 0) := by simp
  have k3 : (W1.alloc (.cells #[.int .u32 0, .int .u32 0, .int .i64 0, .int .u32 0, .int .i64 0] 38)).cell? ⟨W1.heap.size, 3, none⟩ = some (.int .u32 0) := by simp
  have k4 : (W1.alloc (.cells #[.int .u32 0, .int .u32 0, .int .i64 0, .int .u32 0, .int .i64 0] 38)).cell? ⟨W1.heap.size, 4, none⟩ = some (.int .i64 0) := by simp
  generalize W1.alloc (.cells #[.int .u32 0, .int .u32 0, .int .i64 0, .int .u32 0, .int .i64 0] 38) = V at hV2 k0 k1 k2 k3 k4
  have g0 : V.cell? ⟨B, 0, none⟩ = some (.pointer (some ⟨m, 0, none⟩)) := (hV2.cell (p := ⟨B, 0, none⟩) hz1).trans D0.out
  have gr0 : V.cell? ⟨B, 2 + 0, none⟩ = some (.int .u32 0) := (hV2.cell (p := ⟨B, 2 + 0, none⟩) hz1).trans DR0.out
  have HB2 := Lib.hid (HB1.out.trans (hV2.mono HB1.out.size))
  generalize W1.heap.size = E at k0 k1 k2 k3 k4
  clear hV2 D0 DR0 HB1 hz1
  refine (reg_out B n V (by omega)).mono ?_
  rintro e W2 ⟨rfl, rfl⟩
  go_wp2_with fail
  refine (reg_in B 0 0 V (by omega) gr0).mono ?_
  rintro e W2 ⟨rfl, rfl⟩
  go_wp2_with fail
  refine (mem_some B _ V g0).mono ?_
  rintro e W2 ⟨rfl, rfl⟩
  go_wp2_with fail
  refine (pc_none _).mono ?_
  rintro e W2 ⟨rfl, rfl⟩
  go_wp2_with fail
  refine (reg_none _ _).mono ?_
  rintro e W2 ⟨rfl, rfl⟩
  go_wp2_with fail
  refine (mem_none _).mono ?_
  rintro e W2 ⟨rfl, rfl⟩
  go_wp2_with fail
  refine (lives06 _ (HT.out _ HB2.out)).mono ?_
  rintro e W2 ⟨rfl, hl⟩
  have HB3 := Lib.hid (HB2.out.trans (hl.mono HB2.out.size))
  clear hl HB2
  go_wp2_with fail
  go_ret
  exact ⟨rfl, HB3.out⟩
set_option maxRecDepth 100000 in
set_option maxHeartbeats 2000000 in
theorem regs_high (n x pc : Int) (w : World) (ht : T3 w) (hn : 32 ≤ n) :
    Calls Tryd.prog 4 #[.int .i64 n, .int .u32 x, .int .u32 pc] w fun e w' => e = .returned (.bool true) ∧ Below w.heap.size w w' := by
  have HT := Lib.hid (fun W (h : Below w.heap.size w W) => ht.later h)
  clear ht
  have PE := ptr_eq 26 68 5 (by kernel_rfl) (by kernel_rfl)
  have EE : ∀ w, (Op.equal 38 (.agg #[.int .u32 0, .int .u32 0, .int .i64 0, .int .u32 0, .int .i64 0]) (.agg #[.int .u32 0, .int .u32 0, .int .i64 0, .int .u32 0, .int .i64 0])).run Tryd.prog w = .ok true w := fun _ => by kernel_rfl
  go_enter Tryd.func4, Tryd.ntmps4
  go_wp2_with fail
  refine (map_any _).mono ?_
  rintro e w1 ⟨rfl, b1⟩
  go_wp2_with fail
  refine (mnew _).mono ?_
  rintro e w2 ⟨m, rfl, m0, m1, b2⟩
  have B2 := Lib.hid (b1.trans (b2.mono b1.size))
  clear b1 b2
  go_wp2_with fail
  refine (cnew_any _ _ _).mono ?_
  rintro e w3 ⟨cs, rfl, hM, rfl⟩
  have c0 : (w2.alloc (.cells cs 71)).cell? ⟨w2.heap.size, 0, none⟩ = some (.pointer (some ⟨m, 0, none⟩)) := by rw [World.cell?_alloc_new]; exact hM.mem
  have c1 : (w2.alloc (.cells cs 71)).cell? ⟨w2.heap.size, 1, none⟩ = some (.int .u32 pc) := by rw [World.cell?_alloc_new]; exact hM.pc
  have cr : ∀ k, k < 32 → (w2.alloc (.cells cs 71)).cell? ⟨w2.heap.size, 2 + k, none⟩ = some (.int .u32 0) := fun k hk => by rw [World.cell?_alloc_new]; exact hM.reg k hk
  have cf : ∀ k, (w2.alloc (.cells cs 71)).frozen? ⟨w2.heap.size, k, none⟩ = false := fun k => by simp
  have hB : Below w.heap.size w (w2.alloc (.cells cs 71)) := B2.out.alloc B2.out.size _
  have hz : w2.heap.size < (w2.alloc (.cells cs 71)).heap.size := by simp
  have hb0 : w.heap.size ≤ w2.heap.size := B2.out.size
  clear B2 hM m0 m1
  generalize w2.alloc (.cells cs 71) = W at c0 c1 cr cf hB hz
  generalize w2.heap.size = B at c0 c1 cr cf hz hb0
  have CR := Lib.hid cr
  have CF := Lib.hid cf
  have HB := Lib.hid hB
  clear cr cf hB
  go_wp2_with fail
  refine (pc_some B pc W c1).mono ?_
  rintro e W1 ⟨rfl, rfl⟩
  go_wp2_with fail
  refine (set_out B _ x W (by omega)).mono ?_
  rintro e W1 ⟨rfl, rfl⟩
  have R0' := Lib.hid (CR.out 0 (by omega))
  clear c1 CR CF
  go_wp2_with fail
  refine (cnew_none _ _).mono ?_
  rintro e W1 ⟨rfl, rfl⟩
  go_wp2_with fail
  refine (set_none _ _ _).mono ?_
  rintro e W1 ⟨rfl, rfl⟩
  go_wp2_with fail
  refine (step_none _).mono ?_
  rintro e W1 ⟨rfl, hs⟩
  have hz1 : B < W1.heap.size := Nat.lt_of_lt_of_le hz hs.size
  have d0 : W1.cell? ⟨B, 0, none⟩ = some (.pointer (some ⟨m, 0, none⟩)) := (hs.cell (p := ⟨B, 0, none⟩) hz).trans c0
  have dr0 : W1.cell? ⟨B, 2 + 0, none⟩ = some (.int .u32 0) := (hs.cell (p := ⟨B, 2 + 0, none⟩) hz).trans R0'.out
  have HB1 := Lib.hid (HB.out.trans (hs.mono HB.out.size))
  clear hs c0 HB hz
  have D0 := Lib.hid d0
  have DR0 := Lib.hid dr0
  clear d0 dr0
  go_wp2_with fail
  have hV2 : Below W1.heap.size W1 (W1.alloc (.cells #[.int .u32 0, .int .u32 0, .int .i64 0, .int .u32 0, .int .i64 0] 38)) := (Below.refl _ _).alloc (Nat.le_refl _) _
  have k0 : (W1.alloc (.cells #[.int .u32 0, .int .u32 0, .int .i64 0, .int .u32 0, .int .i64 0] 38)).cell? ⟨W1.heap.size, 0, none⟩ = some (.int .u32 0) := by simp
  have k1 : (W1.alloc (.cells #[.int .u32 0, .int .u32 0, .int .i64 0, .int .u32 0, .int .i64 0] 38)).cell? ⟨W1.heap.size, 1, none⟩ = some (.int .u32 0) := by simp
  have k2 : (W1.alloc (.cells #[.int .u32 0, .int .u32 0, .int .i64 0, .int .u32 0, .int .i64 0] 38)).cell? ⟨W1.heap.size, 2, none⟩ = some (.int .i64 0) := by simp
  have k3 : (W1.alloc (.cells #[.int .u32 0, .int .u32 0, .int .i64 0, .int .u32 0, .int .i64 0] 38)).cell? ⟨W1.heap.size, 3, none⟩ = some (.int .u32 0) := by simp
  have k4 : (W1.alloc (.cells #[.int .u32 0, .int .u32 0, .int .i64 0, .int .u32 0, .int .i64 0] 38)).cell? ⟨W1.heap.size, 4, none⟩ = some (.int .i64 0) := by simp
  generalize W1.alloc (.cells #[.int .u32 0, .int .u32 0, .int .i64 0, .int .u32 0, .int .i64 0] 38) = V at hV2 k0 k1 k2 k3 k4
  have g0 : V.cell? ⟨B, 0, none⟩ = some (.pointer (some ⟨m, 0, none⟩)) := (hV2.cell (p := ⟨B, 0, none⟩) hz1).trans D0.out
  have gr0 : V.cell? ⟨B, 2 + 0, none⟩ = some (.int .u32 0) := (hV2.cell (p := ⟨B, 2 + 0, none⟩) hz1).trans DR0.out
  have HB2 := Lib.hid (HB1.out.trans (hV2.mono HB1.out.size))
  generalize W1.heap.size = E at k0 k1 k2 k3 k4
  clear hV2 D0 DR0 HB1 hz1
  refine (reg_out B n V (by omega)).mono ?_
  rintro e W2 ⟨rfl, rfl⟩
  go_wp2_with fail
  refine (reg_in B 0 0 V (by omega) gr0).mono ?_
  rintro e W2 ⟨rfl, rfl⟩
  go_wp2_with fail
  refine (mem_some B _ V g0).mono ?_
  rintro e W2 ⟨rfl, rfl⟩
  go_wp2_with fail
  refine (pc_none _).mono ?_
  rintro e W2 ⟨rfl, rfl⟩
  go_wp2_with fail
  refine (reg_none _ _).mono ?_
  rintro e W2 ⟨rfl, rfl⟩
  go_wp2_with fail
  refine (mem_none _).mono ?_
  rintro e W2 ⟨rfl, rfl⟩
  go_wp2_with fail
  refine (lives06 _ (HT.out _ HB2.out)).mono ?_
  rintro e W2 ⟨rfl, hl⟩
  have HB3 := Lib.hid (HB2.out.trans (hl.mono HB2.out.size))
  clear hl HB2
  go_wp2_with fail
  go_ret
  exact ⟨rfl, HB3.out⟩
set_option maxRecDepth 100000 in
set_option maxHeartbeats 2000000 in
theorem regs_zero (x pc : Int) (w : World) (ht : T3 w) :
    Calls Tryd.prog 4 #[.int .i64 0, .int .u32 x, .int .u32 pc] w fun e w' => e = .returned (.bool true) ∧ Below w.heap.size w w' := by
  have HT := Lib.hid (fun W (h : Below w.heap.size w W) => ht.later h)
  clear ht
  have PE := ptr_eq 26 68 5 (by kernel_rfl) (by kernel_rfl)
  have EE : ∀ w, (Op.equal 38 (.agg #[.int .u32 0, .int .u32 0, .int .i64 0, .int .u32 0, .int .i64 0]) (.agg #[.int .u32 0, .int .u32 0, .int .i64 0, .int .u32 0, .int .i64 0])).run Tryd.prog w = .ok true w := fun _ => by kernel_rfl
  go_enter Tryd.func4, Tryd.ntmps4
  go_wp2_with fail
  refine (map_any _).mono ?_
  rintro e w1 ⟨rfl, b1⟩
  go_wp2_with fail
  refine (mnew _).mono ?_
  rintro e w2 ⟨m, rfl, m0, m1, b2⟩
  have B2 := Lib.hid (b1.trans (b2.mono b1.size))
  clear b1 b2
  go_wp2_with fail
  refine (cnew_any _ _ _).mono ?_
  rintro e w3 ⟨cs, rfl, hM, rfl⟩
  have c0 : (w2.alloc (.cells cs 71)).cell? ⟨w2.heap.size, 0, none⟩ = some (.pointer (some ⟨m, 0, none⟩)) := by rw [World.cell?_alloc_new]; exact hM.mem
  have c1 : (w2.alloc (.cells cs 71)).cell? ⟨w2.heap.size, 1, none⟩ = some (.int .u32 pc) := by rw [World.cell?_alloc_new]; exact hM.pc
  have cr : ∀ k, k < 32 → (w2.alloc (.cells cs 71)).cell? ⟨w2.heap.size, 2 + k, none⟩ = some (.int .u32 0) := fun k hk => by rw [World.cell?_alloc_new]; exact hM.reg k hk
  have cf : ∀ k, (w2.alloc (.cells cs 71)).frozen? ⟨w2.heap.size, k, none⟩ = false := fun k => by simp
  have hB : Below w.heap.size w (w2.alloc (.cells cs 71)) := B2.out.alloc B2.out.size _
  have hz : w2.heap.size < (w2.alloc (.cells cs 71)).heap.size := by simp
  have hb0 : w.heap.size ≤ w2.heap.size := B2.out.size
  clear B2 hM m0 m1
  generalize w2.alloc (.cells cs 71) = W at c0 c1 cr cf hB hz
  generalize w2.heap.size = B at c0 c1 cr cf hz hb0
  have CR := Lib.hid cr
  have CF := Lib.hid cf
  have HB := Lib.hid hB
  clear cr cf hB
  go_wp2_with fail
  refine (pc_some B pc W c1).mono ?_
  rintro e W1 ⟨rfl, rfl⟩
  go_wp2_with fail
  refine (set_out B _ x W (by omega)).mono ?_
  rintro e W1 ⟨rfl, rfl⟩
  have R0' := Lib.hid (CR.out 0 (by omega))
  clear c1 CR CF
  go_wp2_with fail
  refine (cnew_none _ _).mono ?_
  rintro e W1 ⟨rfl, rfl⟩
  go_wp2_with fail
  refine (set_none _ _ _).mono ?_
  rintro e W1 ⟨rfl, rfl⟩
  go_wp2_with fail
  refine (step_none _).mono ?_
  rintro e W1 ⟨rfl, hs⟩
  have hz1 : B < W1.heap.size := Nat.lt_of_lt_of_le hz hs.size
  have d0 : W1.cell? ⟨B, 0, none⟩ = some (.pointer (some ⟨m, 0, none⟩)) := (hs.cell (p := ⟨B, 0, none⟩) hz).trans c0
  have dr0 : W1.cell? ⟨B, 2 + 0, none⟩ = some (.int .u32 0) := (hs.cell (p := ⟨B, 2 + 0, none⟩) hz).trans R0'.out
  have HB1 := Lib.hid (HB.out.trans (hs.mono HB.out.size))
  clear hs c0 HB hz
  have D0 := Lib.hid d0
  have DR0 := Lib.hid dr0
  clear d0 dr0
  go_wp2_with fail
  have hV2 : Below W1.heap.size W1 (W1.alloc (.cells #[.int .u32 0, .int .u32 0, .int .i64 0, .int .u32 0, .int .i64 0] 38)) := (Below.refl _ _).alloc (Nat.le_refl _) _
  have k0 : (W1.alloc (.cells #[.int .u32 0, .int .u32 0, .int .i64 0, .int .u32 0, .int .i64 0] 38)).cell? ⟨W1.heap.size, 0, none⟩ = some (.int .u32 0) := by simp
  have k1 : (W1.alloc (.cells #[.int .u32 0, .int .u32 0, .int .i64 0, .int .u32 0, .int .i64 0] 38)).cell? ⟨W1.heap.size, 1, none⟩ = some (.int .u32 0) := by simp
  have k2 : (W1.alloc (.cells #[.int .u32 0, .int .u32 0, .int .i64 0, .int .u32 0, .int .i64 0] 38)).cell? ⟨W1.heap.size, 2, none⟩ = some (.int .i64 0) := by simp
  have k3 : (W1.alloc (.cells #[.int .u32 0, .int .u32 0, .int .i64 0, .int .u32 0, .int .i64 0] 38)).cell? ⟨W1.heap.size, 3, none⟩ = some (.int .u32 0) := by simp
  have k4 : (W1.alloc (.cells #[.int .u32 0, .int .u32 0, .int .i64 0, .int .u32 0, .int .i64 0] 38)).cell? ⟨W1.heap.size, 4, none⟩ = some (.int .i64 0) := by simp
  generalize W1.alloc (.cells #[.int .u32 0, .int .u32 0, .int .i64 0, .int .u32 0, .int .i64 0] 38) = V at hV2 k0 k1 k2 k3 k4
  have g0 : V.cell? ⟨B, 0, none⟩ = some (.pointer (some ⟨m, 0, none⟩)) := (hV2.cell (p := ⟨B, 0, none⟩) hz1).trans D0.out
  have gr0 : V.cell? ⟨B, 2 + 0, none⟩ = some (.int .u32 0) := (hV2.cell (p := ⟨B, 2 + 0, none⟩) hz1).trans DR0.out
  have HB2 := Lib.hid (HB1.out.trans (hV2.mono HB1.out.size))
  generalize W1.heap.size = E at k0 k1 k2 k3 k4
  clear hV2 D0 DR0 HB1 hz1
  refine (reg_in B 0 0 V (by omega) gr0).mono ?_
  rintro e W2 ⟨rfl, rfl⟩
  go_wp2_with fail
  refine (reg_in B 0 0 V (by omega) gr0).mono ?_
  rintro e W2 ⟨rfl, rfl⟩
  go_wp2_with fail
  refine (mem_some B _ V g0).mono ?_
  rintro e W2 ⟨rfl, rfl⟩
  go_wp2_with fail
  refine (pc_none _).mono ?_
  rintro e W2 ⟨rfl, rfl⟩
  go_wp2_with fail
  refine (reg_none _ _).mono ?_
  rintro e W2 ⟨rfl, rfl⟩
  go_wp2_with fail
  refine (mem_none _).mono ?_
  rintro e W2 ⟨rfl, rfl⟩
  go_wp2_with fail
  refine (lives06 _ (HT.out _ HB2.out)).mono ?_
  rintro e W2 ⟨rfl, hl⟩
  have HB3 := Lib.hid (HB2.out.trans (hl.mono HB2.out.size))
  clear hl HB2
  go_wp2_with fail
  go_ret
  exact ⟨rfl, HB3.out⟩
set_option maxRecDepth 100000 in
set_option maxHeartbeats 2000000 in
theorem regs_in (x pc : Int) (w : World) (ht : T3 w) (k : Nat) (h1 : 1 ≤ k) (hk : k < 32) :
    Calls Tryd.prog 4 #[.int .i64 (k : Int), .int .u32 x, .int .u32 pc] w fun e w' => e = .returned (.bool true) ∧ Below w.heap.size w w' := by
  have HT := Lib.hid (fun W (h : Below w.heap.size w W) => ht.later h)
  clear ht
  have PE := ptr_eq 26 68 5 (by kernel_rfl) (by kernel_rfl)
  have EE : ∀ w, (Op.equal 38 (.agg #[.int .u32 0, .int .u32 0, .int .i64 0, .int .u32 0, .int .i64 0]) (.agg #[.int .u32 0, .int .u32 0, .int .i64 0, .int .u32 0, .int .i64 0])).run Tryd.prog w = .ok true w := fun _ => by kernel_rfl
  go_enter Tryd.func4, Tryd.ntmps4
  go_wp2_with fail
  refine (map_any _).mono ?_
  rintro e w1 ⟨rfl, b1⟩
  go_wp2_with fail
  refine (mnew _).mono ?_
  rintro e w2 ⟨m, rfl, m0, m1, b2⟩
  have B2 := Lib.hid (b1.trans (b2.mono b1.size))
  clear b1 b2
  go_wp2_with fail
  refine (cnew_any _ _ _).mono ?_
  rintro e w3 ⟨cs, rfl, hM, rfl⟩
  have c0 : (w2.alloc (.cells cs 71)).cell? ⟨w2.heap.size, 0, none⟩ = some (.pointer (some ⟨m, 0, none⟩)) := by rw [World.cell?_alloc_new]; exact hM.mem
  have c1 : (w2.alloc (.cells cs 71)).cell? ⟨w2.heap.size, 1, none⟩ = some (.int .u32 pc) := by rw [World.cell?_alloc_new]; exact hM.pc
  have cr : ∀ k, k < 32 → (w2.alloc (.cells cs 71)).cell? ⟨w2.heap.size, 2 + k, none⟩ = some (.int .u32 0) := fun k hk => by rw [World.cell?_alloc_new]; exact hM.reg k hk
  have cf : ∀ k, (w2.alloc (.cells cs 71)).frozen? ⟨w2.heap.size, k, none⟩ = false := fun k => by simp
  have hB : Below w.heap.size w (w2.alloc (.cells cs 71)) := B2.out.alloc B2.out.size _
  have hz : w2.heap.size < (w2.alloc (.cells cs 71)).heap.size := by simp
  have hb0 : w.heap.size ≤ w2.heap.size := B2.out.size
  clear B2 hM m0 m1
  generalize w2.alloc (.cells cs 71) = W at c0 c1 cr cf hB hz
  generalize w2.heap.size = B at c0 c1 cr cf hz hb0
  have CR := Lib.hid cr
  have CF := Lib.hid cf
  have HB := Lib.hid hB
  clear cr cf hB
  go_wp2_with fail
  refine (pc_some B pc W c1).mono ?_
  rintro e W1 ⟨rfl, rfl⟩
  go_wp2_with fail
  have hk0 : (0 : Int) < k := by omega
  have hk1 : (k : Int) < 32 := by omega
  refine (set_in B k x 0 W h1 hk (CR.out k hk) (CF.out _)).mono ?_
  rintro e W1 ⟨rfl, rfl⟩
  have n0 : (⟨B, 2 + k, none⟩ : Addr) ≠ ⟨B, 0, none⟩ := by intro h; injection h with _ h; omega
  have n2 : (⟨B, 2 + k, none⟩ : Addr) ≠ ⟨B, 2 + 0, none⟩ := by intro h; injection h with _ h; omega
  have c0' : (W.setCell ⟨B, 2 + k, none⟩ (.int .u32 x)).cell? ⟨B, 0, none⟩ = some (.pointer (some ⟨m, 0, none⟩)) := (World.cell?_setCell_other W _ _ _ n0).trans c0
  have r0 : (W.setCell ⟨B, 2 + k, none⟩ (.int .u32 x)).cell? ⟨B, 2 + 0, none⟩ = some (.int .u32 0) := (World.cell?_setCell_other W _ _ _ n2).trans (CR.out 0 (by omega))
  have rk : (W.setCell ⟨B, 2 + k, none⟩ (.int .u32 x)).cell? ⟨B, 2 + k, none⟩ = some (.int .u32 x) := World.cell?_setCell_same W _ _ (CR.out k hk)
  have hB' : Below w.heap.size w (W.setCell ⟨B, 2 + k, none⟩ (.int .u32 x)) := HB.out.setCell hb0 _
  have hz' : B < (W.setCell ⟨B, 2 + k, none⟩ (.int .u32 x)).heap.size := by simpa using hz
  clear c0 c1 HB hz n0 n2 CR CF
  generalize W.setCell ⟨B, 2 + k, none⟩ (.int .u32 x) = W' at c0' r0 rk hB' hz'
  have c0 := c0'
  have hz := hz'
  clear c0' hz'
  have R0' := Lib.hid r0
  have RK := Lib.hid rk
  have HB := Lib.hid hB'
  clear r0 rk hB'
  go_wp2_with fail
  refine (cnew_none _ _).mono ?_
  rintro e W1 ⟨rfl, rfl⟩
  go_wp2_with fail
  refine (set_none _ _ _).mono ?_
  rintro e W1 ⟨rfl, rfl⟩
  go_wp2_with fail
  refine (step_none _).mono ?_
  rintro e W1 ⟨rfl, hs⟩
  have hz1 : B < W1.heap.size := Nat.lt_of_lt_of_le hz hs.size
  have d0 : W1.cell? ⟨B, 0, none⟩ = some (.pointer (some ⟨m, 0, none⟩)) := (hs.cell (p := ⟨B, 0, none⟩) hz).trans c0
  have dr0 : W1.cell? ⟨B, 2 + 0, none⟩ = some (.int .u32 0) := (hs.cell (p := ⟨B, 2 + 0, none⟩) hz).trans R0'.out
  have dk : W1.cell? ⟨B, 2 + k, none⟩ = some (.int .u32 x) := (hs.cell (p := ⟨B, 2 + k, none⟩) hz).trans RK.out
  have HB1 := Lib.hid (HB.out.trans (hs.mono HB.out.size))
  clear hs c0 HB hz
  have D0 := Lib.hid d0
  have DR0 := Lib.hid dr0
  have DK := Lib.hid dk
  clear dk
  clear d0 dr0
  go_wp2_with fail
  have hV2 : Below W1.heap.size W1 (W1.alloc (.cells #[.int .u32 0, .int .u32 0, .int .i64 0, .int .u32 0, .int .i64 0] 38)) := (Below.refl _ _).alloc (Nat.le_refl _) _
  have k0 : (W1.alloc (.cells #[.int .u32 0, .int .u32 0, .int .i64 0, .int .u32 0, .int .i64 0] 38)).cell? ⟨W1.heap.size, 0, none⟩ = some (.int .u32 0) := by simp
  have k1 : (W1.alloc (.cells #[.int .u32 0, .int .u32 0, .int .i64 0, .int .u32 0, .int .i64 0] 38)).cell? ⟨W1.heap.size, 1, none⟩ = some (.int .u32 0) := by simp
  have k2 : (W1.alloc (.cells #[.int .u32 0, .int .u32 0, .int .i64 0, .int .u32 0, .int .i64 0] 38)).cell? ⟨W1.heap.size, 2, none⟩ = some (.int .i64 0) := by simp
  have k3 : (W1.alloc (.cells #[.int .u32 0, .int .u32 0, .int .i64 0, .int .u32 0, .int .i64 0] 38)).cell? ⟨W1.heap.size, 3, none⟩ = some (.int .u32 0) := by simp
  have k4 : (W1.alloc (.cells #[.int .u32 0, .int .u32 0, .int .i64 0, .int .u32 0, .int .i64 0] 38)).cell? ⟨W1.heap.size, 4, none⟩ = some (.int .i64 0) := by simp
  generalize W1.alloc (.cells #[.int .u32 0, .int .u32 0, .int .i64 0, .int .u32 0, .int .i64 0] 38) = V at hV2 k0 k1 k2 k3 k4
  have g0 : V.cell? ⟨B, 0, none⟩ = some (.pointer (some ⟨m, 0, none⟩)) := (hV2.cell (p := ⟨B, 0, none⟩) hz1).trans D0.out
  have gr0 : V.cell? ⟨B, 2 + 0, none⟩ = some (.int .u32 0) := (hV2.cell (p := ⟨B, 2 + 0, none⟩) hz1).trans DR0.out
  have gk : V.cell? ⟨B, 2 + k, none⟩ = some (.int .u32 x) := (hV2.cell (p := ⟨B, 2 + k, none⟩) hz1).trans DK.out
  have HB2 := Lib.hid (HB1.out.trans (hV2.mono HB1.out.size))
  generalize W1.heap.size = E at k0 k1 k2 k3 k4
  clear hV2 D0 DR0 HB1 hz1
  refine (reg_in B k x V hk gk).mono ?_
  rintro e W2 ⟨rfl, rfl⟩
  go_wp2_with fail
  refine (reg_in B 0 0 V (by omega) gr0).mono ?_
  rintro e W2 ⟨rfl, rfl⟩
  go_wp2_with fail
  refine (mem_some B _ V g0).mono ?_
  rintro e W2 ⟨rfl, rfl⟩
  go_wp2_with fail
  refine (pc_none _).mono ?_
  rintro e W2 ⟨rfl, rfl⟩
  go_wp2_with fail
  refine (reg_none _ _).mono ?_
  rintro e W2 ⟨rfl, rfl⟩
  go_wp2_with fail
  refine (mem_none _).mono ?_
  rintro e W2 ⟨rfl, rfl⟩
  go_wp2_with fail
  refine (lives06 _ (HT.out _ HB2.out)).mono ?_
  rintro e W2 ⟨rfl, hl⟩
  have HB3 := Lib.hid (HB2.out.trans (hl.mono HB2.out.size))
  clear hl HB2
  go_wp2_with fail
  go_ret
  exact ⟨rfl, HB3.out⟩
end Go.Proofs.YtohndfcbebeemaaDoor
