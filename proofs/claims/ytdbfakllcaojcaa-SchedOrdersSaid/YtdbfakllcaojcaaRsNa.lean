/- The document's numbers. -/
import Derived.Test.YtdbfakllcaojcaaRsW
import Derived.Test.YtdbfakllcaojcaaJP
namespace Go.Proofs.Ytdbfakllcaojcaa
open Go Go.RowKit
set_option linter.unusedVariables false
set_option linter.unusedSimpArgs false
set_option maxRecDepth 100000

structure NAt (W : World) (B : Nat) (g : GrQ) (n : Nd) : Prop where
  g : RowAt W B (grC g)
  n : RowAt W (B + 1) n.cells
theorem NAt.over {W W' : World} {B : Nat} {g : GrQ} {n : Nd} (h : NAt W B g n) (hb : Below W.heap.size W W') : NAt W' B g n := ⟨h.g.over hb, h.n.over hb⟩
theorem NAt.new (w : World) (g : GrQ) (n : Nd) : NAt ((w.alloc (.cells #[.int .i64 g.x, .int .i64 g.y, .int .i64 g.z, .slice g.ca g.C.length g.cc, .slice g.na g.ns.length g.nc, .int .i64 g.o] 26)).alloc (.cells n.cells.toArray 57)) w.heap.size g n := by
  have al := fun (W : World) (o : Obj) => Below.alloc (Below.refl W.heap.size W) (Nat.le_refl _) o
  have h0 := RowAt.new w (grC g) 26
  have h1 := RowAt.new (w.alloc (.cells (grC g).toArray 26)) n.cells 57
  rw [size_alloc1] at h1
  exact ⟨h0.over (al _ _), h1⟩
/-- the bounds alone -/
def basicB (n : Nd) : Bool := smallB n.za && smallB n.zb && smallB n.zo && smallB n.lo && smallB n.hi && decide (n.lo ≤ n.hi ∧ 0 ≤ n.m1 ∧ 0 ≤ n.m2 ∧ 0 ≤ n.t1 ∧ n.t1 ≤ 31 ∧ 0 ≤ n.t2 ∧ n.t2 ≤ 31)
theorem numbers_basic {C : List Cn} {n : Nd} (h : basicB n = false) : numbersB C n = false := by
  unfold numbersB
  unfold basicB at h
  rw [h]; simp
set_option maxHeartbeats 8000000 in
theorem rnum_bad (g : GrQ) (n : Nd) (w : World) (h : basicB n = false) : Calls Try.prog 36 #[g.val, .agg n.cells.toArray] w fun e w' => e = .returned (.bool false) ∧ Below w.heap.size w w' := by
  obtain ⟨gx, gy, gz, ca, cc, C, na, nc, ns, go⟩ := g
  (try dsimp only at *)
  unfold GrQ.val
  (try dsimp only at *)
  have NEW := Lib.hid (NAt.new w ⟨gx, gy, gz, ca, cc, C, na, nc, ns, go⟩ n)
  dsimp only at NEW
  have BN : Below w.heap.size w ((w.alloc (.cells #[.int .i64 gx, .int .i64 gy, .int .i64 gz, .slice ca C.length cc, .slice na ns.length nc, .int .i64 go] 26)).alloc (.cells n.cells.toArray 57)) := by go_grown
  have BW := Lib.hid BN
  clear BN
  have SM0 := Lib.hid (fun W => rsmall n.za W)
  have SM1 := Lib.hid (fun W => rsmall n.zb W)
  have SM2 := Lib.hid (fun W => rsmall n.zo W)
  have SM3 := Lib.hid (fun W => rsmall n.lo W)
  have SM4 := Lib.hid (fun W => rsmall n.hi W)
  cases s0 : smallB n.za
  · rw [s0] at SM0
    clear h
    go_enter Try.func36, Try.ntmps36
    go_upto_region 1 with fail
    have RO := NEW
    clear NEW
    generalize (w.alloc (.cells #[.int .i64 gx, .int .i64 gy, .int .i64 gz, .slice ca C.length cc, .slice na ns.length nc, .int .i64 go] 26)).alloc (.cells n.cells.toArray 57) = W1 at *
    have cn0 := RO.out.n.cell 0 _ rfl
    have cn11 := RO.out.n.cell 11 _ rfl
    have cn12 := RO.out.n.cell 12 _ rfl
    have cn13 := RO.out.n.cell 13 _ rfl
    have cn18 := RO.out.n.cell 18 _ rfl
    have cn19 := RO.out.n.cell 19 _ rfl
    have cn14 := RO.out.n.cell 14 _ rfl
    have cn15 := RO.out.n.cell 15 _ rfl
    have cn16 := RO.out.n.cell 16 _ rfl
    have cn17 := RO.out.n.cell 17 _ rfl
    have ln := RO.out.n.lt
    have lg := RO.out.g.lt
    go_wp2_with (first | (go_at_call 55; (first | (with_reducible refine (SM0.out _).mono ?_) | (with_reducible refine (SM1.out _).mono ?_) | (with_reducible refine (SM2.out _).mono ?_) | (with_reducible refine (SM3.out _).mono ?_) | (with_reducible refine (SM4.out _).mono ?_)); rintro e w9 ⟨rfl, rfl⟩))
    go_ret
    exact ⟨rfl, BW.out⟩
  rw [s0] at SM0
  cases s1 : smallB n.zb
  · rw [s1] at SM1
    clear h
    go_enter Try.func36, Try.ntmps36
    go_upto_region 1 with fail
    have RO := NEW
    clear NEW
    generalize (w.alloc (.cells #[.int .i64 gx, .int .i64 gy, .int .i64 gz, .slice ca C.length cc, .slice na ns.length nc, .int .i64 go] 26)).alloc (.cells n.cells.toArray 57) = W1 at *
    have cn0 := RO.out.n.cell 0 _ rfl
    have cn11 := RO.out.n.cell 11 _ rfl
    have cn12 := RO.out.n.cell 12 _ rfl
    have cn13 := RO.out.n.cell 13 _ rfl
    have cn18 := RO.out.n.cell 18 _ rfl
    have cn19 := RO.out.n.cell 19 _ rfl
    have cn14 := RO.out.n.cell 14 _ rfl
    have cn15 := RO.out.n.cell 15 _ rfl
    have cn16 := RO.out.n.cell 16 _ rfl
    have cn17 := RO.out.n.cell 17 _ rfl
    have ln := RO.out.n.lt
    have lg := RO.out.g.lt
    go_wp2_with (first | (go_at_call 55; (first | (with_reducible refine (SM0.out _).mono ?_) | (with_reducible refine (SM1.out _).mono ?_) | (with_reducible refine (SM2.out _).mono ?_) | (with_reducible refine (SM3.out _).mono ?_) | (with_reducible refine (SM4.out _).mono ?_)); rintro e w9 ⟨rfl, rfl⟩))
    go_ret
    exact ⟨rfl, BW.out⟩
  rw [s1] at SM1
  cases s2 : smallB n.zo
  · rw [s2] at SM2
    clear h
    go_enter Try.func36, Try.ntmps36
    go_upto_region 1 with fail
    have RO := NEW
    clear NEW
    generalize (w.alloc (.cells #[.int .i64 gx, .int .i64 gy, .int .i64 gz, .slice ca C.length cc, .slice na ns.length nc, .int .i64 go] 26)).alloc (.cells n.cells.toArray 57) = W1 at *
    have cn0 := RO.out.n.cell 0 _ rfl
    have cn11 := RO.out.n.cell 11 _ rfl
    have cn12 := RO.out.n.cell 12 _ rfl
    have cn13 := RO.out.n.cell 13 _ rfl
    have cn18 := RO.out.n.cell 18 _ rfl
    have cn19 := RO.out.n.cell 19 _ rfl
    have cn14 := RO.out.n.cell 14 _ rfl
    have cn15 := RO.out.n.cell 15 _ rfl
    have cn16 := RO.out.n.cell 16 _ rfl
    have cn17 := RO.out.n.cell 17 _ rfl
    have ln := RO.out.n.lt
    have lg := RO.out.g.lt
    go_wp2_with (first | (go_at_call 55; (first | (with_reducible refine (SM0.out _).mono ?_) | (with_reducible refine (SM1.out _).mono ?_) | (with_reducible refine (SM2.out _).mono ?_) | (with_reducible refine (SM3.out _).mono ?_) | (with_reducible refine (SM4.out _).mono ?_)); rintro e w9 ⟨rfl, rfl⟩))
    go_ret
    exact ⟨rfl, BW.out⟩
  rw [s2] at SM2
  cases s3 : smallB n.lo
  · rw [s3] at SM3
    clear h
    go_enter Try.func36, Try.ntmps36
    go_upto_region 1 with fail
    have RO := NEW
    clear NEW
    generalize (w.alloc (.cells #[.int .i64 gx, .int .i64 gy, .int .i64 gz, .slice ca C.length cc, .slice na ns.length nc, .int .i64 go] 26)).alloc (.cells n.cells.toArray 57) = W1 at *
    have cn0 := RO.out.n.cell 0 _ rfl
    have cn11 := RO.out.n.cell 11 _ rfl
    have cn12 := RO.out.n.cell 12 _ rfl
    have cn13 := RO.out.n.cell 13 _ rfl
    have cn18 := RO.out.n.cell 18 _ rfl
    have cn19 := RO.out.n.cell 19 _ rfl
    have cn14 := RO.out.n.cell 14 _ rfl
    have cn15 := RO.out.n.cell 15 _ rfl
    have cn16 := RO.out.n.cell 16 _ rfl
    have cn17 := RO.out.n.cell 17 _ rfl
    have ln := RO.out.n.lt
    have lg := RO.out.g.lt
    go_wp2_with (first | (go_at_call 55; (first | (with_reducible refine (SM0.out _).mono ?_) | (with_reducible refine (SM1.out _).mono ?_) | (with_reducible refine (SM2.out _).mono ?_) | (with_reducible refine (SM3.out _).mono ?_) | (with_reducible refine (SM4.out _).mono ?_)); rintro e w9 ⟨rfl, rfl⟩))
    go_ret
    exact ⟨rfl, BW.out⟩
  rw [s3] at SM3
  cases s4 : smallB n.hi
  · rw [s4] at SM4
    clear h
    go_enter Try.func36, Try.ntmps36
    go_upto_region 1 with fail
    have RO := NEW
    clear NEW
    generalize (w.alloc (.cells #[.int .i64 gx, .int .i64 gy, .int .i64 gz, .slice ca C.length cc, .slice na ns.length nc, .int .i64 go] 26)).alloc (.cells n.cells.toArray 57) = W1 at *
    have cn0 := RO.out.n.cell 0 _ rfl
    have cn11 := RO.out.n.cell 11 _ rfl
    have cn12 := RO.out.n.cell 12 _ rfl
    have cn13 := RO.out.n.cell 13 _ rfl
    have cn18 := RO.out.n.cell 18 _ rfl
    have cn19 := RO.out.n.cell 19 _ rfl
    have cn14 := RO.out.n.cell 14 _ rfl
    have cn15 := RO.out.n.cell 15 _ rfl
    have cn16 := RO.out.n.cell 16 _ rfl
    have cn17 := RO.out.n.cell 17 _ rfl
    have ln := RO.out.n.lt
    have lg := RO.out.g.lt
    go_wp2_with (first | (go_at_call 55; (first | (with_reducible refine (SM0.out _).mono ?_) | (with_reducible refine (SM1.out _).mono ?_) | (with_reducible refine (SM2.out _).mono ?_) | (with_reducible refine (SM3.out _).mono ?_) | (with_reducible refine (SM4.out _).mono ?_)); rintro e w9 ⟨rfl, rfl⟩))
    go_ret
    exact ⟨rfl, BW.out⟩
  rw [s4] at SM4
  by_cases s5 : n.hi < n.lo
  · have s5b : decide (n.hi < n.lo) = true := by simpa using s5
    clear h
    go_enter Try.func36, Try.ntmps36
    go_upto_region 1 with fail
    have RO := NEW
    clear NEW
    generalize (w.alloc (.cells #[.int .i64 gx, .int .i64 gy, .int .i64 gz, .slice ca C.length cc, .slice na ns.length nc, .int .i64 go] 26)).alloc (.cells n.cells.toArray 57) = W1 at *
    have cn0 := RO.out.n.cell 0 _ rfl
    have cn11 := RO.out.n.cell 11 _ rfl
    have cn12 := RO.out.n.cell 12 _ rfl
    have cn13 := RO.out.n.cell 13 _ rfl
    have cn18 := RO.out.n.cell 18 _ rfl
    have cn19 := RO.out.n.cell 19 _ rfl
    have cn14 := RO.out.n.cell 14 _ rfl
    have cn15 := RO.out.n.cell 15 _ rfl
    have cn16 := RO.out.n.cell 16 _ rfl
    have cn17 := RO.out.n.cell 17 _ rfl
    have ln := RO.out.n.lt
    have lg := RO.out.g.lt
    go_wp2_with (first | (go_at_call 55; (first | (with_reducible refine (SM0.out _).mono ?_) | (with_reducible refine (SM1.out _).mono ?_) | (with_reducible refine (SM2.out _).mono ?_) | (with_reducible refine (SM3.out _).mono ?_) | (with_reducible refine (SM4.out _).mono ?_)); rintro e w9 ⟨rfl, rfl⟩))
    go_ret
    exact ⟨rfl, BW.out⟩
  have s5b : decide (n.hi < n.lo) = false := by simpa using s5
  by_cases s6 : n.m1 < 0
  · have s6b : decide (n.m1 < 0) = true := by simpa using s6
    clear h
    go_enter Try.func36, Try.ntmps36
    go_upto_region 1 with fail
    have RO := NEW
    clear NEW
    generalize (w.alloc (.cells #[.int .i64 gx, .int .i64 gy, .int .i64 gz, .slice ca C.length cc, .slice na ns.length nc, .int .i64 go] 26)).alloc (.cells n.cells.toArray 57) = W1 at *
    have cn0 := RO.out.n.cell 0 _ rfl
    have cn11 := RO.out.n.cell 11 _ rfl
    have cn12 := RO.out.n.cell 12 _ rfl
    have cn13 := RO.out.n.cell 13 _ rfl
    have cn18 := RO.out.n.cell 18 _ rfl
    have cn19 := RO.out.n.cell 19 _ rfl
    have cn14 := RO.out.n.cell 14 _ rfl
    have cn15 := RO.out.n.cell 15 _ rfl
    have cn16 := RO.out.n.cell 16 _ rfl
    have cn17 := RO.out.n.cell 17 _ rfl
    have ln := RO.out.n.lt
    have lg := RO.out.g.lt
    go_wp2_with (first | (go_at_call 55; (first | (with_reducible refine (SM0.out _).mono ?_) | (with_reducible refine (SM1.out _).mono ?_) | (with_reducible refine (SM2.out _).mono ?_) | (with_reducible refine (SM3.out _).mono ?_) | (with_reducible refine (SM4.out _).mono ?_)); rintro e w9 ⟨rfl, rfl⟩))
    go_ret
    exact ⟨rfl, BW.out⟩
  have s6b : decide (n.m1 < 0) = false := by simpa using s6
  by_cases s7 : n.m2 < 0
  · have s7b : decide (n.m2 < 0) = true := by simpa using s7
    clear h
    go_enter Try.func36, Try.ntmps36
    go_upto_region 1 with fail
    have RO := NEW
    clear NEW
    generalize (w.alloc (.cells #[.int .i64 gx, .int .i64 gy, .int .i64 gz, .slice ca C.length cc, .slice na ns.length nc, .int .i64 go] 26)).alloc (.cells n.cells.toArray 57) = W1 at *
    have cn0 := RO.out.n.cell 0 _ rfl
    have cn11 := RO.out.n.cell 11 _ rfl
    have cn12 := RO.out.n.cell 12 _ rfl
    have cn13 := RO.out.n.cell 13 _ rfl
    have cn18 := RO.out.n.cell 18 _ rfl
    have cn19 := RO.out.n.cell 19 _ rfl
    have cn14 := RO.out.n.cell 14 _ rfl
    have cn15 := RO.out.n.cell 15 _ rfl
    have cn16 := RO.out.n.cell 16 _ rfl
    have cn17 := RO.out.n.cell 17 _ rfl
    have ln := RO.out.n.lt
    have lg := RO.out.g.lt
    go_wp2_with (first | (go_at_call 55; (first | (with_reducible refine (SM0.out _).mono ?_) | (with_reducible refine (SM1.out _).mono ?_) | (with_reducible refine (SM2.out _).mono ?_) | (with_reducible refine (SM3.out _).mono ?_) | (with_reducible refine (SM4.out _).mono ?_)); rintro e w9 ⟨rfl, rfl⟩))
    go_ret
    exact ⟨rfl, BW.out⟩
  have s7b : decide (n.m2 < 0) = false := by simpa using s7
  by_cases s8 : n.t1 < 0
  · have s8b : decide (n.t1 < 0) = true := by simpa using s8
    clear h
    go_enter Try.func36, Try.ntmps36
    go_upto_region 1 with fail
    have RO := NEW
    clear NEW
    generalize (w.alloc (.cells #[.int .i64 gx, .int .i64 gy, .int .i64 gz, .slice ca C.length cc, .slice na ns.length nc, .int .i64 go] 26)).alloc (.cells n.cells.toArray 57) = W1 at *
    have cn0 := RO.out.n.cell 0 _ rfl
    have cn11 := RO.out.n.cell 11 _ rfl
    have cn12 := RO.out.n.cell 12 _ rfl
    have cn13 := RO.out.n.cell 13 _ rfl
    have cn18 := RO.out.n.cell 18 _ rfl
    have cn19 := RO.out.n.cell 19 _ rfl
    have cn14 := RO.out.n.cell 14 _ rfl
    have cn15 := RO.out.n.cell 15 _ rfl
    have cn16 := RO.out.n.cell 16 _ rfl
    have cn17 := RO.out.n.cell 17 _ rfl
    have ln := RO.out.n.lt
    have lg := RO.out.g.lt
    go_wp2_with (first | (go_at_call 55; (first | (with_reducible refine (SM0.out _).mono ?_) | (with_reducible refine (SM1.out _).mono ?_) | (with_reducible refine (SM2.out _).mono ?_) | (with_reducible refine (SM3.out _).mono ?_) | (with_reducible refine (SM4.out _).mono ?_)); rintro e w9 ⟨rfl, rfl⟩))
    go_ret
    exact ⟨rfl, BW.out⟩
  have s8b : decide (n.t1 < 0) = false := by simpa using s8
  by_cases s9 : 31 < n.t1
  · have s9b : decide (31 < n.t1) = true := by simpa using s9
    clear h
    go_enter Try.func36, Try.ntmps36
    go_upto_region 1 with fail
    have RO := NEW
    clear NEW
    generalize (w.alloc (.cells #[.int .i64 gx, .int .i64 gy, .int .i64 gz, .slice ca C.length cc, .slice na ns.length nc, .int .i64 go] 26)).alloc (.cells n.cells.toArray 57) = W1 at *
    have cn0 := RO.out.n.cell 0 _ rfl
    have cn11 := RO.out.n.cell 11 _ rfl
    have cn12 := RO.out.n.cell 12 _ rfl
    have cn13 := RO.out.n.cell 13 _ rfl
    have cn18 := RO.out.n.cell 18 _ rfl
    have cn19 := RO.out.n.cell 19 _ rfl
    have cn14 := RO.out.n.cell 14 _ rfl
    have cn15 := RO.out.n.cell 15 _ rfl
    have cn16 := RO.out.n.cell 16 _ rfl
    have cn17 := RO.out.n.cell 17 _ rfl
    have ln := RO.out.n.lt
    have lg := RO.out.g.lt
    go_wp2_with (first | (go_at_call 55; (first | (with_reducible refine (SM0.out _).mono ?_) | (with_reducible refine (SM1.out _).mono ?_) | (with_reducible refine (SM2.out _).mono ?_) | (with_reducible refine (SM3.out _).mono ?_) | (with_reducible refine (SM4.out _).mono ?_)); rintro e w9 ⟨rfl, rfl⟩))
    go_ret
    exact ⟨rfl, BW.out⟩
  have s9b : decide (31 < n.t1) = false := by simpa using s9
  by_cases s10 : n.t2 < 0
  · have s10b : decide (n.t2 < 0) = true := by simpa using s10
    clear h
    go_enter Try.func36, Try.ntmps36
    go_upto_region 1 with fail
    have RO := NEW
    clear NEW
    generalize (w.alloc (.cells #[.int .i64 gx, .int .i64 gy, .int .i64 gz, .slice ca C.length cc, .slice na ns.length nc, .int .i64 go] 26)).alloc (.cells n.cells.toArray 57) = W1 at *
    have cn0 := RO.out.n.cell 0 _ rfl
    have cn11 := RO.out.n.cell 11 _ rfl
    have cn12 := RO.out.n.cell 12 _ rfl
    have cn13 := RO.out.n.cell 13 _ rfl
    have cn18 := RO.out.n.cell 18 _ rfl
    have cn19 := RO.out.n.cell 19 _ rfl
    have cn14 := RO.out.n.cell 14 _ rfl
    have cn15 := RO.out.n.cell 15 _ rfl
    have cn16 := RO.out.n.cell 16 _ rfl
    have cn17 := RO.out.n.cell 17 _ rfl
    have ln := RO.out.n.lt
    have lg := RO.out.g.lt
    go_wp2_with (first | (go_at_call 55; (first | (with_reducible refine (SM0.out _).mono ?_) | (with_reducible refine (SM1.out _).mono ?_) | (with_reducible refine (SM2.out _).mono ?_) | (with_reducible refine (SM3.out _).mono ?_) | (with_reducible refine (SM4.out _).mono ?_)); rintro e w9 ⟨rfl, rfl⟩))
    go_ret
    exact ⟨rfl, BW.out⟩
  have s10b : decide (n.t2 < 0) = false := by simpa using s10
  by_cases s11 : 31 < n.t2
  · have s11b : decide (31 < n.t2) = true := by simpa using s11
    clear h
    go_enter Try.func36, Try.ntmps36
    go_upto_region 1 with fail
    have RO := NEW
    clear NEW
    generalize (w.alloc (.cells #[.int .i64 gx, .int .i64 gy, .int .i64 gz, .slice ca C.length cc, .slice na ns.length nc, .int .i64 go] 26)).alloc (.cells n.cells.toArray 57) = W1 at *
    have cn0 := RO.out.n.cell 0 _ rfl
    have cn11 := RO.out.n.cell 11 _ rfl
    have cn12 := RO.out.n.cell 12 _ rfl
    have cn13 := RO.out.n.cell 13 _ rfl
    have cn18 := RO.out.n.cell 18 _ rfl
    have cn19 := RO.out.n.cell 19 _ rfl
    have cn14 := RO.out.n.cell 14 _ rfl
    have cn15 := RO.out.n.cell 15 _ rfl
    have cn16 := RO.out.n.cell 16 _ rfl
    have cn17 := RO.out.n.cell 17 _ rfl
    have ln := RO.out.n.lt
    have lg := RO.out.g.lt
    go_wp2_with (first | (go_at_call 55; (first | (with_reducible refine (SM0.out _).mono ?_) | (with_reducible refine (SM1.out _).mono ?_) | (with_reducible refine (SM2.out _).mono ?_) | (with_reducible refine (SM3.out _).mono ?_) | (with_reducible refine (SM4.out _).mono ?_)); rintro e w9 ⟨rfl, rfl⟩))
    go_ret
    exact ⟨rfl, BW.out⟩
  have s11b : decide (31 < n.t2) = false := by simpa using s11
  unfold basicB at h
  rw [s0, s1, s2, s3, s4] at h
  simp at h
  omega
theorem basic_facts {n : Nd} (h : basicB n = true) : (smallB n.za = true ∧ smallB n.zb = true ∧ smallB n.zo = true ∧ smallB n.lo = true ∧ smallB n.hi = true) ∧ n.lo ≤ n.hi ∧ 0 ≤ n.m1 ∧ 0 ≤ n.m2 ∧ 0 ≤ n.t1 ∧ n.t1 ≤ 31 ∧ 0 ≤ n.t2 ∧ n.t2 ≤ 31 := by
  unfold basicB at h
  simp only [Bool.and_eq_true, decide_eq_true_eq] at h
  obtain ⟨⟨⟨⟨⟨a, b⟩, c⟩, d⟩, e⟩, f⟩ := h
  exact ⟨⟨a, b, c, d, e⟩, f⟩
end Go.Proofs.Ytdbfakllcaojcaa
