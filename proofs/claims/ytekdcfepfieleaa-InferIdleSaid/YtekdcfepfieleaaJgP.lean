/- Package infer: the judge as it lies in its block. -/
import Derived.Test.YtekdcfepfieleaaGrE
import Derived.Test.YtekdcfepfieleaaRowW
import Derived.Test.YtekdcfepfieleaaFits
import Derived.Test.YtekdcfepfieleaaWinL
import Derived.Deep.RegionHeld3
namespace Go.Proofs.Ytekdcfepfieleaa
open Go Go.RowKit
set_option linter.unusedVariables false

/-- a judge: the node, what it has, the constants, both shapes that it reads, the one that it makes, what comes out of its window -/
structure Jg where
  (n : Nd) (h : Int) (cs : Value) (a b o : Sh) (r0 r1 : Int)
def Jg.cells (j : Jg) : List Value := [.int .i64 j.n.op, .int .i64 j.n.a, .int .i64 j.n.b, .int .i64 j.n.k0, .int .i64 j.n.k1, .int .i64 j.n.s0, .int .i64 j.n.s1, .int .i64 j.n.p0, .int .i64 j.n.p1, .int .i64 j.n.p2, .int .i64 j.n.p3, .int .i64 j.n.za, .int .i64 j.n.zb, .int .i64 j.n.zo, .int .i32 j.n.m1, .int .i32 j.n.m2, .int .i64 j.n.t1, .int .i64 j.n.t2, .int .i64 j.n.lo, .int .i64 j.n.hi, .int .i64 j.n.w, .int .i64 j.n.bias, .int .i64 j.n.chans, .int .i64 j.n.h0, .int .i64 j.n.h1, .int .i64 j.n.h2, .int .i64 j.h, j.cs, .int .i64 j.a.x, .int .i64 j.a.y, .int .i64 j.a.z, .int .i64 j.b.x, .int .i64 j.b.y, .int .i64 j.b.z, .int .i64 j.o.x, .int .i64 j.o.y, .int .i64 j.o.z, .int .i64 j.r0, .int .i64 j.r1]
theorem Jg.len (j : Jg) : j.cells.length = 39 := rfl
def JAt (w : World) (J : Nat) (j : Jg) : Prop := RowAt w J j.cells
theorem JAt.later {w w' : World} {J N : Nat} {j : Jg} (h : JAt w J j) (hb : Below N w w') (hn : J < N) : JAt w' J j := RowAt.later h hb hn
theorem JAt.cell {w : World} {J : Nat} {j : Jg} (h : JAt w J j) (i : Nat) (u : Value) (hu : j.cells[i]? = some u) : w.cell? ⟨J, i, none⟩ = some u := RowAt.cell h i u hu
theorem JAt.set {w : World} {J : Nat} {j : Jg} (j' : Jg) (h : JAt w J j) (i : Nat) (v : Value) (hi : i < 39) (e : j'.cells = j.cells.set i v) : JAt (w.setCell ⟨J, i, none⟩ v) J j' := RowAt.set h i v hi e
theorem below_grown {w w' : World} (h : Below w.heap.size w w') (r : Option Nat) : w.grownBy w' r := ⟨h.os, h.tape, h.output, h.size, fun i hi _ => h.block i hi⟩
theorem grown_trans {w w1 w2 : World} {r : Option Nat} (h : w.grownBy w1 r) (g : w1.grownBy w2 r) : w.grownBy w2 r :=
  ⟨g.os.trans h.os, g.tape.trans h.tape, g.output.trans h.output, Nat.le_trans h.size g.size, fun i hi hne => (g.block i (Nat.lt_of_lt_of_le hi h.size) hne).trans (h.block i hi hne)⟩
theorem fit_eq (s : Sh) : errOf (fitsN s.x s.y s.z) = s.fit := by
  unfold fitsN Sh.fit Sh.good goodB
  by_cases h : s.x < 1 ∨ s.y < 1 ∨ s.z < 1
  · rw [if_pos h, if_pos h]; rfl
  · rw [if_neg h, if_neg h]
    cases decide (1 ≤ s.x ∧ s.x ≤ 64 ∧ 1 ≤ s.y ∧ s.y ≤ 64 ∧ 1 ≤ s.z ∧ s.z ≤ 64 ∧ s.x * s.y * s.z ≤ 16384) <;> rfl
theorem fits_sh (s : Sh) (w : World) : Calls Try.prog 10 #[.agg #[.int .i64 s.x, .int .i64 s.y, .int .i64 s.z]] w fun e w' => e = .returned (.int .i64 s.fit) ∧ Below w.heap.size w w' := by
  rw [← fit_eq]; exact fits_any s.x s.y s.z w
def sizeG (s : Sh) : Int := sizeS s.x s.y s.z
theorem size_good {s : Sh} (h : s.good = true) : sizeG s = s.size := by
  have : goodB s.x s.y s.z = true := h
  unfold sizeG sizeS; rw [if_pos this]; rfl
theorem size_sh (s : Sh) (w : World) : Calls Try.prog 41 #[.agg #[.int .i64 s.x, .int .i64 s.y, .int .i64 s.z]] w fun e w' => e = .returned (.int .i64 (sizeG s)) ∧ Below w.heap.size w w' :=
  (size_any s.x s.y s.z w).mono fun e w' ⟨h, g⟩ => ⟨h, by subst g; go_grown⟩
theorem fits_n (n : Nd) (w : World) : Calls Try.prog 10 #[.agg #[.int .i64 n.h0, .int .i64 n.h1, .int .i64 n.h2]] w fun e w' => e = .returned (.int .i64 n.sh.fit) ∧ Below w.heap.size w w' := fits_sh n.sh w
theorem size_n (n : Nd) (w : World) : Calls Try.prog 41 #[.agg #[.int .i64 n.h0, .int .i64 n.h1, .int .i64 n.h2]] w fun e w' => e = .returned (.int .i64 (sizeG n.sh)) ∧ Below w.heap.size w w' := size_sh n.sh w
theorem jwithin (n a b : Int) (w : World) : Calls Try.prog 40 #[.int .i64 n, .int .i64 a, .int .i64 b] w fun e w' => e = .returned (.bool (decide (a ≤ n ∧ n ≤ b))) ∧ w' = w := by
  by_cases h1 : a ≤ n
  · by_cases h2 : n ≤ b
    · have e : decide (a ≤ n ∧ n ≤ b) = true := decide_eq_true ⟨h1, h2⟩
      rw [e]
      clear e
      go_enter Try.func40, Try.ntmps40
      go_wp2_with fail
      go_ret
      exact ⟨rfl, rfl⟩
    · have e : decide (a ≤ n ∧ n ≤ b) = false := decide_eq_false (fun h => h2 h.2)
      rw [e]
      clear e
      go_enter Try.func40, Try.ntmps40
      go_wp2_with fail
      go_ret
      exact ⟨rfl, rfl⟩
  · have e : decide (a ≤ n ∧ n ≤ b) = false := decide_eq_false (fun h => h1 h.1)
    rw [e]
    clear e
    go_enter Try.func40, Try.ntmps40
    go_wp2_with fail
    go_ret
    exact ⟨rfl, rfl⟩
/-- what all methods of the judge's ask: what the operator has -/
structure JOk (j : Jg) : Prop where
  op : 1 ≤ j.n.op ∧ j.n.op ≤ 14
  has : j.h = hasV j.n.op
end Go.Proofs.Ytekdcfepfieleaa
