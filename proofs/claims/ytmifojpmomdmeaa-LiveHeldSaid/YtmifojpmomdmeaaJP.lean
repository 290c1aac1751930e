/- Package infer: the judge as it lies in its block. -/
import Derived.Test.YtmifojpmomdmeaaGA
import Derived.Test.YtmifojpmomdmeaaRowW
import Derived.Test.YtmifojpmomdmeaaTW
import Derived.Deep.RegionHeld3
import Derived.Test.YtmifojpmomdmeaaNdOne
namespace Go.Proofs.Ytmifojpmomdmeaa
open Go Go.RowKit
set_option linter.unusedVariables false

/-- a judge: the node, what it has, the constants, both shapes that it reads, the one that it makes, what comes out of its window -/
structure Jg where
  (n : Nd) (h : Int) (cs : Value) (a b o : Sh) (r0 r1 : Int)
def Jg.cells (j : Jg) : List Value := [.int .i64 j.n.op, .int .i64 j.n.a, .int .i64 j.n.b, .int .i64 j.n.k0, .int .i64 j.n.k1, .int .i64 j.n.s0, .int .i64 j.n.s1, .int .i64 j.n.p0, .int .i64 j.n.p1, .int .i64 j.n.p2, .int .i64 j.n.p3, .int .i64 j.n.za, .int .i64 j.n.zb, .int .i64 j.n.zo, .int .i32 j.n.m1, .int .i32 j.n.m2, .int .i64 j.n.t1, .int .i64 j.n.t2, .int .i64 j.n.lo, .int .i64 j.n.hi, .int .i64 j.n.w, .int .i64 j.n.bias, .int .i64 j.n.chans, .int .i64 j.n.h0, .int .i64 j.n.h1, .int .i64 j.n.h2, .int .i64 j.h, j.cs, .int .i64 j.a.x, .int .i64 j.a.y, .int .i64 j.a.z, .int .i64 j.b.x, .int .i64 j.b.y, .int .i64 j.b.z, .int .i64 j.o.x, .int .i64 j.o.y, .int .i64 j.o.z, .int .i64 j.r0, .int .i64 j.r1]
theorem Jg.len (j : Jg) : j.cells.length = 39 := rfl
def JAt (w : World) (J : Nat) (j : Jg) : Prop := RowAt w J j.cells
theorem JAt.later {w w' : World} {J N : Nat} {j : Jg} (h : JAt w J j) (hb : Below N w w') (hn : J < N) : JAt w' J j := RowAt.later h hb hn
theorem JAt.cell {w : World} {J : Nat} {j : Jg} (h : JAt w J j) (i : Nat) (u : Value) (hu : j.cells[i]? = some u) : w.cell? ⟨J, i, none⟩ = some u := RowAt.cell h i u hu
theorem JAt.set {w : World} {J : Nat} {j : Jg} (j' : Jg) (h : JAt w J j) (i : Nat) (v : Value) (hi : i < 39) (e : j'.cells = j.cells.set i v) : JAt (w.setCell ⟨J, i, none⟩ v) J j' := RowAt.set h i v hi e
theorem below_grown {w w' : World} (h : Below w.heap.size w w') (r : Option Nat) : w.grownBy w' r := ⟨h.os, h.tape, h.output, h.size, fun i hi _ => h.block i hi⟩
theorem grown_trans {w w1 w2 : World} {r : Option Nat} (h : w.grownBy w1 r) (g : w1.grownBy w2 r) : w.grownBy w2 r :=
  ⟨g.os.trans h.os, g.tape.trans h.tape, g.output.trans h.output, Nat.le_trans h.size g.size, fun i hi hne => (g.block i (Nat.lt_of_lt_of_le hi h.size) hne).trans (h.block i hi hne)⟩
theorem fit_eq (s : Sh) : errOf (fitsN s.x s.y s.z) = s.fit := by
  unfold fitsN Sh.fit Sh.good goodB
  by_cases h : s.x < 1 ∨ s.y < 1 ∨ s.z < 1
  · rw [if_pos h, if_pos h]; rfl
  · rw [if_neg h, if_neg h]
    cases decide (1 ≤ s.x ∧ s.x ≤ 64 ∧ 1 ≤ s.y ∧ s.y ≤ 64 ∧ 1 ≤ s.z ∧ s.z ≤ 64 ∧ s.x * s.y * s.z ≤ 16384) <;> rfl
theorem fits_sh (s : Sh) (w : World) : Calls Try.prog 36 #[.agg #[.int .i64 s.x, .int .i64 s.y, .int .i64 s.z]] w fun e w' => e = .returned (.int .i64 s.fit) ∧ Below w.heap.size w w' := by
  rw [← fit_eq]; exact fits_any s.x s.y s.z w
def sizeG (s : Sh) : Int := sizeS s.x s.y s.z
theorem size_good {s : Sh} (h : s.good = true) : sizeG s = s.size := by
  have : goodB s.x s.y s.z = true := h
  unfold sizeG sizeS; rw [if_pos this]; rfl
theorem size_sh (s : Sh) (w : World) : Calls Try.prog 20 #[.agg #[.int .i64 s.x, .int .i64 s.y, .int .i64 s.z]] w fun e w' => e = .returned (.int .i64 (sizeG s)) ∧ Below w.heap.size w w' :=
  (size_any s.x s.y s.z w).mono fun e w' ⟨h, g⟩ => ⟨h, by subst g; go_grown⟩
theorem fits_n (n : Nd) (w : World) : Calls Try.prog 36 #[.agg #[.int .i64 n.h0, .int .i64 n.h1, .int .i64 n.h2]] w fun e w' => e = .returned (.int .i64 n.sh.fit) ∧ Below w.heap.size w w' := fits_sh n.sh w
theorem size_n (n : Nd) (w : World) : Calls Try.prog 20 #[.agg #[.int .i64 n.h0, .int .i64 n.h1, .int .i64 n.h2]] w fun e w' => e = .returned (.int .i64 (sizeG n.sh)) ∧ Below w.heap.size w w' := size_sh n.sh w
theorem jwithin (n a b : Int) (w : World) : Calls Try.prog 82 #[.int .i64 n, .int .i64 a, .int .i64 b] w fun e w' => e = .returned (.bool (decide (a ≤ n ∧ n ≤ b))) ∧ w' = w := by
  by_cases h1 : a ≤ n
  · by_cases h2 : n ≤ b
    · have e : decide (a ≤ n ∧ n ≤ b) = true := decide_eq_true ⟨h1, h2⟩
      rw [e]
      clear e
      go_enter Try.func82, Try.ntmps82
      go_wp2_with fail
      go_ret
      exact ⟨rfl, rfl⟩
    · have e : decide (a ≤ n ∧ n ≤ b) = false := decide_eq_false (fun h => h2 h.2)
      rw [e]
      clear e
      go_enter Try.func82, Try.ntmps82
      go_wp2_with fail
      go_ret
      exact ⟨rfl, rfl⟩
  · have e : decide (a ≤ n ∧ n ≤ b) = false := decide_eq_false (fun h => h1 h.1)
    rw [e]
    clear e
    go_enter Try.func82, Try.ntmps82
    go_wp2_with fail
    go_ret
    exact ⟨rfl, rfl⟩
/-- what all methods of the judge's ask: what the operator has -/
structure JOk (j : Jg) : Prop where
  op : 1 ≤ j.n.op ∧ j.n.op ≤ 14
  has : j.h = hasV j.n.op
end Go.Proofs.Ytmifojpmomdmeaa

namespace Go.Proofs.Ytmifojpmomdmeaa
open Go Go.RowKit
set_option linter.unusedVariables false

theorem node_size : (Try.prog.info? 47).map (·.size) = some 26 := by kernel_rfl
theorem node_zero (w : World) : (zeroValue 47).run Try.prog w = .ok (.agg ([.int .i64 0, .int .i64 0, .int .i64 0, .int .i64 0, .int .i64 0, .int .i64 0, .int .i64 0, .int .i64 0, .int .i64 0, .int .i64 0, .int .i64 0, .int .i64 0, .int .i64 0, .int .i64 0, .int .i32 0, .int .i32 0, .int .i64 0, .int .i64 0, .int .i64 0, .int .i64 0, .int .i64 0, .int .i64 0, .int .i64 0, .int .i64 0, .int .i64 0, .int .i64 0] : List Value).toArray) w := by simp
theorem node_new (w : World) (l k : List Value) (hl : l.length = 26) (hk : k.length = 26) (h1 : ∀ v ∈ k, v.oneCell' = true) :
    (w.alloc (.cells l.toArray 47)).setCells w.heap.size 0 k = w.alloc (.cells k.toArray 47) := by
  have a := run_storeCells_new (P := Try.prog) w 47 l.toArray k.toArray (by rw [node_size]; simp [hk]) (by simp [hl, hk]) (all_oneCell_toArray h1)
  have b := (RowAt.new w l 47).store (P := Try.prog) (l' := k) (by rw [hl, hk]) h1
  rw [show k.toArray.toList = k by simp, b] at a
  injection a
/-- all that a walk asks of a node as a letter -/
structure NdL (n : Nd) (T Z : Nat) (Z0 K : List Value) : Prop where
  load : ∀ x, Op.load 47 x = Op.load T x
  alloc : Op.alloc 47 = Op.alloc T
  store : ∀ x y, Op.store 47 x y = Op.store T x y
  agg : ∀ w, (isAgg T).run Try.prog w = .ok true w
  size : ∀ w, (sizeOf T).run Try.prog w = .ok Z w
  zero : ∀ w, (zeroValue T).run Try.prog w = .ok (.agg Z0.toArray) w
  len : K.length = Z
  cells : K = n.cells
  read : ∀ (W : World) (b : Nat), W.rangeAt b 0 K → (loadCellsFrom ⟨b, 0, none⟩ 0 Z #[]).run Try.prog W = .ok K.toArray W
  st1 : ∀ W : World, (storeCells ⟨W.heap.size, 0, none⟩ K 0).run Try.prog (W.alloc (.cells Z0.toArray T)) = .ok () (W.alloc (.cells K.toArray T))
  st2 : ∀ (W : World) (A : Obj), (storeCells ⟨W.heap.size, 0, none⟩ K 0).run Try.prog ((W.alloc (.cells Z0.toArray T)).alloc A) = .ok () ((W.alloc (.cells K.toArray T)).alloc A)
theorem node_letter (n : Nd) : ∃ T Z Z0 K, NdL n T Z Z0 K := by
  have h1 := Nd.one n
  have hk : n.cells.length = 26 := n.cells_len
  have hz : ([.int .i64 0, .int .i64 0, .int .i64 0, .int .i64 0, .int .i64 0, .int .i64 0, .int .i64 0, .int .i64 0, .int .i64 0, .int .i64 0, .int .i64 0, .int .i64 0, .int .i64 0, .int .i64 0, .int .i32 0, .int .i32 0, .int .i64 0, .int .i64 0, .int .i64 0, .int .i64 0, .int .i64 0, .int .i64 0, .int .i64 0, .int .i64 0, .int .i64 0, .int .i64 0] : List Value).length = 26 := rfl
  refine ⟨47, 26, [.int .i64 0, .int .i64 0, .int .i64 0, .int .i64 0, .int .i64 0, .int .i64 0, .int .i64 0, .int .i64 0, .int .i64 0, .int .i64 0, .int .i64 0, .int .i64 0, .int .i64 0, .int .i64 0, .int .i32 0, .int .i32 0, .int .i64 0, .int .i64 0, .int .i64 0, .int .i64 0, .int .i64 0, .int .i64 0, .int .i64 0, .int .i64 0, .int .i64 0, .int .i64 0], n.cells, ⟨fun _ => rfl, rfl, fun _ _ => rfl, fun w => by simp, fun w => by simp, node_zero, hk, rfl, fun W b hr => ?_, fun W => ?_, fun W A => ?_⟩⟩
  · have := run_loadCells_list (P := Try.prog) (w := W) ⟨b, 0, none⟩ n.cells (fun j v hv => by rw [addr_add0]; simpa using hr j v hv)
    rw [hk] at this
    simpa [loadCells] using this
  · rw [(RowAt.new W _ 47).store (P := Try.prog) (by rw [hk, hz]) h1, node_new W _ _ hz hk h1]
  · have hR : RowAt ((W.alloc (.cells ([.int .i64 0, .int .i64 0, .int .i64 0, .int .i64 0, .int .i64 0, .int .i64 0, .int .i64 0, .int .i64 0, .int .i64 0, .int .i64 0, .int .i64 0, .int .i64 0, .int .i64 0, .int .i64 0, .int .i32 0, .int .i32 0, .int .i64 0, .int .i64 0, .int .i64 0, .int .i64 0, .int .i64 0, .int .i64 0, .int .i64 0, .int .i64 0, .int .i64 0, .int .i64 0] : List Value).toArray 47)).alloc A) W.heap.size [.int .i64 0, .int .i64 0, .int .i64 0, .int .i64 0, .int .i64 0, .int .i64 0, .int .i64 0, .int .i64 0, .int .i64 0, .int .i64 0, .int .i64 0, .int .i64 0, .int .i64 0, .int .i64 0, .int .i32 0, .int .i32 0, .int .i64 0, .int .i64 0, .int .i64 0, .int .i64 0, .int .i64 0, .int .i64 0, .int .i64 0, .int .i64 0, .int .i64 0, .int .i64 0] := (RowAt.new W [.int .i64 0, .int .i64 0, .int .i64 0, .int .i64 0, .int .i64 0, .int .i64 0, .int .i64 0, .int .i64 0, .int .i64 0, .int .i64 0, .int .i64 0, .int .i64 0, .int .i64 0, .int .i64 0, .int .i32 0, .int .i32 0, .int .i64 0, .int .i64 0, .int .i64 0, .int .i64 0, .int .i64 0, .int .i64 0, .int .i64 0, .int .i64 0, .int .i64 0, .int .i64 0] 47).later (Below.alloc (Below.refl _ _) (Nat.le_refl _) A) (lt_alloc _ _)
    rw [hR.store (P := Try.prog) (by rw [hk, hz]) h1, setCells_alloc _ _ _ _ _ (lt_alloc _ _), node_new W _ _ hz hk h1]
end Go.Proofs.Ytmifojpmomdmeaa

namespace Go.Proofs.Ytmifojpmomdmeaa
open Go Go.RowKit
/-- what is wrong with the shape that comes out -/
def mkF (j : Jg) (o : Sh) : Int := if o.fit ≠ 0 then o.fit else if j.n.op = 4 ∧ 4096 < sizeG j.a then 12 else 0
theorem JAt.over {w w' : World} {J : Nat} {j : Jg} (h : JAt w J j) (hb : Below w.heap.size w w') : JAt w' J j := RowAt.over h hb
theorem JAt.drew {w : World} {J : Nat} {j : Jg} (h : JAt w J j) : JAt w.drew J j := RowAt.drew h
theorem grown_drew {w w1 : World} {r : Option Nat} (h : w.grownBy w1 r) : w.grownBy w1.drew r := ⟨h.os, h.tape, h.output, h.size, h.block⟩
theorem jg_rg {w : World} {J T Z : Nat} {j : Jg} {Z0 K : List Value} (hJ : JAt w J j) (NL : NdL j.n T Z Z0 K) : w.rangeAt J 0 K := fun i v hv => by rw [NL.cells] at hv; have := hJ.cell i v (by rcases List.getElem?_eq_some_iff.1 hv with ⟨hi, _⟩; have hi : i < 26 := hi; match i, hi with | 0, _ => exact hv | 1, _ => exact hv | 2, _ => exact hv | 3, _ => exact hv | 4, _ => exact hv | 5, _ => exact hv | 6, _ => exact hv | 7, _ => exact hv | 8, _ => exact hv | 9, _ => exact hv | 10, _ => exact hv | 11, _ => exact hv | 12, _ => exact hv | 13, _ => exact hv | 14, _ => exact hv | 15, _ => exact hv | 16, _ => exact hv | 17, _ => exact hv | 18, _ => exact hv | 19, _ => exact hv | 20, _ => exact hv | 21, _ => exact hv | 22, _ => exact hv | 23, _ => exact hv | 24, _ => exact hv | 25, _ => exact hv); simpa using this
theorem NdL.tT {n : Nd} {T Z : Nat} {Z0 K : List Value} (NL : NdL n T Z Z0 K) (w : World) : (storeCells ⟨w.heap.size, 0, none⟩ K 0).run Try.prog (w.alloc (.cells Z0.toArray T)).drew = .ok () (w.alloc (.cells K.toArray T)).drew := NL.st1 w.drew
theorem NdL.tU {n : Nd} {T Z : Nat} {Z0 K : List Value} (NL : NdL n T Z Z0 K) (w : World) (A : Obj) : (storeCells ⟨w.heap.size, 0, none⟩ K 0).run Try.prog ((w.alloc (.cells Z0.toArray T)).alloc A).drew = .ok () ((w.alloc (.cells K.toArray T)).alloc A).drew := NL.st2 w.drew A
theorem NdL.tV {n : Nd} {T Z : Nat} {Z0 K : List Value} (NL : NdL n T Z Z0 K) (w : World) (A : Obj) : (storeCells ⟨w.heap.size + 1, 0, none⟩ K 0).run Try.prog ((w.alloc A).alloc (.cells Z0.toArray T)).drew = .ok () ((w.alloc A).alloc (.cells K.toArray T)).drew := by
  have := NL.st1 (w.drew.alloc A)
  rwa [show (w.drew.alloc A).heap.size = w.heap.size + 1 by simp] at this
theorem row_1 (w : World) (l : List Value) (t : TypeId) (A : Obj) : RowAt ((w.alloc (.cells l.toArray t)).alloc A).drew w.heap.size l := ((RowAt.new w l t).over (Below.alloc (Below.refl _ _) (Nat.le_refl _) A)).drew
theorem row_2 (w : World) (A : Obj) (l : List Value) (t : TypeId) : RowAt ((w.alloc A).alloc (.cells l.toArray t)).drew (w.heap.size + 1) l := by
  have := (RowAt.new (w.alloc A) l t).drew
  rwa [show (w.alloc A).heap.size = w.heap.size + 1 by simp] at this
end Go.Proofs.Ytmifojpmomdmeaa
