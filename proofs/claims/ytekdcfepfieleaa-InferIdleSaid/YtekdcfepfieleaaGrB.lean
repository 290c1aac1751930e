/- Package infer: what a node keeps (the closures of bare), one at a time. -/
import Derived.Test.YtekdcfepfieleaaGrI
import Derived.Lib.Hide
import Derived.Great.Walk
import Derived.Laws.OwnMore
namespace Go.Proofs.Ytekdcfepfieleaa
open Go Go.RowKit
set_option linter.unusedVariables false

/-- a node in a block of its own -/
structure NdAt (w : World) (b : Nat) (k : Nd) : Prop where
  lt : b < w.heap.size
  fr : ∀ j : Nat, w.frozen? ⟨b, j, none⟩ = false
  cell : ∀ (j : Nat) (u : Value), k.cells[j]? = some u → w.cell? ⟨b, j, none⟩ = some u
theorem NdAt.set {w : World} {b : Nat} {k k' : Nd} (h : NdAt w b k) (j : Nat) (v : Value) (hj : j < 26) (e : k'.cells = k.cells.set j v) : NdAt (w.setCell ⟨b, j, none⟩ v) b k' := by
  obtain ⟨u, hu⟩ : ∃ u, k.cells[j]? = some u := ⟨_, List.getElem?_eq_getElem (by rw [Nd.cells_len]; exact hj)⟩
  refine ⟨by simpa using h.lt, fun i => by simpa using h.fr i, fun i u hi => ?_⟩
  rw [e] at hi
  by_cases g : i = j
  · subst g
    rw [World.cell?_setCell_same _ _ _ (h.cell _ _ hu)]
    rw [List.getElem?_set_self hj] at hi
    exact hi
  · rw [World.cell?_setCell_other _ _ _ _ (by intro e; simp at e; try exact g e.symm)]
    rw [List.getElem?_set_ne (by omega)] at hi
    exact h.cell i u hi
theorem NdAt.far {w w' : World} {b : Nat} {k : Nd} {r : Option Nat} (h : NdAt w b k) (hg : w.grownBy w' r) (hr : some b ≠ r) : NdAt w' b k :=
  ⟨Nat.lt_of_lt_of_le h.lt hg.size, fun j => (World.frozen?_of_block (hg.block b h.lt hr)).trans (h.fr j), fun j u hu => hg.cell (h.cell j u hu) hr⟩
/-- the block K is written alone, and holds k -/
structure Kept (w0 w : World) (K : Nat) (k : Nd) : Prop where
  at_ : NdAt w K k
  gr : w0.grownBy w (some K)
theorem grownN_set {w w1 : World} {B k : Nat} {x : Value} (h : w.grownBy w1 (some B)) : w.grownBy (w1.setCell ⟨B, k, none⟩ x) (some B) :=
  ⟨h.os, h.tape, h.output, by simpa [World.setCell] using h.size, fun i hk hne => (RowKit.Below.heap_setCell _ _ _ _ (by intro e; exact hne (by rw [e]))).trans (h.block i hk hne)⟩
theorem Kept.start {w : World} {K : Nat} {k : Nd} (h : NdAt w K k) : Kept w w K k := ⟨h, ⟨rfl, rfl, rfl, Nat.le_refl _, fun _ _ _ => rfl⟩⟩
theorem Kept.set {w0 w : World} {K : Nat} {k : Nd} (k' : Nd) (h : Kept w0 w K k) (j : Nat) (v : Value) (hj : j < 26) (e : k'.cells = k.cells.set j v) : Kept w0 (w.setCell ⟨K, j, none⟩ v) K k' :=
  ⟨h.at_.set j v hj e, grownN_set h.gr⟩
theorem Kept.drew {w0 w : World} {K : Nat} {k : Nd} (h : Kept w0 w K k) : Kept w0 w.drew K k := ⟨⟨h.at_.lt, h.at_.fr, h.at_.cell⟩, ⟨h.gr.os, h.gr.tape, h.gr.output, h.gr.size, h.gr.block⟩⟩

set_option maxHeartbeats 1000000 in
theorem take_1 (N K : Nat) (n k : Nd) (w : World) (hN : NdAt w N n) (hK : NdAt w K k) (hne : N ≠ K) :
    Calls Try.prog 25 #[.pointer (some ⟨N, 0, none⟩), .pointer (some ⟨K, 0, none⟩)] w fun e w' => e = .returned (.tuple #[]) ∧ Kept w w' K { k with a := n.a } := by
  have c1 := hN.cell 1 _ rfl
  have d1 := hK.cell 1 _ rfl
  have f1 := hK.fr 1
  have lN := hN.lt
  have lK := hK.lt
  have HK := Lib.hid hK
  clear hN hK
  go_enter Try.func25, Try.ntmps25
  go_wp2_with fail
  go_end0
  exact ⟨rfl, (Kept.set { k with a := n.a } (Kept.start HK.out) 1 _ (by decide) rfl)⟩

set_option maxHeartbeats 1000000 in
theorem take_2 (N K : Nat) (n k : Nd) (w : World) (hN : NdAt w N n) (hK : NdAt w K k) (hne : N ≠ K) :
    Calls Try.prog 26 #[.pointer (some ⟨N, 0, none⟩), .pointer (some ⟨K, 0, none⟩)] w fun e w' => e = .returned (.tuple #[]) ∧ Kept w w' K { k with b := n.b } := by
  have c2 := hN.cell 2 _ rfl
  have d2 := hK.cell 2 _ rfl
  have f2 := hK.fr 2
  have lN := hN.lt
  have lK := hK.lt
  have HK := Lib.hid hK
  clear hN hK
  go_enter Try.func26, Try.ntmps26
  go_wp2_with fail
  go_end0
  exact ⟨rfl, (Kept.set { k with b := n.b } (Kept.start HK.out) 2 _ (by decide) rfl)⟩

set_option maxHeartbeats 1000000 in
theorem take_3 (N K : Nat) (n k : Nd) (w : World) (hN : NdAt w N n) (hK : NdAt w K k) (hne : N ≠ K) :
    Calls Try.prog 27 #[.pointer (some ⟨N, 0, none⟩), .pointer (some ⟨K, 0, none⟩)] w fun e w' => e = .returned (.tuple #[]) ∧ Kept w w' K { k with k0 := n.k0, k1 := n.k1, s0 := n.s0, s1 := n.s1 } := by
  have c3 := hN.cell 3 _ rfl
  have d3 := hK.cell 3 _ rfl
  have f3 := hK.fr 3
  have c4 := hN.cell 4 _ rfl
  have d4 := hK.cell 4 _ rfl
  have f4 := hK.fr 4
  have c5 := hN.cell 5 _ rfl
  have d5 := hK.cell 5 _ rfl
  have f5 := hK.fr 5
  have c6 := hN.cell 6 _ rfl
  have d6 := hK.cell 6 _ rfl
  have f6 := hK.fr 6
  have lN := hN.lt
  have lK := hK.lt
  have HK := Lib.hid hK
  clear hN hK
  go_enter Try.func27, Try.ntmps27
  go_wp2_with fail
  go_region
  go_wp2_with fail
  go_end0
  exact ⟨rfl, (Kept.set { k with k0 := n.k0, k1 := n.k1, s0 := n.s0, s1 := n.s1 } (Kept.set { k with k0 := n.k0, k1 := n.k1, s0 := n.s0 } (Kept.set { k with k0 := n.k0, k1 := n.k1 } (Kept.set { k with k0 := n.k0 } (Kept.start HK.out) 3 _ (by decide) rfl) 4 _ (by decide) rfl) 5 _ (by decide) rfl) 6 _ (by decide) rfl).drew⟩

set_option maxHeartbeats 1000000 in
theorem take_4 (N K : Nat) (n k : Nd) (w : World) (hN : NdAt w N n) (hK : NdAt w K k) (hne : N ≠ K) :
    Calls Try.prog 28 #[.pointer (some ⟨N, 0, none⟩), .pointer (some ⟨K, 0, none⟩)] w fun e w' => e = .returned (.tuple #[]) ∧ Kept w w' K { k with p0 := n.p0, p1 := n.p1, p2 := n.p2, p3 := n.p3 } := by
  have c7 := hN.cell 7 _ rfl
  have d7 := hK.cell 7 _ rfl
  have f7 := hK.fr 7
  have c8 := hN.cell 8 _ rfl
  have d8 := hK.cell 8 _ rfl
  have f8 := hK.fr 8
  have c9 := hN.cell 9 _ rfl
  have d9 := hK.cell 9 _ rfl
  have f9 := hK.fr 9
  have c10 := hN.cell 10 _ rfl
  have d10 := hK.cell 10 _ rfl
  have f10 := hK.fr 10
  have lN := hN.lt
  have lK := hK.lt
  have HK := Lib.hid hK
  clear hN hK
  go_enter Try.func28, Try.ntmps28
  go_wp2_with fail
  go_end0
  exact ⟨rfl, (Kept.set { k with p0 := n.p0, p1 := n.p1, p2 := n.p2, p3 := n.p3 } (Kept.set { k with p0 := n.p0, p1 := n.p1, p2 := n.p2 } (Kept.set { k with p0 := n.p0, p1 := n.p1 } (Kept.set { k with p0 := n.p0 } (Kept.start HK.out) 7 _ (by decide) rfl) 8 _ (by decide) rfl) 9 _ (by decide) rfl) 10 _ (by decide) rfl)⟩

set_option maxHeartbeats 1000000 in
theorem take_5 (N K : Nat) (n k : Nd) (w : World) (hN : NdAt w N n) (hK : NdAt w K k) (hne : N ≠ K) :
    Calls Try.prog 29 #[.pointer (some ⟨N, 0, none⟩), .pointer (some ⟨K, 0, none⟩)] w fun e w' => e = .returned (.tuple #[]) ∧ Kept w w' K { k with za := n.za } := by
  have c11 := hN.cell 11 _ rfl
  have d11 := hK.cell 11 _ rfl
  have f11 := hK.fr 11
  have lN := hN.lt
  have lK := hK.lt
  have HK := Lib.hid hK
  clear hN hK
  go_enter Try.func29, Try.ntmps29
  go_wp2_with fail
  go_end0
  exact ⟨rfl, (Kept.set { k with za := n.za } (Kept.start HK.out) 11 _ (by decide) rfl)⟩

set_option maxHeartbeats 1000000 in
theorem take_6 (N K : Nat) (n k : Nd) (w : World) (hN : NdAt w N n) (hK : NdAt w K k) (hne : N ≠ K) :
    Calls Try.prog 30 #[.pointer (some ⟨N, 0, none⟩), .pointer (some ⟨K, 0, none⟩)] w fun e w' => e = .returned (.tuple #[]) ∧ Kept w w' K { k with zb := n.zb } := by
  have c12 := hN.cell 12 _ rfl
  have d12 := hK.cell 12 _ rfl
  have f12 := hK.fr 12
  have lN := hN.lt
  have lK := hK.lt
  have HK := Lib.hid hK
  clear hN hK
  go_enter Try.func30, Try.ntmps30
  go_wp2_with fail
  go_end0
  exact ⟨rfl, (Kept.set { k with zb := n.zb } (Kept.start HK.out) 12 _ (by decide) rfl)⟩

set_option maxHeartbeats 1000000 in
theorem take_7 (N K : Nat) (n k : Nd) (w : World) (hN : NdAt w N n) (hK : NdAt w K k) (hne : N ≠ K) :
    Calls Try.prog 31 #[.pointer (some ⟨N, 0, none⟩), .pointer (some ⟨K, 0, none⟩)] w fun e w' => e = .returned (.tuple #[]) ∧ Kept w w' K { k with zo := n.zo } := by
  have c13 := hN.cell 13 _ rfl
  have d13 := hK.cell 13 _ rfl
  have f13 := hK.fr 13
  have lN := hN.lt
  have lK := hK.lt
  have HK := Lib.hid hK
  clear hN hK
  go_enter Try.func31, Try.ntmps31
  go_wp2_with fail
  go_end0
  exact ⟨rfl, (Kept.set { k with zo := n.zo } (Kept.start HK.out) 13 _ (by decide) rfl)⟩

set_option maxHeartbeats 1000000 in
theorem take_8 (N K : Nat) (n k : Nd) (w : World) (hN : NdAt w N n) (hK : NdAt w K k) (hne : N ≠ K) :
    Calls Try.prog 32 #[.pointer (some ⟨N, 0, none⟩), .pointer (some ⟨K, 0, none⟩)] w fun e w' => e = .returned (.tuple #[]) ∧ Kept w w' K { k with m1 := n.m1, t1 := n.t1 } := by
  have c14 := hN.cell 14 _ rfl
  have d14 := hK.cell 14 _ rfl
  have f14 := hK.fr 14
  have c16 := hN.cell 16 _ rfl
  have d16 := hK.cell 16 _ rfl
  have f16 := hK.fr 16
  have lN := hN.lt
  have lK := hK.lt
  have HK := Lib.hid hK
  clear hN hK
  go_enter Try.func32, Try.ntmps32
  go_wp2_with fail
  go_region
  go_wp2_with fail
  go_end0
  exact ⟨rfl, (Kept.set { k with m1 := n.m1, t1 := n.t1 } (Kept.set { k with m1 := n.m1 } (Kept.start HK.out) 14 _ (by decide) rfl) 16 _ (by decide) rfl).drew⟩

set_option maxHeartbeats 1000000 in
theorem take_9 (N K : Nat) (n k : Nd) (w : World) (hN : NdAt w N n) (hK : NdAt w K k) (hne : N ≠ K) :
    Calls Try.prog 33 #[.pointer (some ⟨N, 0, none⟩), .pointer (some ⟨K, 0, none⟩)] w fun e w' => e = .returned (.tuple #[]) ∧ Kept w w' K { k with m2 := n.m2, t2 := n.t2 } := by
  have c15 := hN.cell 15 _ rfl
  have d15 := hK.cell 15 _ rfl
  have f15 := hK.fr 15
  have c17 := hN.cell 17 _ rfl
  have d17 := hK.cell 17 _ rfl
  have f17 := hK.fr 17
  have lN := hN.lt
  have lK := hK.lt
  have HK := Lib.hid hK
  clear hN hK
  go_enter Try.func33, Try.ntmps33
  go_wp2_with fail
  go_region
  go_wp2_with fail
  go_end0
  exact ⟨rfl, (Kept.set { k with m2 := n.m2, t2 := n.t2 } (Kept.set { k with m2 := n.m2 } (Kept.start HK.out) 15 _ (by decide) rfl) 17 _ (by decide) rfl).drew⟩

set_option maxHeartbeats 1000000 in
theorem take_10 (N K : Nat) (n k : Nd) (w : World) (hN : NdAt w N n) (hK : NdAt w K k) (hne : N ≠ K) :
    Calls Try.prog 34 #[.pointer (some ⟨N, 0, none⟩), .pointer (some ⟨K, 0, none⟩)] w fun e w' => e = .returned (.tuple #[]) ∧ Kept w w' K { k with lo := n.lo, hi := n.hi } := by
  have c18 := hN.cell 18 _ rfl
  have d18 := hK.cell 18 _ rfl
  have f18 := hK.fr 18
  have c19 := hN.cell 19 _ rfl
  have d19 := hK.cell 19 _ rfl
  have f19 := hK.fr 19
  have lN := hN.lt
  have lK := hK.lt
  have HK := Lib.hid hK
  clear hN hK
  go_enter Try.func34, Try.ntmps34
  go_wp2_with fail
  go_region
  go_wp2_with fail
  go_end0
  exact ⟨rfl, (Kept.set { k with lo := n.lo, hi := n.hi } (Kept.set { k with lo := n.lo } (Kept.start HK.out) 18 _ (by decide) rfl) 19 _ (by decide) rfl).drew⟩

set_option maxHeartbeats 1000000 in
theorem take_11 (N K : Nat) (n k : Nd) (w : World) (hN : NdAt w N n) (hK : NdAt w K k) (hne : N ≠ K) :
    Calls Try.prog 35 #[.pointer (some ⟨N, 0, none⟩), .pointer (some ⟨K, 0, none⟩)] w fun e w' => e = .returned (.tuple #[]) ∧ Kept w w' K { k with w := n.w } := by
  have c20 := hN.cell 20 _ rfl
  have d20 := hK.cell 20 _ rfl
  have f20 := hK.fr 20
  have lN := hN.lt
  have lK := hK.lt
  have HK := Lib.hid hK
  clear hN hK
  go_enter Try.func35, Try.ntmps35
  go_wp2_with fail
  go_end0
  exact ⟨rfl, (Kept.set { k with w := n.w } (Kept.start HK.out) 20 _ (by decide) rfl)⟩

set_option maxHeartbeats 1000000 in
theorem take_12 (N K : Nat) (n k : Nd) (w : World) (hN : NdAt w N n) (hK : NdAt w K k) (hne : N ≠ K) :
    Calls Try.prog 36 #[.pointer (some ⟨N, 0, none⟩), .pointer (some ⟨K, 0, none⟩)] w fun e w' => e = .returned (.tuple #[]) ∧ Kept w w' K { k with bias := n.bias } := by
  have c21 := hN.cell 21 _ rfl
  have d21 := hK.cell 21 _ rfl
  have f21 := hK.fr 21
  have lN := hN.lt
  have lK := hK.lt
  have HK := Lib.hid hK
  clear hN hK
  go_enter Try.func36, Try.ntmps36
  go_wp2_with fail
  go_end0
  exact ⟨rfl, (Kept.set { k with bias := n.bias } (Kept.start HK.out) 21 _ (by decide) rfl)⟩

set_option maxHeartbeats 1000000 in
theorem take_13 (N K : Nat) (n k : Nd) (w : World) (hN : NdAt w N n) (hK : NdAt w K k) (hne : N ≠ K) :
    Calls Try.prog 37 #[.pointer (some ⟨N, 0, none⟩), .pointer (some ⟨K, 0, none⟩)] w fun e w' => e = .returned (.tuple #[]) ∧ Kept w w' K { k with chans := n.chans } := by
  have c22 := hN.cell 22 _ rfl
  have d22 := hK.cell 22 _ rfl
  have f22 := hK.fr 22
  have lN := hN.lt
  have lK := hK.lt
  have HK := Lib.hid hK
  clear hN hK
  go_enter Try.func37, Try.ntmps37
  go_wp2_with fail
  go_end0
  exact ⟨rfl, (Kept.set { k with chans := n.chans } (Kept.start HK.out) 22 _ (by decide) rfl)⟩

set_option maxHeartbeats 1000000 in
theorem take_14 (N K : Nat) (n k : Nd) (w : World) (hN : NdAt w N n) (hK : NdAt w K k) (hne : N ≠ K) :
    Calls Try.prog 38 #[.pointer (some ⟨N, 0, none⟩), .pointer (some ⟨K, 0, none⟩)] w fun e w' => e = .returned (.tuple #[]) ∧ Kept w w' K { k with h0 := n.h0, h1 := n.h1, h2 := n.h2 } := by
  have c23 := hN.cell 23 _ rfl
  have d23 := hK.cell 23 _ rfl
  have f23 := hK.fr 23
  have c24 := hN.cell 24 _ rfl
  have d24 := hK.cell 24 _ rfl
  have f24 := hK.fr 24
  have c25 := hN.cell 25 _ rfl
  have d25 := hK.cell 25 _ rfl
  have f25 := hK.fr 25
  have lN := hN.lt
  have lK := hK.lt
  have HK := Lib.hid hK
  clear hN hK
  go_enter Try.func38, Try.ntmps38
  go_wp2_with fail
  go_end0
  exact ⟨rfl, (Kept.set { k with h0 := n.h0, h1 := n.h1, h2 := n.h2 } (Kept.set { k with h0 := n.h0, h1 := n.h1 } (Kept.set { k with h0 := n.h0 } (Kept.start HK.out) 23 _ (by decide) rfl) 24 _ (by decide) rfl) 25 _ (by decide) rfl)⟩
end Go.Proofs.Ytekdcfepfieleaa
