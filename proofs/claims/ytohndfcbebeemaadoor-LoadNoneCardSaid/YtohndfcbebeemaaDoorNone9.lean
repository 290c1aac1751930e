/- LoadNone, the walk, where the address is of sort 5. -/
import Derived.Test.YtohndfcbebeemaaDoorNoneD
namespace Go.Proofs.YtohndfcbebeemaaDoor
open Go Go.RowKit
set_option linter.unusedVariables false
set_option maxRecDepth 100000 in
set_option maxHeartbeats 2000000 in
theorem none_4 (m0 m1 m2 m3 m4 m5 m6 m7 m8 m9 m10 m11 m12 m13 m14 m15 m16 : Value) (x : Value) (a : Nat) (ha : a < 4294967296) (hb : lies4 a = false) (t1 : decide ((4096 : Int) ≤ (a : Int)) = true) (t2 : decide ((a : Int) ≤ 4156) = false) (t3 : decide ((8192 : Int) ≤ (a : Int)) = true) (t4 : decide ((a : Int) ≤ 8252) = false) (w : World) (ht : T3 w) :
    Calls Tryd.prog 5 #[.agg #[m0, m1, m2, m3, m4, m5, m6, m7, m8, m9, m10, m11, m12, m13, m14, m15, m16], x, .int .u32 (a : Nat)] w fun e w' => e = .returned (.bool true) ∧ Below w.heap.size w w' := by
  have HT := Lib.hid (fun W (h : Below w.heap.size w W) => ht.later h)
  clear ht
  have E := Lib.hid hb
  clear hb
  go_enter Tryd.func5, Tryd.ntmps5
  go_wp2_with fail
  have hg := Lib.hid (show ∀ (cs : Array Value) (t : TypeId), Below w.heap.size w (w.alloc (.cells cs t)) from fun cs t => by go_grown)
  generalize hW0 : w.alloc _ = W0
  have B0 := Lib.hid (show Below w.heap.size w W0 by rw [← hW0]; exact hg.out _ _)
  have X0 := Lib.hid (show Box w.heap.size #[m0, m1, m2, m3, m4, m5, m6, m7, m8, m9, m10, m11, m12, m13, m14, m15, m16] W0 by rw [← hW0]; exact ⟨by simp, fun j v h => box17 _ _ _ j v h⟩)
  clear hW0 hg
  refine (out_none _ _).mono ?_
  rintro e w1 ⟨rfl, b1⟩
  have B1 := Lib.hid (btD B0.out b1)
  have X1 := Lib.hid (X0.out.later b1)
  clear b1 B0 X0
  go_wp2_with fail
  refine (one_any _ (HT.out _ B1.out)).mono ?_
  rintro e w2 ⟨v1, rfl, hr⟩
  go_wp2_with fail
  refine (load_any _ _ _ hr).mono ?_
  rintro e w3 ⟨C, M, F, R, rfl, hL⟩
  have HL := Lib.hid hL
  have B3 := Lib.hid (btD B1.out hL.below)
  have X3 := Lib.hid (X1.out.later hL.below)
  have B1z := Lib.hid (show w.heap.size ≤ w1.heap.size from B1.out.size)
  clear hL hr
  go_wp2_with fail
  go_simp
  have hg := Lib.hid (show ∀ (cs : Array Value) (t : TypeId), Below w3.heap.size w3 (w3.alloc (.cells cs t)) from fun cs t => (Below.refl _ _).alloc (Nat.le_refl _) _)
  have hs := Lib.hid (show ∀ (cs : Array Value) (t : TypeId) (j : Nat) (v : Value), cs.toList[j]? = some v → (w3.alloc (.cells cs t)).cell? ((⟨w3.heap.size, 0, none⟩ : Addr).add j) = some v from fun cs t j v hj => by
    have e : (⟨w3.heap.size, 0, none⟩ : Addr).add j = ⟨w3.heap.size, j, none⟩ := by unfold Addr.add; split <;> simp_all
    rw [e, World.cell?_alloc_new]; simpa using hj)
  generalize hW4 : w3.alloc _ = W4
  have G4 := Lib.hid (show Below w3.heap.size w3 W4 by rw [← hW4]; exact hg.out _ _)
  have S4 := Lib.hid (show ∀ j v, ([.int .u8 1, .int .u8 2, .int .u8 3, .int .u8 4] : List Value)[j]? = some v → W4.cell? ((⟨w3.heap.size, 0, none⟩ : Addr).add j) = some v by rw [← hW4]; exact fun j v hj => hs.out _ _ j v hj)
  have HH := Lib.hid (Has.of HL.out (HL.out.below.trans (G4.out.mono HL.out.below.size)) G4.out (Nat.le_refl _) S4.out)
  clear hg hs hW4 G4 S4 HL B3 X3 B1z
  have key : ∀ (b : Bool) (hb : lies4 a = b) (z : Int) (hz : z = if b then 0 else 6), Calls Tryd.prog 21 #[.pointer (some ⟨C, 0, none⟩), .agg #[.int .u32 0, .int .u32 0, .int .u32 0, .int .u32 0, .int .u32 0, .int .u32 0, .int .u32 0, .int .u32 0, .int .u32 0, .int .u32 0, .int .u64 0, .int .u32 (a : Nat), .int .u32 4, .int .u32 0, .int .u32 0, .slice none 0 0, .slice none 0 0], .slice (some ⟨w3.heap.size, 0, none⟩) 4 4] W4 fun e w' => e = .returned (.int .i64 z) ∧ Below w.heap.size w w' ∧ Box w.heap.size #[m0, m1, m2, m3, m4, m5, m6, m7, m8, m9, m10, m11, m12, m13, m14, m15, m16] w' := fun b hb z hz => (in_some HH.out a ha b hb z hz).mono fun e w' h => ⟨h.1, btD B1.out h.2, X1.out.later h.2⟩
  have KEY := Lib.hid key
  clear key HH B1 X1
  refine (KEY.out false E.out _ rfl).mono ?_
  clear KEY E
  rintro e5 w5 ⟨rfl, B5, X5⟩
  have c0 := X5.cell 0 _ rfl
  have c1 := X5.cell 1 _ rfl
  have c2 := X5.cell 2 _ rfl
  have c3 := X5.cell 3 _ rfl
  have c4 := X5.cell 4 _ rfl
  have c5 := X5.cell 5 _ rfl
  have c6 := X5.cell 6 _ rfl
  have c7 := X5.cell 7 _ rfl
  have c8 := X5.cell 8 _ rfl
  have c9 := X5.cell 9 _ rfl
  have c10 := X5.cell 10 _ rfl
  have c11 := X5.cell 11 _ rfl
  have c12 := X5.cell 12 _ rfl
  have c13 := X5.cell 13 _ rfl
  have c14 := X5.cell 14 _ rfl
  have c15 := X5.cell 15 _ rfl
  have c16 := X5.cell 16 _ rfl
  have lz := X5.lt
  have BH := Lib.hid B5
  clear X5 B5
  go_wp2_with ((go_at_call 21; refine (in_none _ _ _).mono ?_; rintro e6 w6 ⟨rfl, b6⟩))
  have B6 := Lib.hid (btD BH.out b6)
  clear c0 c1 c2 c3 c4 c5 c6 c7 c8 c9 c10 c11 c12 c13 c14 c15 c16 b6 lz BH
  refine (lives10 _ (HT.out _ B6.out)).mono ?_
  rintro e7 w7 ⟨rfl, b7⟩
  have B7 := Lib.hid (btD B6.out b7)
  clear b7 B6
  go_wp2
  go_ret
  exact ⟨rfl, B7.out⟩
end Go.Proofs.YtohndfcbebeemaaDoor
