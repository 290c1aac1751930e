/- Layer 5's statement on acts: gets. -/
import Derived.Test.YtghclbeoabkgcaaMemU
import Derived.Test.YtghclbeoabkgcaaMemV
import Derived.Test.YtghclbeoabkgcaaMemT
namespace Go.Proofs.Ytghclbeoabkgcaa
open Go Go.RowKit
set_option linter.unusedVariables false

def actV (k s : Int) (a x : Int) (b : Value) : Value := .agg #[.int .i64 k, .int .i64 s, .int .u32 a, .int .u32 x, b]
/-- what stands for all calls: both memories -/
structure Two (M F R X B f r : Nat) (Fb Rb : List Nat) (L : List (Nat × Nat)) (v : Value) (W : World) : Prop where
  m : MemIs M F R f r Fb Rb W
  x : RefIs X B f Fb.length r Rb.length L v W
theorem Two.like {M F R X B f r : Nat} {Fb Rb : List Nat} {L : List (Nat × Nat)} {v : Value} {W W' : World} (h : Two M F R X B f r Fb Rb L v W) (hl : LikeG W W') : Two M F R X B f r Fb Rb L v W' := ⟨h.m.like hl, h.x.like hl⟩
theorem Two.below {M F R X B f r : Nat} {Fb Rb : List Nat} {L : List (Nat × Nat)} {v : Value} {W W' : World} (h : Two M F R X B f r Fb Rb L v W) (hl : Below W.heap.size W W') : Two M F R X B f r Fb Rb L v W' :=
  ⟨h.m.out (Out.of_below (fun _ => False) hl) id id id, h.x.out (Out.of_below (fun _ => False) hl) id (fun _ _ => id)⟩
theorem box5W (w : World) (cs : Array Value) (t : TypeId) (j : Nat) (v : Value) (h : cs[j]? = some v) : (w.alloc (.cells cs t)).cell? ⟨w.heap.size, j, none⟩ = some v := by
  rw [World.cell?_alloc_new]; exact h
theorem in_neg (f n a : Int) (k : Int) (hk : k < 0) (W : World) :
    Calls Try.prog 107 #[.int .u32 f, .int .u32 n, .int .u32 a, .int .i64 k] W fun e w' => e = .returned (.bool false) ∧ W = w' := by
  have t : decide (0 ≤ k) = false := by simp; omega
  clear hk
  go_enter Try.func107, Try.ntmps107
  go_wp2
  all_goals go_ret
  all_goals exact ⟨rfl, rfl⟩
theorem in_negq {f n a : Int} {k : Int} (hk : k < 0) (w : World) (m : Nat) :
    Calls Try.prog 107 #[.int .u32 f, .int .u32 n, .int .u32 a, .int .i64 k] (w.drewN m) fun e w' => e = .returned (.bool false) ∧ ∃ j, w' = w.drewN j :=
  (in_neg f n a k hk _).mono fun e w' ⟨he, hm⟩ => ⟨he, m, hm.symm⟩
theorem has_neg {X B f n1 r n2 : Nat} {L : List (Nat × Nat)} {v : Value} {W : World} (h : RefIs X B f n1 r n2 L v W) (a k : Int) (hk : k < 0) :
    Calls Try.prog 79 #[.pointer (some ⟨X, 0, none⟩), .int .u32 a, .int .i64 k] W (BoolPost W false) := by
  have F1 := Lib.hid (show ∀ W', LikeG W W' → Calls Try.prog 94 #[.pointer (some ⟨X, 0, none⟩), .int .u32 a, .int .i64 k] W' (BoolPost W' false) from fun W' hl => by
    have c0 := (h.like hl).c0
    have c1 := (h.like hl).c1
    have HK := Lib.hid hk
    clear h hl hk
    go_enter Try.func94, Try.ntmps94
    go_wp2
    go_quiet ((go_at_call 107; exact in_negq HK.out _ _))
    rename_i nq
    go_wp2
    go_ret
    exact ⟨rfl, .drewN _ _⟩)
  have F2 := Lib.hid (show ∀ W', LikeG W W' → Calls Try.prog 95 #[.pointer (some ⟨X, 0, none⟩), .int .u32 a, .int .i64 k] W' (BoolPost W' false) from fun W' hl => by
    have c2 := (h.like hl).c2
    have c3 := (h.like hl).c3
    have HK := Lib.hid hk
    clear h hl hk
    go_enter Try.func95, Try.ntmps95
    go_wp2
    go_quiet ((go_at_call 107; exact in_negq HK.out _ _))
    rename_i nq
    go_wp2
    go_ret
    exact ⟨rfl, .drewN _ _⟩)
  clear h hk
  go_enter Try.func79, Try.ntmps79
  go_wp2_with fail
  refine (F1.out _ (.refl _)).mono ?_
  rintro e w1 ⟨rfl, hl⟩
  go_wp2_with fail
  refine (F2.out _ hl).mono ?_
  rintro e w2 ⟨rfl, hl2⟩
  go_wp2_with fail
  go_ret
  exact ⟨rfl, hl.trans hl2⟩
def GetsPost (W : World) (e : Ending) (w' : World) : Prop := e = .returned (.bool true) ∧ Below W.heap.size W w'
structure BoxA (b : Nat) (kd s a x : Int) (v : Value) (W : World) : Prop where
  c0 : W.cell? ⟨b, 0, none⟩ = some (.int .i64 kd)
  c1 : W.cell? ⟨b, 1, none⟩ = some (.int .i64 s)
  c2 : W.cell? ⟨b, 2, none⟩ = some (.int .u32 a)
  c3 : W.cell? ⟨b, 3, none⟩ = some (.int .u32 x)
  c4 : W.cell? ⟨b, 4, none⟩ = some v
theorem BoxA.new (W : World) (kd s a x : Int) (v : Value) (t : TypeId) : BoxA W.heap.size kd s a x v (W.alloc (.cells #[.int .i64 kd, .int .i64 s, .int .u32 a, .int .u32 x, v] t)) :=
  ⟨box5W _ _ _ 0 _ rfl, box5W _ _ _ 1 _ rfl, box5W _ _ _ 2 _ rfl, box5W _ _ _ 3 _ rfl, box5W _ _ _ 4 _ rfl⟩
theorem BoxA.like {b : Nat} {kd s a x : Int} {v : Value} {W W' : World} (h : BoxA b kd s a x v W) (hl : LikeG W W') : BoxA b kd s a x v W' :=
  ⟨(hl.cell _).trans h.c0, (hl.cell _).trans h.c1, (hl.cell _).trans h.c2, (hl.cell _).trans h.c3, (hl.cell _).trans h.c4⟩
theorem BoxA.out {b : Nat} {kd s a x : Int} {v : Value} {S : Nat → Prop} {W W' : World} (h : BoxA b kd s a x v W) (ho : Out S W W') (hb : ¬ S b) : BoxA b kd s a x v W' := by
  have hlt := World.block_lt_of_cell? W _ h.c0
  exact ⟨(ho.cell (p := ⟨b, 0, none⟩) hlt hb).trans h.c0, (ho.cell (p := ⟨b, 1, none⟩) hlt hb).trans h.c1, (ho.cell (p := ⟨b, 2, none⟩) hlt hb).trans h.c2, (ho.cell (p := ⟨b, 3, none⟩) hlt hb).trans h.c3, (ho.cell (p := ⟨b, 4, none⟩) hlt hb).trans h.c4⟩
end Go.Proofs.Ytghclbeoabkgcaa
