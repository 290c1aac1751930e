/- The document's machine: set, jump, alu, taken. -/
import Derived.Test.YtmlhoagcppofgaaGreatDoorGO
import Derived.Test.YtmlhoagcppofgaaGreatDoorGG
import Derived.Test.YtmlhoagcppofgaaGreatDoorGK
namespace Go.Proofs.YtmlhoagcppofgaaGreatDoor
open Go Go.RowKit Pl
set_option linter.unusedVariables false

def ifA {α : Type} (to : Nat) (x y : α) : α := if to % 4 = 0 then x else y
theorem ifA_yes {α : Type} {to : Nat} (h : to % 4 = 0) (x y : α) : ifA to x y = x := if_pos h
theorem ifA_no {α : Type} {to : Nat} (h : to % 4 ≠ 0) (x y : α) : ifA to x y = y := if_neg h
end Go.Proofs.YtmlhoagcppofgaaGreatDoor

namespace Go.Proofs.YtmlhoagcppofgaaGreatDoor
open Go Go.RowKit Pl
set_option linter.unusedVariables false

/-- where the document's machine may change -/
def RY (Y X : Nat) (v : Value) (j : Nat) : Prop := j = Y ∨ RS X v j
/-- the document's machine over its memory, as far as it has come from W; own blocks of its memory are elder ones, or from b0 on -/
structure RSt (Y X B f n1 rr n2 pc : Nat) (r : Nat → Nat) (L : List (Nat × Nat)) (v : Value) (b0 : Nat) (W V : World) : Prop where
  mach : MachIs Y X pc r V
  out : Out (RY Y X v) W V
  mem : ∃ v', RefIs X B f n1 rr n2 L v' V ∧ ∀ j, v'.ownBlock = some j → v.ownBlock = some j ∨ b0 ≤ j
theorem RefIs.own_lt {X B f n1 r n2 : Nat} {L : List (Nat × Nat)} {v : Value} {W : World} (h : RefIs X B f n1 r n2 L v W) (j : Nat) (hj : v.ownBlock = some j) : B ≤ j ∧ j < W.heap.size := by
  rcases h.own.2 with ⟨rfl, _⟩ | ⟨g, cap, cur, rfl, h1, h2, _⟩
  · cases hj
  · obtain rfl : g = j := Option.some.inj hj
    exact ⟨h1, (Array.getElem?_eq_some_iff.1 h2).1⟩
theorem RSt.step {Y X B f n1 rr n2 pc k : Nat} {r : Nat → Nat} {L : List (Nat × Nat)} {v : Value} {b0 : Nat} {W V V' : World} (h : RSt Y X B f n1 rr n2 pc r L v b0 W V) (ho : Out (· = k) V V') (h1 : W.heap.size ≤ k) (h2 : k < b0) (hY : Y < W.heap.size) (hX : X < W.heap.size) (hv : ∀ j, v.ownBlock = some j → j < W.heap.size) : RSt Y X B f n1 rr n2 pc r L v b0 W V' := by
  obtain ⟨v', m1, m2⟩ := h.mem
  refine ⟨h.mach.out ho (by omega), ?_, v', m1.out ho (by omega) (fun j hj e => ?_), m2⟩
  · exact ⟨ho.os.trans h.out.os, ho.tape.trans h.out.tape, ho.output.trans h.out.output, Nat.le_trans h.out.size ho.size, fun j hj hs => (ho.block j (Nat.lt_of_lt_of_le hj h.out.size) (by omega)).trans (h.out.block j hj hs)⟩
  · rcases m2 j hj with g | g
    · have := hv j g; omega
    · omega
theorem RSt.fin {Y X B f n1 rr n2 pc RB : Nat} {r : Nat → Nat} {L : List (Nat × Nat)} {v : Value} {b0 : Nat} {W w3 V : World} {p w p' w' : Nat} {k k' : Int} {a a' : Nat} {s s' : Int} (hV : setEv w3 RB p w k a s = V) (hz : EvAt RB p' w' k' a' s' w3) (h : RSt Y X B f n1 rr n2 pc r L v b0 W w3)
    (h1 : W.heap.size ≤ RB) (h2 : RB < b0) (hY : Y < W.heap.size) (hX : X < W.heap.size) (hv : ∀ j, v.ownBlock = some j → j < W.heap.size) : EvAt RB p w k a s V ∧ RSt Y X B f n1 rr n2 pc r L v b0 W V := by
  have ev := setEv_at hz p w k a s
  have o4 := setEv_out w3 RB p w k a s
  rw [hV] at ev o4
  exact ⟨ev, h.step o4 h1 h2 hY hX hv⟩
/-- nothing has happened yet -/
theorem RSt.of {Y X B f n1 rr n2 pc : Nat} {r : Nat → Nat} {L : List (Nat × Nat)} {v : Value} {W V : World} (hm : MachIs Y X pc r W) (hr : RefIs X B f n1 rr n2 L v W) (hb : Below W.heap.size W V) (b0 : Nat) : RSt Y X B f n1 rr n2 pc r L v b0 W V :=
  ⟨hm.below hb, .of_below _ hb, v, hr.out (.of_below (fun _ => False) hb) id (fun _ _ => id), fun j hj => .inl hj⟩
/-- the machine's own block has turned -/
theorem RSt.ofY {Y X B f n1 rr n2 pc pc' : Nat} {r r' : Nat → Nat} {L : List (Nat × Nat)} {v : Value} {b0 : Nat} {W V V' : World} (h : RSt Y X B f n1 rr n2 pc r L v b0 W V) (hm : MachIs Y X pc' r' V') (ho : Out (· = Y) V V') (hYX : Y ≠ X) (hYB : Y < B) (hYW : Y < W.heap.size) : RSt Y X B f n1 rr n2 pc' r' L v b0 W V' := by
  obtain ⟨v', m1, m2⟩ := h.mem
  refine ⟨hm, h.out.trans (ho.mono fun j e => .inl e), v', m1.out ho (fun e => hYX e.symm) (fun j hj e => ?_), m2⟩
  have := m1.own_lt j hj
  omega
/-- a store of the document's memory -/
theorem RSt.ofS {Y X B f n1 rr n2 pc : Nat} {r : Nat → Nat} {L' : List (Nat × Nat)} {v v' : Value} {W V V' : World} (hm : MachIs Y X pc r V) (hb : Below W.heap.size W V) (hr : RefIs X B f n1 rr n2 L' v' V') (ho : Out (RS X v) V V') (hf : Fresh v v' V) (hYX : Y ≠ X) (hYB : Y < B) (hv : ∀ j, v.ownBlock = some j → B ≤ j) : RSt Y X B f n1 rr n2 pc r L' v V.heap.size W V' :=
  ⟨hm.out ho (fun g => by rcases g with g | g; exact hYX g; have := hv _ g; omega), (Out.of_below _ hb).trans (ho.mono fun j e => .inr e), v', hr, hf⟩
theorem four_alloc (W : World) (o1 o2 o3 o4 : Obj) : ((((W.alloc o1).alloc o2).alloc o3).alloc o4).heap[W.heap.size]? = some o1 ∧ ((((W.alloc o1).alloc o2).alloc o3).alloc o4).heap[W.heap.size + 1]? = some o2 ∧ ((((W.alloc o1).alloc o2).alloc o3).alloc o4).heap[W.heap.size + 2]? = some o3 ∧ ((((W.alloc o1).alloc o2).alloc o3).alloc o4).heap[W.heap.size + 3]? = some o4 ∧ Below W.heap.size W ((((W.alloc o1).alloc o2).alloc o3).alloc o4) := by
  obtain ⟨h1, h2, h3, h4⟩ := three_alloc W o1 o2 o3
  have sz : (((W.alloc o1).alloc o2).alloc o3).heap.size = W.heap.size + 3 := by simp
  refine ⟨?_, ?_, ?_, ?_, h4.alloc (by omega) _⟩
  · rw [heap_alloc_old _ _ (by omega)]; exact h1
  · rw [heap_alloc_old _ _ (by omega)]; exact h2
  · rw [heap_alloc_old _ _ (by omega)]; exact h3
  · rw [← sz, heap_alloc_new]
theorem row8 (o : Int) (j : Nat) (hj : o - 28 = (j : Int)) (hj8 : j < 8) : (#[.int .i64 1, .int .i64 2, .int .i64 4, .int .i64 1, .int .i64 2, .int .i64 1, .int .i64 2, .int .i64 4] : Array Value)[j]? = some (.int .i64 (sizeC o : Nat)) := by
  obtain rfl : o = 28 + (j : Int) := by omega
  obtain rfl | rfl | rfl | rfl | rfl | rfl | rfl | rfl : j = 0 ∨ j = 1 ∨ j = 2 ∨ j = 3 ∨ j = 4 ∨ j = 5 ∨ j = 6 ∨ j = 7 := by omega
  all_goals simp [sizeC]
theorem sizeC_is' (o : Int) : sizeC o = 1 ∨ sizeC o = 2 ∨ sizeC o = 4 := by unfold sizeC; split; simp; split <;> simp
end Go.Proofs.YtmlhoagcppofgaaGreatDoor
