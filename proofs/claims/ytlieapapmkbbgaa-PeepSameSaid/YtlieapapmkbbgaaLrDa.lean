/- Contract of one step of the program's machine for loop programs (lirrun's do). -/
import Derived.Test.YtlieapapmkbbgaaOpen
import Derived.Test.YtlieapapmkbbgaaGA
import Derived.WalkSpells
import Derived.WalkSmall
import Derived.Handy
import Derived.Lib.Hide
import Derived.BigQuiet
import Derived.Laws.StructEq
import Derived.Deep.QuietTactic
import Derived.OwnWalk
import Derived.Deep.OwnRows
import Derived.BigRegion
import Derived.Deep.RegionHeld3
namespace Go.Proofs.Ytlieapapmkbbgaa
open Go Go.RowKit Pl
set_option linter.unusedVariables false

/-- the machine in its block: variables, a memory -/
structure MachV (B : Nat) (mp : Option Addr) (f : Nat → Int) (w : World) : Prop where
  v : ∀ k, k < 64 → w.cell? ⟨B, k, none⟩ = some (.int .u32 (f k))
  m : w.cell? ⟨B, 64, none⟩ = some (.pointer mp)
  fz : ∀ k, k < 65 → w.frozen? ⟨B, k, none⟩ = false
  lt : B < w.heap.size
theorem MachV.grown {B : Nat} {mp : Option Addr} {f : Nat → Int} {w w' : World} (h : MachV B mp f w) (hb : Below w.heap.size w w') : MachV B mp f w' :=
  ⟨fun k hk => (hb.cell (by exact h.lt)).trans (h.v k hk), (hb.cell (by exact h.lt)).trans h.m, fun k hk => (hb.frozen (by exact h.lt)).trans (h.fz k hk), Nat.lt_of_lt_of_le h.lt hb.size⟩
theorem MachV.drew {B : Nat} {mp : Option Addr} {f : Nat → Int} {w : World} (h : MachV B mp f w) : MachV B mp f w.drew := ⟨h.v, h.m, h.fz, h.lt⟩
theorem machV_set {B D : Nat} {mp : Option Addr} {f : Nat → Int} {x : Int} {w : World} (h : MachV B mp f w) (hD : D < 64) : MachV B mp (upd f D x) (w.setCell ⟨B, D, none⟩ (.int .u32 x)) := by
  refine ⟨fun k hk => ?_, ?_, fun k hk => ?_, ?_⟩
  · unfold upd
    by_cases g : k = D
    · subst g; rw [if_pos rfl]; exact World.cell?_setCell_same _ _ _ (h.v k hk)
    · rw [if_neg g, World.cell?_setCell_other (h := fun e => g (by injection e with _ e2 _; omega))]; exact h.v k hk
  · rw [World.cell?_setCell_other (h := fun e => by injection e with _ e2 _; omega)]; exact h.m
  · rw [World.frozen?_setCell]; exact h.fz k hk
  · rw [World.size_setCell]; exact h.lt
theorem grownS_set {w w1 : World} {B k : Nat} {x : Value} (h : w.grownBy w1 (some B)) : w.grownBy (w1.setCell ⟨B, k, none⟩ x) (some B) := by
  refine ⟨h.os, h.tape, h.output, by rw [World.size_setCell]; exact h.size, fun i hi hne => ?_⟩
  rw [← h.block i hi hne]
  exact Below.heap_setCell _ _ _ _ (fun e => hne (by rw [e]))
theorem grownS_alloc {w w1 : World} {r : Option Nat} (h : w.grownBy w1 r) (o : Obj) : w.grownBy (w1.alloc o) r := by
  refine ⟨h.os, h.tape, h.output, ?_, fun i hi hne => ?_⟩
  · have := h.size; simp; omega
  · rw [heap_alloc_old _ _ (by have := h.size; omega)]; exact h.block i hi hne
theorem grownS_drew {w w1 : World} {r : Option Nat} (h : w.grownBy w1 r) : w.grownBy w1.drew r := ⟨h.os, h.tape, h.output, h.size, h.block⟩
theorem aluB {W w9 : World} (h : W.drew = w9) : Below W.heap.size W w9 := by
  subst h
  exact (Below.refl _ _).drew
set_option maxRecDepth 100000 in
set_option maxHeartbeats 4000000 in
theorem do_1 (B D A E : Nat) (mp : Option Addr) (imm : Int) (f : Nat → Int) (w : World) (hD : D < 64) (hA : A < 64) (hE : E < 64) (hm : MachV B mp f w) (hf : WordsF f) :
    Calls Try.prog 20 #[.pointer (some ⟨B, 0, none⟩), .agg #[.int .i64 1, .int .i64 D, .int .i64 A, .int .i64 E, .int .i32 imm]] w fun e w' => e = .returned (.int .i64 0) ∧ MachV B mp (upd f D (imm % 4294967296)) w' ∧ w.grownBy w' (some B) := by
  have cA := hm.v A hA
  have cE := hm.v E hE
  have cD := hm.v D hD
  have zD := hm.fz D (by omega)
  have lt := hm.lt
  have gA : (A : Int) < 64 := by omega
  have gE : (E : Int) < 64 := by omega
  have gD : (D : Int) < 64 := by omega
  have pA : (0 : Int) ≤ (A : Int) := by omega
  have pE : (0 : Int) ≤ (E : Int) := by omega
  have pD : (0 : Int) ≤ (D : Int) := by omega
  have M2 := Lib.hid (((machV_set (x := imm % 4294967296) hm hD).grown (w' := (w.setCell ⟨B, D, none⟩ (.int .u32 (imm % 4294967296))).alloc (.cells #[.int .i64 1, .int .i64 D, .int .i64 A, .int .i64 E, .int .i32 imm] 46)) ((Below.refl _ _).alloc (Nat.le_refl _) _)).drew).drew
  have G2 := Lib.hid (grownS_drew (grownS_drew (grownS_alloc (grownS_set (k := D) (x := .int .u32 (imm % 4294967296)) (World.grownBy.refl w (some B))) (.cells #[.int .i64 1, .int .i64 D, .int .i64 A, .int .i64 E, .int .i32 imm] 46))))
  clear hm hf
  go_enter Try.func20, Try.ntmps20
  go_wp2_with fail
  go_region
  go_wp2_with fail
  go_region
  generalize World.drew (World.drew _) = W2 at *
  clear cA cE cD zD
  go_wp2_with fail
  go_ret
  exact ⟨rfl, M2.out, G2.out⟩

set_option maxRecDepth 100000 in
set_option maxHeartbeats 4000000 in
theorem do_2 (B D A E : Nat) (mp : Option Addr) (imm : Int) (f : Nat → Int) (w : World) (hD : D < 64) (hA : A < 64) (hE : E < 64) (hm : MachV B mp f w) (hf : WordsF f) :
    Calls Try.prog 20 #[.pointer (some ⟨B, 0, none⟩), .agg #[.int .i64 2, .int .i64 D, .int .i64 A, .int .i64 E, .int .i32 imm]] w fun e w' => e = .returned (.int .i64 0) ∧ MachV B mp (upd f D (f A)) w' ∧ w.grownBy w' (some B) := by
  have cA := hm.v A hA
  have cE := hm.v E hE
  have cD := hm.v D hD
  have zD := hm.fz D (by omega)
  have lt := hm.lt
  have gA : (A : Int) < 64 := by omega
  have gE : (E : Int) < 64 := by omega
  have gD : (D : Int) < 64 := by omega
  have pA : (0 : Int) ≤ (A : Int) := by omega
  have pE : (0 : Int) ≤ (E : Int) := by omega
  have pD : (0 : Int) ≤ (D : Int) := by omega
  have M2 := Lib.hid (((machV_set (x := f A) hm hD).grown (w' := (w.setCell ⟨B, D, none⟩ (.int .u32 (f A))).alloc (.cells #[.int .i64 2, .int .i64 D, .int .i64 A, .int .i64 E, .int .i32 imm] 46)) ((Below.refl _ _).alloc (Nat.le_refl _) _)).drew).drew
  have G2 := Lib.hid (grownS_drew (grownS_drew (grownS_alloc (grownS_set (k := D) (x := .int .u32 (f A)) (World.grownBy.refl w (some B))) (.cells #[.int .i64 2, .int .i64 D, .int .i64 A, .int .i64 E, .int .i32 imm] 46))))
  clear hm hf
  go_enter Try.func20, Try.ntmps20
  go_wp2_with fail
  go_region
  go_wp2_with fail
  go_region
  generalize World.drew (World.drew _) = W2 at *
  clear cA cE cD zD
  go_wp2_with fail
  go_ret
  exact ⟨rfl, M2.out, G2.out⟩

set_option maxRecDepth 100000 in
set_option maxHeartbeats 4000000 in
theorem do_13 (B D A E : Nat) (mp : Option Addr) (imm : Int) (f : Nat → Int) (w : World) (hD : D < 64) (hA : A < 64) (hE : E < 64) (hm : MachV B mp f w) (hf : WordsF f) :
    Calls Try.prog 20 #[.pointer (some ⟨B, 0, none⟩), .agg #[.int .i64 13, .int .i64 D, .int .i64 A, .int .i64 E, .int .i32 imm]] w fun e w' => e = .returned (.int .i64 0) ∧ MachV B mp (upd f D ((f A + imm) % 4294967296)) w' ∧ w.grownBy w' (some B) := by
  have cA := hm.v A hA
  have cE := hm.v E hE
  have cD := hm.v D hD
  have zD := hm.fz D (by omega)
  have lt := hm.lt
  have gA : (A : Int) < 64 := by omega
  have gE : (E : Int) < 64 := by omega
  have gD : (D : Int) < 64 := by omega
  have pA : (0 : Int) ≤ (A : Int) := by omega
  have pE : (0 : Int) ≤ (E : Int) := by omega
  have pD : (0 : Int) ≤ (D : Int) := by omega
  have M2 := Lib.hid (((machV_set (x := (f A + imm) % 4294967296) hm hD).grown (w' := (w.setCell ⟨B, D, none⟩ (.int .u32 ((f A + imm) % 4294967296))).alloc (.cells #[.int .i64 13, .int .i64 D, .int .i64 A, .int .i64 E, .int .i32 imm] 46)) ((Below.refl _ _).alloc (Nat.le_refl _) _)).drew).drew
  have G2 := Lib.hid (grownS_drew (grownS_drew (grownS_alloc (grownS_set (k := D) (x := .int .u32 ((f A + imm) % 4294967296)) (World.grownBy.refl w (some B))) (.cells #[.int .i64 13, .int .i64 D, .int .i64 A, .int .i64 E, .int .i32 imm] 46))))
  clear hm hf
  go_enter Try.func20, Try.ntmps20
  go_wp2_with fail
  go_region
  go_wp2_with fail
  go_region
  generalize World.drew (World.drew _) = W2 at *
  clear cA cE cD zD
  go_wp2_with fail
  go_ret
  exact ⟨rfl, M2.out, G2.out⟩

set_option maxRecDepth 100000 in
set_option maxHeartbeats 4000000 in
theorem do_23 (B D A E : Nat) (mp : Option Addr) (imm : Int) (f : Nat → Int) (w : World) (hD : D < 64) (hA : A < 64) (hE : E < 64) (hm : MachV B mp f w) (hf : WordsF f) :
    Calls Try.prog 20 #[.pointer (some ⟨B, 0, none⟩), .agg #[.int .i64 23, .int .i64 D, .int .i64 A, .int .i64 E, .int .i32 imm]] w fun e w' => e = .returned (.int .i64 0) ∧ MachV B mp (upd f D (imm % 4294967296)) w' ∧ w.grownBy w' (some B) := by
  have cA := hm.v A hA
  have cE := hm.v E hE
  have cD := hm.v D hD
  have zD := hm.fz D (by omega)
  have lt := hm.lt
  have gA : (A : Int) < 64 := by omega
  have gE : (E : Int) < 64 := by omega
  have gD : (D : Int) < 64 := by omega
  have pA : (0 : Int) ≤ (A : Int) := by omega
  have pE : (0 : Int) ≤ (E : Int) := by omega
  have pD : (0 : Int) ≤ (D : Int) := by omega
  have M2 := Lib.hid (((machV_set (x := imm % 4294967296) hm hD).grown (w' := (w.setCell ⟨B, D, none⟩ (.int .u32 (imm % 4294967296))).alloc (.cells #[.int .i64 23, .int .i64 D, .int .i64 A, .int .i64 E, .int .i32 imm] 46)) ((Below.refl _ _).alloc (Nat.le_refl _) _)).drew).drew
  have G2 := Lib.hid (grownS_drew (grownS_drew (grownS_alloc (grownS_set (k := D) (x := .int .u32 (imm % 4294967296)) (World.grownBy.refl w (some B))) (.cells #[.int .i64 23, .int .i64 D, .int .i64 A, .int .i64 E, .int .i32 imm] 46))))
  clear hm hf
  go_enter Try.func20, Try.ntmps20
  go_wp2_with fail
  go_region
  go_wp2_with fail
  go_region
  generalize World.drew (World.drew _) = W2 at *
  clear cA cE cD zD
  go_wp2_with fail
  go_ret
  exact ⟨rfl, M2.out, G2.out⟩
end Go.Proofs.Ytlieapapmkbbgaa
