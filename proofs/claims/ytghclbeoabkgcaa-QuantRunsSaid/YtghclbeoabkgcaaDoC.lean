/- Contract of one step of the program's machine for loop programs: more operations. -/
import Derived.Test.YtghclbeoabkgcaaDo
namespace Go.Proofs.Ytghclbeoabkgcaa
open Go Go.RowKit Pl
set_option linter.unusedVariables false


set_option maxRecDepth 100000 in
set_option maxHeartbeats 4000000 in
theorem do_14 (B D A E : Nat) (imm : Int) (f : Nat → Int) (w : World) (hD : D < 64) (hA : A < 64) (hE : E < 64) (hm : MachS B f w) (hf : WordsF f) (hi : 0 ≤ imm ∧ imm ≤ 31) :
    Calls Try.prog 42 #[.pointer (some ⟨B, 0, none⟩), .agg #[.int .i64 14, .int .i64 D, .int .i64 A, .int .i64 E, .int .i32 imm]] w fun e w' => e = .returned (.int .i64 0) ∧ MachS B (upd f D (f A * 2 ^ imm.toNat % 4294967296)) w' ∧ w.grownBy w' (some B) := by
  have cA := hm.v A hA
  have cE := hm.v E hE
  have cD := hm.v D hD
  have zD := hm.fz D (by omega)
  have lt := hm.lt
  have gA : (A : Int) < 64 := by omega
  have gE : (E : Int) < 64 := by omega
  have gD : (D : Int) < 64 := by omega
  have pA : (0 : Int) ≤ (A : Int) := by omega
  have pE : (0 : Int) ≤ (E : Int) := by omega
  have pD : (0 : Int) ≤ (D : Int) := by omega
  have M2 := Lib.hid (((machS_set (x := f A * 2 ^ imm.toNat % 4294967296) hm hD).grown (w' := (w.setCell ⟨B, D, none⟩ (.int .u32 (f A * 2 ^ imm.toNat % 4294967296))).alloc (.cells #[.int .i64 14, .int .i64 D, .int .i64 A, .int .i64 E, .int .i32 imm] 29)) ((Below.refl _ _).alloc (Nat.le_refl _) _)).drew).drew
  have G2 := Lib.hid (grownS_drew (grownS_drew (grownS_alloc (grownS_set (k := D) (x := .int .u32 (f A * 2 ^ imm.toNat % 4294967296)) (World.grownBy.refl w (some B))) (.cells #[.int .i64 14, .int .i64 D, .int .i64 A, .int .i64 E, .int .i32 imm] 29))))
  clear hm hf
  go_enter Try.func42, Try.ntmps42
  go_wp2_with fail
  go_region
  go_wp2_with fail
  go_region
  generalize World.drew (World.drew _) = W2 at *
  clear cA cE cD zD
  go_wp2_with fail
  go_ret
  exact ⟨rfl, M2.out, G2.out⟩

set_option maxRecDepth 100000 in
set_option maxHeartbeats 4000000 in
theorem do_15 (B D A E : Nat) (imm : Int) (f : Nat → Int) (w : World) (hD : D < 64) (hA : A < 64) (hE : E < 64) (hm : MachS B f w) (hf : WordsF f) (hi : 0 ≤ imm ∧ imm ≤ 31) :
    Calls Try.prog 42 #[.pointer (some ⟨B, 0, none⟩), .agg #[.int .i64 15, .int .i64 D, .int .i64 A, .int .i64 E, .int .i32 imm]] w fun e w' => e = .returned (.int .i64 0) ∧ MachS B (upd f D (f A / 2 ^ imm.toNat)) w' ∧ w.grownBy w' (some B) := by
  have cA := hm.v A hA
  have cE := hm.v E hE
  have cD := hm.v D hD
  have zD := hm.fz D (by omega)
  have lt := hm.lt
  have gA : (A : Int) < 64 := by omega
  have gE : (E : Int) < 64 := by omega
  have gD : (D : Int) < 64 := by omega
  have pA : (0 : Int) ≤ (A : Int) := by omega
  have pE : (0 : Int) ≤ (E : Int) := by omega
  have pD : (0 : Int) ≤ (D : Int) := by omega
  have M2 := Lib.hid (((machS_set (x := f A / 2 ^ imm.toNat) hm hD).grown (w' := (w.setCell ⟨B, D, none⟩ (.int .u32 (f A / 2 ^ imm.toNat))).alloc (.cells #[.int .i64 15, .int .i64 D, .int .i64 A, .int .i64 E, .int .i32 imm] 29)) ((Below.refl _ _).alloc (Nat.le_refl _) _)).drew).drew
  have G2 := Lib.hid (grownS_drew (grownS_drew (grownS_alloc (grownS_set (k := D) (x := .int .u32 (f A / 2 ^ imm.toNat)) (World.grownBy.refl w (some B))) (.cells #[.int .i64 15, .int .i64 D, .int .i64 A, .int .i64 E, .int .i32 imm] 29))))
  clear hm hf
  go_enter Try.func42, Try.ntmps42
  go_wp2_with fail
  go_region
  go_wp2_with fail
  go_region
  generalize World.drew (World.drew _) = W2 at *
  clear cA cE cD zD
  go_wp2_with fail
  go_ret
  exact ⟨rfl, M2.out, G2.out⟩
end Go.Proofs.Ytghclbeoabkgcaa
