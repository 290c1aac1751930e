/- Contract of lirrun's next, and of its do at a loop's end. -/
import Derived.Test.YtghclbeoabkgcaaLrDa
import Derived.Test.YtghclbeoabkgcaaFive
namespace Go.Proofs.Ytghclbeoabkgcaa
open Go Go.RowKit Pl
set_option linter.unusedVariables false

set_option maxHeartbeats 2000000 in
theorem do_24 (B D A E : Nat) (imm : Int) (mp : Option Addr) (f : Nat → Int) (w : World) (hD : D < 64) (hA : A < 64) (hE : E < 64) (hm : MachV B mp f w) :
    Calls Try.prog 42 #[.pointer (some ⟨B, 0, none⟩), .agg #[.int .i64 24, .int .i64 D, .int .i64 A, .int .i64 E, .int .i32 imm]] w fun e w' => e = .returned (.int .i64 0) ∧ Below w.heap.size w w' := by
  have cA := hm.v A hA
  have cE := hm.v E hE
  have lt := hm.lt
  have gA : (A : Int) < 64 := by omega
  have gE : (E : Int) < 64 := by omega
  have pA : (0 : Int) ≤ (A : Int) := by omega
  have pE : (0 : Int) ≤ (E : Int) := by omega
  clear hm
  go_enter Try.func42, Try.ntmps42
  go_wp2_with fail
  go_region
  go_wp2_with fail
  go_ret
  exact ⟨rfl, by go_grown⟩
set_option maxHeartbeats 2000000 in
theorem next_plain (B b0 off c k : Nat) (ev : Value) (n : Nat) (x : Q5) (w : World) (hk : k < n) (hn : n ≤ 1000) (hx : (x.o == 24) = false) (h0 : w.cell? ⟨b0, off + k * 5, none⟩ = some (.int .i64 x.o)) :
    Calls Try.prog 43 #[.pointer (some ⟨B, 0, none⟩), .slice (some ⟨b0, off, none⟩) n c, ev, .int .i64 k] w fun e w' => e = .returned (.int .i64 ((k : Int) + 1)) ∧ Below w.heap.size w w' := by
  have u1 := IntWalk.i64_in ((k : Int) + 1) (by omega)
  have g0 : (0 : Int) ≤ (k : Int) := by omega
  have g1 : (k : Int) < (n : Int) := by omega
  have hx' : (x.o != 24) = true := by simp at hx ⊢; exact hx
  go_enter Try.func43, Try.ntmps43
  go_wp2_with fail
  go_ret
  exact ⟨rfl, by go_grown⟩
theorem upd_cell {w : World} {a : Addr} {f : Nat → Int} {D : Nat} {x : Int} (h : w.cell? a = some (.int .u32 (upd f D x D))) : w.cell? a = some (.int .u32 x) := by
  unfold upd at h
  rw [if_pos rfl] at h
  exact h
set_option maxHeartbeats 4000000 in
theorem next_again (B b0 off c be eo k b D n m ce : Nat) (mp : Option Addr) (f : Nat → Int) (x : Int) (w : World) (hx : Hid (x = (f D - 1) % 4294967296)) (hz : (x == 0) = false) (hk : k < n) (hb : b < n) (hn : n ≤ 1000) (hkm : k < m) (hm : MachV B mp f w) (hf : WordsF f) (hD : D < 64)
    (h0 : w.cell? ⟨b0, off + k * 5, none⟩ = some (.int .i64 24)) (h1 : w.cell? ⟨be, eo + k, none⟩ = some (.int .i64 b)) (h2 : w.cell? ⟨b0, off + b * 5 + 1, none⟩ = some (.int .i64 D)) (hB : b0 ≠ B) (hBe : be ≠ B) :
    Calls Try.prog 43 #[.pointer (some ⟨B, 0, none⟩), .slice (some ⟨b0, off, none⟩) n c, .slice (some ⟨be, eo, none⟩) m ce, .int .i64 k] w fun e w' => e = .returned (.int .i64 ((b : Int) + 1)) ∧ MachV B mp (upd f D x) w' ∧ w.grownBy w' (some B) := by
  have u1 := IntWalk.i64_in ((k : Int) + 1) (by omega)
  have u2 := IntWalk.i64_in ((b : Int) + 1) (by omega)
  have g0 : (0 : Int) ≤ (k : Int) := by omega
  have g1 : (k : Int) < (n : Int) := by omega
  have g2 : (k : Int) < (m : Int) := by omega
  have g3 : (0 : Int) ≤ (b : Int) := by omega
  have g4 : (b : Int) < (n : Int) := by omega
  have g5 : (0 : Int) ≤ (D : Int) := by omega
  have g6 : (D : Int) < 64 := by omega
  have cD := hm.v D hD
  have zD := hm.fz D (by omega)
  have HM := Lib.hid hm
  clear hm
  have M2 := Lib.hid (machV_set (x := (f D - 1) % 4294967296) HM.out hD).drew
  have G2 := Lib.hid (grownS_drew (grownS_set (k := D) (x := .int .u32 ((f D - 1) % 4294967296)) (World.grownBy.refl w (some B))))
  have hz2 := Lib.hid hz
  clear hz
  go_enter Try.func43, Try.ntmps43
  go_wp2_with fail
  go_region
  generalize World.drew (World.setCell _ _ _) = W2 at *
  clear h0 h1 h2 cD zD
  have cD : W2.cell? ⟨B, D, none⟩ = some (.int .u32 ((f D - 1) % 4294967296)) := upd_cell (M2.out.v D hD)
  rw [← hx.out] at cD
  have M3 := Lib.hid (show MachV B mp (upd f D x) W2 from hx.out ▸ M2.out)
  have G3 := Lib.hid G2.out
  clear M2 G2
  have hz3 : (x == 0) = false := hz2.out
  have hz4 : (x != 0) = true := by simp at hz3 ⊢; exact hz3
  go_wp2_with fail
  go_ret
  exact ⟨rfl, M3.out, G3.out⟩
set_option maxHeartbeats 4000000 in
theorem next_out (B b0 off c be eo k b D n m ce : Nat) (mp : Option Addr) (f : Nat → Int) (x : Int) (w : World) (hx : Hid (x = (f D - 1) % 4294967296)) (hz : (x == 0) = true) (hk : k < n) (hb : b < n) (hn : n ≤ 1000) (hkm : k < m) (hm : MachV B mp f w) (hf : WordsF f) (hD : D < 64)
    (h0 : w.cell? ⟨b0, off + k * 5, none⟩ = some (.int .i64 24)) (h1 : w.cell? ⟨be, eo + k, none⟩ = some (.int .i64 b)) (h2 : w.cell? ⟨b0, off + b * 5 + 1, none⟩ = some (.int .i64 D)) (hB : b0 ≠ B) (hBe : be ≠ B) :
    Calls Try.prog 43 #[.pointer (some ⟨B, 0, none⟩), .slice (some ⟨b0, off, none⟩) n c, .slice (some ⟨be, eo, none⟩) m ce, .int .i64 k] w fun e w' => e = .returned (.int .i64 ((k : Int) + 1)) ∧ MachV B mp (upd f D x) w' ∧ w.grownBy w' (some B) := by
  have u1 := IntWalk.i64_in ((k : Int) + 1) (by omega)
  have u2 := IntWalk.i64_in ((b : Int) + 1) (by omega)
  have g0 : (0 : Int) ≤ (k : Int) := by omega
  have g1 : (k : Int) < (n : Int) := by omega
  have g2 : (k : Int) < (m : Int) := by omega
  have g3 : (0 : Int) ≤ (b : Int) := by omega
  have g4 : (b : Int) < (n : Int) := by omega
  have g5 : (0 : Int) ≤ (D : Int) := by omega
  have g6 : (D : Int) < 64 := by omega
  have cD := hm.v D hD
  have zD := hm.fz D (by omega)
  have HM := Lib.hid hm
  clear hm
  have M2 := Lib.hid (machV_set (x := (f D - 1) % 4294967296) HM.out hD).drew
  have G2 := Lib.hid (grownS_drew (grownS_set (k := D) (x := .int .u32 ((f D - 1) % 4294967296)) (World.grownBy.refl w (some B))))
  have hz2 := Lib.hid hz
  clear hz
  go_enter Try.func43, Try.ntmps43
  go_wp2_with fail
  go_region
  generalize World.drew (World.setCell _ _ _) = W2 at *
  clear h0 h1 h2 cD zD
  have cD : W2.cell? ⟨B, D, none⟩ = some (.int .u32 ((f D - 1) % 4294967296)) := upd_cell (M2.out.v D hD)
  rw [← hx.out] at cD
  have M3 := Lib.hid (show MachV B mp (upd f D x) W2 from hx.out ▸ M2.out)
  have G3 := Lib.hid G2.out
  clear M2 G2
  have hz3 : (x == 0) = true := hz2.out
  have hz4 : (x != 0) = false := by simp at hz3 ⊢; exact hz3
  go_wp2_with fail
  go_ret
  exact ⟨rfl, M3.out, G3.out⟩
end Go.Proofs.Ytghclbeoabkgcaa
