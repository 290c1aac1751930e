/- Layer 10: Put into the one image's machine; Input. -/
import Derived.Test.YtohndfcbebeemaaDoorNoneA
import Derived.Laws.CopyOwn
namespace Go.Proofs.YtohndfcbebeemaaDoor
open Go Go.RowKit
set_option linter.unusedVariables false
/-- where four bytes lie in one of two rows of 64 -/
def lies4 (a : Nat) : Bool := decide (4096 ≤ a ∧ a ≤ 4156) || decide (8192 ≤ a ∧ a ≤ 8252)
/-- the same memory, whatever was drawn -/
def Like (W w' : World) : Prop := w'.heap = W.heap ∧ ∀ (B : Nat) (w : World), Below B w W → Below B w w'
theorem Like.drewN (W : World) (n : Nat) : Like W (W.drewN n) := ⟨rfl, fun B w h => h.trans ⟨rfl, rfl, rfl, Nat.le_refl _, fun _ _ => rfl⟩⟩
theorem Like.trans {a b c : World} (h : Like a b) (k : Like b c) : Like a c := ⟨k.1.trans h.1, fun B w hb => k.2 B w (h.2 B w hb)⟩
theorem Like.cell {a b : World} (h : Like a b) (p : Addr) : b.cell? p = a.cell? p := by unfold World.cell?; rw [h.1]
def PartIs (B n base a : Nat) (sl : Value) (b : Bool) : Prop := ∀ W, Calls Tryd.prog 74 #[.slice (some ⟨B, 0, none⟩) n n, .int .u32 (base : Int), .int .u32 (a : Int), .int .i64 4] W fun e w' => e = .returned (.tuple #[sl, .bool b]) ∧ W = w'
set_option maxRecDepth 100000 in
set_option maxHeartbeats 1000000 in
theorem within_first (M F R : Nat) (a : Nat) (W : World) (h0 : W.cell? ⟨M, 0, none⟩ = some (.int .u32 4096)) (h4 : W.cell? ⟨M, 4, none⟩ = some (.slice (some ⟨F, 0, none⟩) 64 64)) (sl : Value) (h : PartIs F 64 4096 a sl true) :
    Calls Tryd.prog 44 #[.pointer (some ⟨M, 0, none⟩), .int .u32 (a : Nat), .int .i64 4] W fun e w' => e = .returned (.tuple #[sl, .bool true]) ∧ Like W w' := by
  go_enter Tryd.func44, Tryd.ntmps44
  go_wp2
  go_quiet ((go_at_call 74; exact part_q h))
  rename_i nq
  go_wp2
  go_ret2
  exact ⟨rfl, .drewN _ _⟩
set_option maxRecDepth 100000 in
set_option maxHeartbeats 1000000 in
theorem within_second (M F R : Nat) (a : Nat) (W : World) (h0 : W.cell? ⟨M, 0, none⟩ = some (.int .u32 4096)) (h2 : W.cell? ⟨M, 2, none⟩ = some (.int .u32 8192)) (h4 : W.cell? ⟨M, 4, none⟩ = some (.slice (some ⟨F, 0, none⟩) 64 64)) (h5 : W.cell? ⟨M, 5, none⟩ = some (.slice (some ⟨R, 0, none⟩) 64 64))
    (h : PartIs F 64 4096 a (.slice none 0 0) false) (sl : Value) (b : Bool) (k : PartIs R 64 8192 a sl b) :
    Calls Tryd.prog 44 #[.pointer (some ⟨M, 0, none⟩), .int .u32 (a : Nat), .int .i64 4] W fun e w' => e = .returned (.tuple #[sl, .bool b]) ∧ Like W w' := by
  go_enter Tryd.func44, Tryd.ntmps44
  go_wp2
  go_quiet ((go_at_call 74; exact part_q h))
  rename_i nq
  have HL := Like.drewN W nq
  have h2' := (HL.cell _).trans h2
  have h5' := (HL.cell _).trans h5
  clear h0 h2 h4 h5 h
  generalize W.drewN nq = W1 at HL h2' h5'
  go_wp2
  go_quiet ((go_at_call 74; exact part_q k))
  rename_i nq2
  go_wp2
  go_ret2
  exact ⟨rfl, HL.trans (.drewN _ _)⟩
theorem part_at (G base a : Nat) (h : base ≤ a ∧ a ≤ base + 60) (ha : a < 4294967296) : PartIs G 64 base a (.slice (some ⟨G, a - base, none⟩) 4 (64 - (a - base))) true := fun W => part_yes G 64 base a 4 W (by omega) (by omega) (by omega) (by omega) (by omega) (by omega)
theorem part_no (G base a : Nat) (hb : base < 4294967296) (h : a < base ∨ base + 60 < a) (ha : a < 4294967296) : PartIs G 64 base a (.slice none 0 0) false := fun W => by
  rcases h with h | h
  · exact part_less G 64 base a 4 W h hb
  · exact part_more G 64 base a 4 W (by omega) (by omega) (by omega) (by omega) (by omega)
set_option maxRecDepth 100000 in
set_option maxHeartbeats 1000000 in
theorem put_yes (M G o : Nat) (a : Nat) (S : Nat) (w W : World) (B : Nat) (hw : Below B w W) (hB : B ≤ G) (cs : Array Value) (hG : W.heap[G]? = some (.cells cs 5 (0, 0))) (hs : 64 ≤ cs.size) (ho : o ≤ 60) (c : Nat)
    (src : ∀ j v, ([.int .u8 1, .int .u8 2, .int .u8 3, .int .u8 4] : List Value)[j]? = some v → W.cell? ((⟨S, 0, none⟩ : Addr).add j) = some v)
    (h : Calls Tryd.prog 44 #[.pointer (some ⟨M, 0, none⟩), .int .u32 (a : Nat), .int .i64 4] W fun e w' => e = .returned (.tuple #[.slice (some ⟨G, o, none⟩) 4 c, .bool true]) ∧ Like W w') :
    Calls Tryd.prog 32 #[.pointer (some ⟨M, 0, none⟩), .int .u32 (a : Nat), .slice (some ⟨S, 0, none⟩) 4 4] W fun e w' => e = .returned (.bool true) ∧ Below B w w' := by
  have HG := Lib.hid hG
  have HS := Lib.hid src
  have HW := Lib.hid hw
  clear hG src hw
  go_enter Tryd.func32, Tryd.ntmps32
  go_wp2_with fail
  refine h.mono ?_
  rintro e w1 ⟨rfl, hW⟩
  have HG2 := Lib.hid (show w1.heap[G]? = some (.cells cs 5 (0, 0)) by rw [hW.1]; exact HG.out)
  have HS2 := Lib.hid (show ∀ j v, ([.int .u8 1, .int .u8 2, .int .u8 3, .int .u8 4] : List Value)[j]? = some v → w1.cell? ((⟨S, 0, none⟩ : Addr).add j) = some v from fun j v hj => (hW.cell _).trans (HS.out j v hj))
  have HW2 := Lib.hid (show Below B w w1 from hW.2 _ _ HW.out)
  clear hW HG HS HW
  go_wp2_with (with_reducible refine wpList_copy_own rfl (.tmp 24) (.tmp 25) 51 51 rfl 5 Tryd.underlying51 (by kernel_rfl) G o 4 c ⟨S, 0, none⟩ 4 4 rfl rfl cs 5 HG2.out [.int .u8 1, .int .u8 2, .int .u8 3, .int .u8 4] rfl HS2.out (by simp only [List.length_cons, List.length_nil]; omega) (by decide) ?_)
  go_ret
  exact ⟨rfl, below_setRow HW2.out hB _⟩
set_option maxRecDepth 100000 in
set_option maxHeartbeats 1000000 in
theorem put_no (M : Nat) (a : Nat) (S : Nat) (W : World)
    (h : Calls Tryd.prog 44 #[.pointer (some ⟨M, 0, none⟩), .int .u32 (a : Nat), .int .i64 4] W fun e w' => e = .returned (.tuple #[.slice none 0 0, .bool false]) ∧ Like W w') :
    Calls Tryd.prog 32 #[.pointer (some ⟨M, 0, none⟩), .int .u32 (a : Nat), .slice (some ⟨S, 0, none⟩) 4 4] W fun e w' => e = .returned (.bool false) ∧ Like W w' := by
  go_enter Tryd.func32, Tryd.ntmps32
  go_wp2_with fail
  refine h.mono ?_
  rintro e w1 ⟨rfl, hL⟩
  go_wp2_with fail
  go_ret
  exact ⟨rfl, hL⟩
end Go.Proofs.YtohndfcbebeemaaDoor
