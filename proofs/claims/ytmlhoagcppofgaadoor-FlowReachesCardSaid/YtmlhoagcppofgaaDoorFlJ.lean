/- Package flow: Reach from no place; rows of bools compared. -/
import Derived.Test.YtmlhoagcppofgaaDoorFlI
namespace Go.Proofs.YtmlhoagcppofgaaDoor
open Go Go.RowKit Pl
set_option linter.unusedVariables false

set_option maxRecDepth 100000 in
set_option maxHeartbeats 1000000 in
theorem ireach_out (a : Option Addr) (c : Nat) (l : List Nat) (s : Int) (w : World) (hs : ¬ (0 ≤ s ∧ s < (l.length : Int))) (hl : l.length ≤ 30) :
    Calls Tryd.prog 16 #[.slice a l.length c, .int .i64 s] w fun e w' => ∃ g, e = .returned (.slice (some ⟨g, 0, none⟩) l.length l.length) ∧ BAt w' (some ⟨g, 0, none⟩) (fun _ => false) l.length ∧ Below w.heap.size w w' := by
  have hmk := fun W => run_make_row' (P := Tryd.prog) 42 4 (.bool false) 1 Tryd.underlying42 info_boolF rfl .i64 .i64 l.length (by omega) (by omega) W
  go_enter Tryd.func16, Tryd.ntmps16
  go_wp2_with fail
  have R0 := rc_begin w a l.length c (by omega)
  generalize World.alloc (World.alloc (World.alloc (World.alloc w _) _) _) _ = W1 at *
  refine (come_old s R0 (by omega) (fun j hj hjn => absurd (show 0 ≤ s ∧ s < (l.length : Int) by omega) hs)).mono ?_
  rintro e w1 ⟨rfl, rfl⟩
  clear hmk hs
  go_wp2_with fail
  go_loopg [] 0 (fun gk wr => RcIs w w.heap.size (w.heap.size + 1) (w.heap.size + 1 + 1) (w.heap.size + 1 + 1 + 1) a l.length c (fun _ => false) [] wr)
  case atStart => exact R0
  case round =>
    clear R0
    obtain ⟨x, bx, own⟩ := hrel.bx
    obtain ⟨ax, cx, rfl⟩ := own_formF own
    have cO := bx.cell
    have cA := hrel.cA
    have RW := Lib.hid hrel.row
    have BL := Lib.hid hrel.bl
    clear hrel bx own
    go_wp2_with fail
    go_ret
    exact ⟨_, rfl, row_at RW.out, BL.out⟩
set_option maxHeartbeats 400000 in
theorem bools_eq (g1 g2 : Nat) (S T : Nat → Bool) (n : Nat) (w : World) (h1 : BAt w (some ⟨g1, 0, none⟩) S n) (h2 : BAt w (some ⟨g2, 0, none⟩) T n) (hn : n ≤ 1000) (hst : ∀ j, j < n → S j = T j) :
    Calls Tryd.prog 15 #[.slice (some ⟨g1, 0, none⟩) n n, .slice (some ⟨g2, 0, none⟩) n n] w fun e w' => e = .returned (.bool true) ∧ ∃ n, w' = w.drewN n := by
  obtain ⟨b1, e1, hb1, hc1⟩ := h1
  obtain ⟨b2, e2, hb2, hc2⟩ := h2
  cases e1
  cases e2
  have e0 : ((n : Int) != (n : Int)) = false := by simp
  have HC1 := Lib.hid hc1
  have HC2 := Lib.hid hc2
  have ST := Lib.hid hst
  clear hc1 hc2 hst
  go_enter Tryd.func15, Tryd.ntmps15
  go_wp2_with fail
  go_loopw [5] (fun i wr => ∃ k m : Nat, k ≤ n ∧ i = .int .i64 k ∧ wr = w.drewN m) (fun i _ => n - (intOf i).toNat)
  case atStart => exact ⟨0, 0, Nat.zero_le _, rfl, rfl⟩
  case round =>
    obtain ⟨k, m, hk, rfl, rfl⟩ := hrel
    by_cases hlt : k < n
    · have p0 := HC1.out k hlt
      have q0 := HC2.out k hlt
      have uk := IntWalk.i64_in ((k : Int) + 1) (by omega)
      rw [← ST.out k hlt] at q0
      generalize S k = x at *
      cases x
      all_goals
        go_wp2_with fail
        go_quiet (fail)
        go_wp2_with fail
        go_roundw
        case measure => simp [intOf]; omega
        case rel => exact ⟨k + 1, _, by omega, by go_num, rfl⟩
    · obtain rfl : k = n := by omega
      go_wp2_with fail
      go_ret
      exact ⟨rfl, m, rfl⟩
theorem BAt.later {w w' : World} {a : Option Addr} {S : Nat → Bool} {n : Nat} (h : BAt w a S n) (hb : Below w.heap.size w w') : BAt w' a S n := by
  obtain ⟨b, rfl, hlt, hc⟩ := h
  exact ⟨b, rfl, Nat.lt_of_lt_of_le hlt hb.size, fun j hj => (hb.cell (p := ⟨b, j, none⟩) hlt).trans (hc j hj)⟩
end Go.Proofs.YtmlhoagcppofgaaDoor
