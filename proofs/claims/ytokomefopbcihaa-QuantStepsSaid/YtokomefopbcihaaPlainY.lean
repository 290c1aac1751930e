/- Contract of the law's own 'plain'. -/
import Derived.Test.YtokomefopbcihaaRunD
import Derived.Test.YtokomefopbcihaaRcan
namespace Go.Proofs.Ytokomefopbcihaa
open Go Go.RowKit
set_option linter.unusedVariables false

set_option maxRecDepth 100000 in
set_option maxHeartbeats 2000000 in
theorem plain_yes (b0 off c : Nat) (l : List Q5) (w : World) (hl : L5 w (some ⟨b0, off, none⟩) l) (hb0 : b0 < w.heap.size) (hn : l.length ≤ 100) (h : ∀ x ∈ l, canS x = true ∧ x.o ≤ 16 ∧ -2147483648 ≤ x.i ∧ x.i ≤ 2147483647) :
    Calls Try.prog 37 #[.slice (some ⟨b0, off, none⟩) l.length c] w fun e w' => e = .returned (.bool true) ∧ Below w.heap.size w w' := by
  have HL := Lib.hid hl
  have H := Lib.hid h
  clear hl h
  go_enter Try.func37, Try.ntmps37
  go_wp2_with fail
  go_loopw [3] (fun i wr => ∃ k : Nat, k ≤ l.length ∧ i = .int .i64 k ∧ Below w.heap.size w wr) (fun i _ => l.length - (intOf i).toNat)
  case atStart => exact ⟨0, by omega, rfl, Below.refl _ _⟩
  case round =>
    obtain ⟨k, hk, rfl, hb⟩ := hrel
    by_cases hlt : k < l.length
    · obtain ⟨x, hx⟩ : ∃ x, l[k]? = some x := ⟨_, List.getElem?_eq_getElem hlt⟩
      obtain ⟨o, d, a, b, i⟩ := x
      have HX := Lib.hid (H.out _ (List.mem_of_getElem? hx))
      obtain ⟨c0, c1, c2, c3, c4⟩ := l5_at (HL.out.later hb) hx
      have RC := Lib.hid (fun w => rcan_any o d a b i w HX.out.2.2)
      have hcan := HX.out.1
      have t2 : decide (16 < o) = false := by have := HX.out.2.1; simp at this ⊢; omega
      have u1 := IntWalk.i64_in ((k : Int) + 1) (by omega)
      have t1 : decide ((k : Int) < (l.length : Int)) = true := by simp; omega
      have g0 : (0 : Int) ≤ (k : Int) := by omega
      have g1 : (k : Int) < (l.length : Int) := by omega
      have zb : b0 < wr.heap.size := Nat.lt_of_lt_of_le hb0 hb.size
      have HB := Lib.hid hb
      have HXX := Lib.hid hx
      clear hb hx c0 c1 c2 c3 c4 zb
      have cc := l5_at (HL.out.later HB.out) HXX.out
      obtain ⟨c0, c1, c2, c3, c4⟩ := cc
      go_wp2_with fail
      refine (RC.out _).mono ?_
      rintro e w9 ⟨rfl, hw9⟩
      have hbl : Below wr.heap.size wr w9 := by rw [hw9]; exact (Below.refl _ _).alloc (Nat.le_refl _) _
      have HB2 := Lib.hid (HB.out.trans (hbl.mono HB.out.size))
      clear hw9 hbl c0 c1 c2 c3 c4
      have cc := l5_at (HL.out.later HB2.out) HXX.out
      obtain ⟨c0, c1, c2, c3, c4⟩ := cc
      rw [hcan]
      go_wp2_with fail
      try (go_region; go_wp2_with fail)
      exact ⟨⟨k + 1, by omega, rfl, HB2.out⟩, by simp [intOf]; omega⟩
    · obtain rfl : k = l.length := by omega
      have t1 : decide ((l.length : Int) < (l.length : Int)) = false := by simp
      have HB := Lib.hid hb
      clear hb
      go_wp2_with fail
      go_ret
      exact ⟨rfl, HB.out⟩
end Go.Proofs.Ytokomefopbcihaa
