/- Contract of pintleref39.Same where both are one. -/
import Derived.Test.YtlieapapmkbbgaaTdT
import Derived.Laws.StructEq
namespace Go.Proofs.Ytlieapapmkbbgaa
open Go Go.RowKit
set_option linter.unusedVariables false

set_option maxRecDepth 100000 in
set_option maxHeartbeats 2000000 in
theorem same_any (a1 a2 : Option Addr) (c1 c2 : Nat) (t : List Q5) (w : World) (h1 : L5 w a1 t) (h2 : L5 w a2 t) :
    Calls Try.prog 13 #[.slice a1 t.length c1, .slice a2 t.length c2] w (fun e w' => e = .returned (.bool true) ∧ Below w.heap.size w w') := by
  have hlen := h1.1
  have H1 := Lib.hid h1
  have H2 := Lib.hid h2
  clear h1 h2
  obtain ⟨n, hn⟩ : ∃ n, n = t.length := ⟨_, rfl⟩
  have HN := Lib.hid hn
  rw [← hn] at hlen ⊢
  have tn : (n != n) = false := by simp
  clear hn
  go_enter Try.func13, Try.ntmps13
  go_wp2_with fail
  go_loopw [5] (fun i wr => ∃ (k : Nat), k ≤ n ∧ i = .int .i64 k ∧ Below w.heap.size w wr) (fun i _ => n - (intOf i).toNat)
  case atStart => exact ⟨0, Nat.zero_le _, rfl, Below.refl _ _⟩
  case round =>
    obtain ⟨k, hk, rfl, hb⟩ := hrel
    have HB := Lib.hid hb
    by_cases hlt : k < n
    · have tl : decide ((k : Int) < (n : Int)) = true := by simp; omega
      obtain ⟨x, hx⟩ := lookup (show k < t.length by rw [← HN.out]; exact hlt)
      obtain ⟨_, hnil | ⟨b1, o1, rfl, hb1, hc1⟩⟩ := H1.out
      · rw [hnil] at hx; simp at hx
      obtain ⟨_, hnil | ⟨b2, o2, rfl, hb2, hc2⟩⟩ := H2.out
      · rw [hnil] at hx; simp at hx
      obtain ⟨p0, p1, p2, p3, p4⟩ := hc1 k _ hx
      obtain ⟨q0, q1, q2, q3, q4⟩ := hc2 k _ hx
      obtain ⟨xo, xd, xa, xb, xi⟩ := x
      have p0 := (hb.cell (p := ⟨b1, o1 + k * 5, none⟩) hb1).trans p0
      have p1 := (hb.cell (p := ⟨b1, o1 + k * 5 + 1, none⟩) hb1).trans p1
      have p2 := (hb.cell (p := ⟨b1, o1 + k * 5 + 2, none⟩) hb1).trans p2
      have p3 := (hb.cell (p := ⟨b1, o1 + k * 5 + 3, none⟩) hb1).trans p3
      have p4 := (hb.cell (p := ⟨b1, o1 + k * 5 + 4, none⟩) hb1).trans p4
      have q0 := (hb.cell (p := ⟨b2, o2 + k * 5, none⟩) hb2).trans q0
      have q1 := (hb.cell (p := ⟨b2, o2 + k * 5 + 1, none⟩) hb2).trans q1
      have q2 := (hb.cell (p := ⟨b2, o2 + k * 5 + 2, none⟩) hb2).trans q2
      have q3 := (hb.cell (p := ⟨b2, o2 + k * 5 + 3, none⟩) hb2).trans q3
      have q4 := (hb.cell (p := ⟨b2, o2 + k * 5 + 4, none⟩) hb2).trans q4
      have HD := Lib.hid hb.drew
      clear hx hc1 hc2 hb
      go_wp2_with fail
      go_region
      go_wp2_with fail
      refine ⟨⟨k + 1, by omega, by simp, HD.out⟩, by simp [intOf]; omega⟩
    · obtain rfl : k = n := by omega
      clear hb
      go_wp2_with fail
      go_ret
      exact ⟨rfl, HB.out⟩
end Go.Proofs.Ytlieapapmkbbgaa
