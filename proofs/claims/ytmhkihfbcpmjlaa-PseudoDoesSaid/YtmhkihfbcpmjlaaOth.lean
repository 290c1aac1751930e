/- Contracts of layer 12's law's own 'others' and 'can'. -/
import Derived.Test.YtmhkihfbcpmjlaaDoes
import Derived.Test.YtmhkihfbcpmjlaaInstBd
import Derived.Deep.RegionHeld3
namespace Go.Proofs.Ytmhkihfbcpmjlaa
open Go Go.RowKit Pl
set_option linter.unusedVariables false

theorem cells_boxR (f : Int → Int) (w w' : World) (t : TypeId) (hb : Below (w.alloc (.cells (cellsR f).toArray t)).heap.size (w.alloc (.cells (cellsR f).toArray t)) w') : ∀ k : Nat, k < 32 → w'.cell? ⟨w.heap.size, k, none⟩ = some (.int .u32 (f (k : Int))) := by
  intro k hk
  rw [(hb.cell (p := ⟨w.heap.size, k, none⟩) (by simp)), World.cell?_alloc_new]
  simpa using cellsR_at f hk
set_option maxRecDepth 100000 in
set_option maxHeartbeats 2000000 in
theorem others_yes (f g : Int → Int) (X Y : Nat) (w : World) (h : ∀ k : Int, 0 ≤ k → k < 32 → k ≠ X → k ≠ Y → f k = g k) :
    Calls Try.prog 6 #[.agg (cellsR f).toArray, .agg (cellsR g).toArray, .int .i64 X, .int .i64 Y] w fun e w' => e = .returned (.bool true) ∧ Below w.heap.size w w' := by
  have H := Lib.hid h
  clear h
  have B0 := Lib.hid (show Below w.heap.size w ((w.alloc (.cells (cellsR f).toArray 24)).alloc (.cells (cellsR g).toArray 24)) by go_grown)
  have CF := Lib.hid (fun w' (hb : Below ((w.alloc (.cells (cellsR f).toArray 24)).alloc (.cells (cellsR g).toArray 24)).heap.size ((w.alloc (.cells (cellsR f).toArray 24)).alloc (.cells (cellsR g).toArray 24)) w') => cells_boxR f w w' 24 (((Below.refl _ _).alloc (Nat.le_refl _) _).trans (hb.mono (by simp))))
  have CG := Lib.hid (fun w' hb => cells_boxR g (w.alloc (.cells (cellsR f).toArray 24)) w' 24 hb)
  have hsz : (w.alloc (.cells (cellsR f).toArray 24)).heap.size = w.heap.size + 1 := by simp
  rw [hsz] at CG
  clear hsz
  generalize cellsR f = af at *
  generalize cellsR g = ag at *
  go_enter Try.func6, Try.ntmps6
  go_wp2_with fail
  generalize hW : World.alloc (World.alloc w _) _ = W at *
  clear hW
  go_loopw [9] (fun i wr => ∃ k : Nat, k ≤ 32 ∧ i = .int .i64 k ∧ Below W.heap.size W wr) (fun i _ => 32 - (intOf i).toNat)
  case atStart => exact ⟨0, by omega, rfl, Below.refl _ _⟩
  case round =>
    obtain ⟨k, hk, rfl, hb⟩ := hrel
    by_cases hlt : k < 32
    · have c0 := CF.out wr hb k hlt
      have c1 := CG.out wr hb k hlt
      have t1 : decide ((k : Int) < 32) = true := by simp; omega
      have u1 := IntWalk.i64_in ((k : Int) + 1) (by omega)
      have g0 : (0 : Int) ≤ (k : Int) := by omega
      have g1 : (k : Int) < 32 := by omega
      have HB := Lib.hid hb
      have HE : (k : Int) ≠ X → (k : Int) ≠ Y → f (k : Int) = g (k : Int) := H.out k g0 g1
      clear hb
      cases e1 : ((k : Int) != (X : Int))
      · (go_wp2_with fail; go_region; all_goals (have HB3 := Lib.hid HB.out.drew); go_wp2_with fail; exact ⟨⟨k + 1, by omega, rfl, HB3.out⟩, by simp [intOf]; omega⟩)
      cases e2 : ((k : Int) != (Y : Int))
      · (go_wp2_with fail; go_region; all_goals (have HB3 := Lib.hid HB.out.drew); go_wp2_with fail; exact ⟨⟨k + 1, by omega, rfl, HB3.out⟩, by simp [intOf]; omega⟩)
      have e4 : (f (k : Int) != g (k : Int)) = false := by
        have := HE (by simpa using e1) (by simpa using e2)
        simp [this]
      clear HE
      (go_wp2_with fail; go_region; all_goals (have HB3 := Lib.hid HB.out.drew); go_wp2_with fail; exact ⟨⟨k + 1, by omega, rfl, HB3.out⟩, by simp [intOf]; omega⟩)
    · obtain rfl : k = 32 := by omega
      have t1 : decide (((32 : Nat) : Int) < 32) = false := by simp
      have HB := Lib.hid (B0.out.trans (hb.mono B0.out.size))
      clear hb
      go_wp2_with fail
      go_ret
      exact ⟨rfl, HB.out⟩
set_option maxRecDepth 100000 in
set_option maxHeartbeats 2000000 in
theorem can_yes (b0 off c : Nat) (l : List Q5) (w : World) (hl : L5 w (some ⟨b0, off, none⟩) l) (hb0 : b0 < w.heap.size) (hn : l.length ≤ 100) (h : ∀ x ∈ l, Okd x) :
    Calls Try.prog 7 #[.slice (some ⟨b0, off, none⟩) l.length c] w fun e w' => e = .returned (.bool true) ∧ Below w.heap.size w w' := by
  have HL := Lib.hid hl
  have H := Lib.hid h
  clear hl h
  go_enter Try.func7, Try.ntmps7
  go_wp2_with fail
  go_loopw [3] (fun i wr => ∃ k : Nat, k ≤ l.length ∧ i = .int .i64 k ∧ Below w.heap.size w wr) (fun i _ => l.length - (intOf i).toNat)
  case atStart => exact ⟨0, by omega, rfl, Below.refl _ _⟩
  case round =>
    obtain ⟨k, hk, rfl, hb⟩ := hrel
    by_cases hlt : k < l.length
    · obtain ⟨x, hx⟩ : ∃ x, l[k]? = some x := ⟨_, List.getElem?_eq_getElem hlt⟩
      obtain ⟨o, d, a, b, i⟩ := x
      have HX := Lib.hid (H.out _ (List.mem_of_getElem? hx))
      have RC := Lib.hid (fun w => ican_any o d a b i w HX.out.2.2.2.2.1 HX.out.2.2.2.2.2.1)
      have hcan := HX.out.2.2.2.2.2.2
      have u1 := IntWalk.i64_in ((k : Int) + 1) (by omega)
      have t1 : decide ((k : Int) < (l.length : Int)) = true := by simp; omega
      have g0 : (0 : Int) ≤ (k : Int) := by omega
      have g1 : (k : Int) < (l.length : Int) := by omega
      have HB := Lib.hid hb
      have cc := l5_at (HL.out.later hb) hx
      obtain ⟨c0, c1, c2, c3, c4⟩ := cc
      clear hb hx
      go_wp2_with fail
      refine (RC.out _).mono ?_
      rintro e w9 ⟨rfl, hbl⟩
      have HB2 := Lib.hid (HB.out.trans (hbl.mono HB.out.size))
      clear hbl c0 c1 c2 c3 c4
      rw [hcan]
      go_wp2_with fail
      exact ⟨⟨k + 1, by omega, rfl, HB2.out⟩, by simp [intOf]; omega⟩
    · obtain rfl : k = l.length := by omega
      have t1 : decide ((l.length : Int) < (l.length : Int)) = false := by simp
      have HB := Lib.hid hb
      clear hb
      go_wp2_with fail
      go_ret
      exact ⟨rfl, HB.out⟩
end Go.Proofs.Ytmhkihfbcpmjlaa
