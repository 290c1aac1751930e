/- Two memories with the same bytes; two rows of the same words. -/
import Derived.Test.YtlieapapmkbbgaaGK
import Derived.Test.YtlieapapmkbbgaaGJ
import Derived.Laws.BytesArg
import Derived.Test.YtlieapapmkbbgaaRowW
import Derived.Deep.DeepCutAuto
import Derived.Handy
namespace Go.Proofs.Ytlieapapmkbbgaa
open Go Go.RowKit Pl
set_option linter.unusedVariables false

theorem get_ram {M F R : Nat} {b : List Nat} {W : World} (h : MemIs M F R 4096 2147483648 (noughts 256) b W) (hb : b.length = 128) :
    Calls Try.prog 22 #[.pointer (some ⟨M, 0, none⟩), .int .u32 2147483648, .int .i64 128] W fun e w' => ∃ g, e = .returned (.tuple #[.slice (some ⟨g, 0, none⟩) 128 128, .bool true]) ∧ w'.heap[g]? = some (.cells (rowG b) 5 (0, 0)) ∧ W.heap.size ≤ g ∧ Below W.heap.size W w' := by
  have hbk : Banks 4096 (noughts 256).length 2147483648 b.length := by rw [noughts_lenM, hb]; exact banks_mapM
  have hw := within_any h hbk 2147483648 128 (by decide) (by decide) (by decide)
  obtain ⟨i1, i2⟩ := inB_ram (n := 128) (by decide) (by decide)
  unfold wSl wIn at hw
  rw [noughts_lenM, hb] at hw
  rw [i1, i2] at hw
  simp only [Bool.false_eq_true, if_false, if_true, Bool.or_true, Nat.sub_self] at hw
  have := mget_in M R 0 _ 2147483648 128 b W (by decide) (by decide) hw h.hR (by rw [hb]; decide)
  refine this.mono ?_
  rintro e w' ⟨g, h1, h2, h3, h4⟩
  refine ⟨g, h1, ?_, h3, h4⟩
  rw [List.drop_zero, List.take_of_length_le (by rw [hb]; decide)] at h2
  exact h2
theorem conv_row {W : World} {g : Nat} {b : List Nat} (h : W.heap[g]? = some (.cells (rowG b) 5 (0, 0))) (hb : b.length = 128) :
    (convert 23 9 (.slice (some ⟨g, 0, none⟩) 128 128)).run Try.prog W = .ok (.string (strOfNums (b.map fun (n : Nat) => (n : Int)))) W := by
  refine run_convert_bytes_arg W 23 5 Try.underlying23 Try.underlying5 g 0 128 128 _ (by simp [hb]) (fun i hi => ?_) 9 Try.underlying9
  rw [Nat.zero_add, cell_of_row W g i _ _ _ h]
  have hib : i < b.length := by omega
  simp [rowG, u8G, hib]
set_option maxHeartbeats 2000000 in
theorem bytes_same {M F R M' F' R' : Nat} {b : List Nat} (w : World) (h : MemIs M F R 4096 2147483648 (noughts 256) b w) (h' : MemIs M' F' R' 4096 2147483648 (noughts 256) b w) (hb : b.length = 128) :
    Calls Try.prog 11 #[.pointer (some ⟨M, 0, none⟩), .pointer (some ⟨M', 0, none⟩)] w fun e w' => e = .returned (.bool true) ∧ Below w.heap.size w w' := by
  have G1 := Lib.hid (get_ram h hb)
  have G2 := Lib.hid (fun (W : World) (hW : Below w.heap.size w W) => get_ram (W := W) (h'.out (Out.of_below (fun _ => False) hW) id id id) hb)
  have HB := Lib.hid hb
  obtain ⟨S, hS⟩ : ∃ S, S = strOfNums (b.map fun (n : Nat) => (n : Int)) := ⟨_, rfl⟩
  have HS := Lib.hid hS
  clear h h' hb hS
  go_enter Try.func11, Try.ntmps11
  go_upto_region 2 with (go_at_call 22; (with_reducible refine G1.out.mono ?_); rintro e w1 ⟨g1, rfl, h1, l1, b1⟩; have H1 := Lib.hid h1; have B1 := Lib.hid b1; clear h1 b1)
  go_upto_region 3 with (go_at_call 22; (with_reducible refine (G2.out w1 B1.out).mono ?_); rintro e w2 ⟨g2, rfl, h2, l2, b2⟩; have H2 := Lib.hid h2; have B12 := Lib.hid b2; have B2 := Lib.hid (below_call B1.out b2); clear h2 b2)
  have k1 := conv_row (W := w2) ((B12.out.block g1 (Array.getElem?_eq_some_iff.1 H1.out).1).trans H1.out) HB.out
  have k2 := conv_row (W := w2) H2.out HB.out
  rw [← HS.out] at k1 k2
  go_wp2_with fail
  go_returns
  exact ⟨rfl, B2.out⟩
set_option maxHeartbeats 2000000 in
theorem words_same {g g' c c' : Nat} {f : Nat → Int} (w : World) (h : RowAt w g (cellsF f)) (h' : RowAt w g' (cellsF f)) (hc : 64 ≤ c ∧ c ≤ 9223372036854775807) (hc' : 64 ≤ c' ∧ c' ≤ 9223372036854775807) :
    Calls Try.prog 10 #[.slice (some ⟨g, 0, none⟩) 64 c, .slice (some ⟨g', 0, none⟩) 64 c'] w fun e w' => e = .returned (.bool true) ∧ Below w.heap.size w w' := by
  have H := Lib.hid h
  have H' := Lib.hid h'
  have hat : ∀ k, k < 64 → (cellsF f)[k]? = some (.int .u32 (f k)) := fun k hk => by simp [cellsF, hk]
  have HAT := Lib.hid hat
  clear h h' hat
  go_enter Try.func10, Try.ntmps10
  go_wp2_with fail
  go_loopw [5] (fun s5 wr => ∃ k : Nat, k ≤ 64 ∧ s5 = .int .i64 k ∧ Below w.heap.size w wr) (fun s5 _ => 64 - (intOf s5).toNat)
  case atStart => exact ⟨0, Nat.zero_le _, rfl, Below.refl _ _⟩
  case round =>
    obtain ⟨k, hk, rfl, hB⟩ := hrel
    have HB := Lib.hid hB
    clear hB
    by_cases hkl : k < 64
    · have c1 := (H.out.over HB.out).cell k _ (HAT.out k hkl)
      have c2 := (H'.out.over HB.out).cell k _ (HAT.out k hkl)
      have l1 := (H.out.over HB.out).lt
      have l2 := (H'.out.over HB.out).lt
      have k0 : (0 : Int) ≤ (k : Int) := by omega
      have k1 : (k : Int) < 64 := by omega
      have HK := Lib.hid hkl
      clear hkl hk
      go_upto_region 6 with fail
      go_quiet (fail)
      rename_i nq
      go_wp2_with fail
      exact ⟨⟨k + 1, HK.out, rfl, below_call HB.out ⟨rfl, rfl, rfl, Nat.le_refl _, fun _ _ => rfl⟩⟩, by have := HK.out; simp [intOf]; omega⟩
    · obtain rfl : k = 64 := by omega
      clear hkl hk
      go_wp2_with fail
      go_returns
      exact ⟨rfl, HB.out⟩
end Go.Proofs.Ytlieapapmkbbgaa
