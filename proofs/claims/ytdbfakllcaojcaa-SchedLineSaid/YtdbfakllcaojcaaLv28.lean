/- lives28 by the contract of Order. -/
import Derived.Test.YtdbfakllcaojcaaOC
import Derived.Test.YtdbfakllcaojcaaNdEq
import Derived.Test.YtdbfakllcaojcaaRF
import Derived.Deep.DeepCutAuto
namespace Go.Proofs.Ytdbfakllcaojcaa
open Go Go.RowKit
set_option linter.unusedVariables false
set_option linter.unusedSimpArgs false
set_option maxRecDepth 100000

def opNd (o : Int) : Nd := ⟨o, 0, 0, 0, 0, 0, 0, 0, 0, 0, 0, 0, 0, 0, 0, 0, 0, 0, 0, 0, 0, 0, 0, 0, 0, 0⟩
def g28 (b : Nat) : GrQ := ⟨1, 1, 1, none, 0, [], some ⟨b, 0, none⟩, 2, [opNd 9, opNd 13], 2⟩
theorem g28_ok (b : Nat) : (graphE (g28 b).gr).1 = 0 := by kernel_rfl
theorem g28_ord (b : Nat) : ordG (g28 b) = [2] := by kernel_rfl
set_option maxHeartbeats 4000000 in
theorem lives28 (w : World) : Calls Try.prog 20 #[] w fun e w' => e = .returned (.bool true) ∧ Below w.heap.size w w' := by
  have RN := Lib.hid (RowAt.new w [.int .i64 9, .int .i64 0, .int .i64 0, .int .i64 0, .int .i64 0, .int .i64 0, .int .i64 0, .int .i64 0, .int .i64 0, .int .i64 0, .int .i64 0, .int .i64 0, .int .i64 0, .int .i64 0, .int .i32 0, .int .i32 0, .int .i64 0, .int .i64 0, .int .i64 0, .int .i64 0, .int .i64 0, .int .i64 0, .int .i64 0, .int .i64 0, .int .i64 0, .int .i64 0, .int .i64 13, .int .i64 0, .int .i64 0, .int .i64 0, .int .i64 0, .int .i64 0, .int .i64 0, .int .i64 0, .int .i64 0, .int .i64 0, .int .i64 0, .int .i64 0, .int .i64 0, .int .i64 0, .int .i32 0, .int .i32 0, .int .i64 0, .int .i64 0, .int .i64 0, .int .i64 0, .int .i64 0, .int .i64 0, .int .i64 0, .int .i64 0, .int .i64 0, .int .i64 0] 57)
  go_enter Try.func20, Try.ntmps20
  go_upto_region 1 with fail
  go_cut [1] (fun s1 wx => s1 = .pointer (some ⟨w.heap.size + 1, 0, none⟩) ∧ RowAt wx (w.heap.size + 1) [.int .i64 1, .int .i64 1, .int .i64 1, .slice none 0 0, .slice (some ⟨w.heap.size, 0, none⟩) 2 2, .int .i64 2] ∧ RowAt wx w.heap.size (nd26 [opNd 9, opNd 13]) ∧ Below w.heap.size w wx)
  case first =>
    go_wp2_with fail
    go_meet
    refine ⟨rfl, ?_, ?_, Below.alloc (Below.alloc (Below.refl w.heap.size w) (Nat.le_refl _) _) (by simp) _⟩
    · have := RowAt.new (w.alloc (.cells ([.int .i64 9, .int .i64 0, .int .i64 0, .int .i64 0, .int .i64 0, .int .i64 0, .int .i64 0, .int .i64 0, .int .i64 0, .int .i64 0, .int .i64 0, .int .i64 0, .int .i64 0, .int .i64 0, .int .i32 0, .int .i32 0, .int .i64 0, .int .i64 0, .int .i64 0, .int .i64 0, .int .i64 0, .int .i64 0, .int .i64 0, .int .i64 0, .int .i64 0, .int .i64 0, .int .i64 13, .int .i64 0, .int .i64 0, .int .i64 0, .int .i64 0, .int .i64 0, .int .i64 0, .int .i64 0, .int .i64 0, .int .i64 0, .int .i64 0, .int .i64 0, .int .i64 0, .int .i64 0, .int .i32 0, .int .i32 0, .int .i64 0, .int .i64 0, .int .i64 0, .int .i64 0, .int .i64 0, .int .i64 0, .int .i64 0, .int .i64 0, .int .i64 0, .int .i64 0] : List Value).toArray 57)) [.int .i64 1, .int .i64 1, .int .i64 1, .slice none 0 0, .slice (some ⟨w.heap.size, 0, none⟩) 2 2, .int .i64 2] 26
      rw [size_alloc1] at this
      exact this
    · exact RN.out.over (Below.alloc (Below.refl _ _) (Nat.le_refl _) _)
  case rest =>
    obtain ⟨rfl, h1, h2, h3⟩ := hcut
    have HB := Lib.hid h3
    have b0 := h1.cell 0 _ rfl
    have b1 := h1.cell 1 _ rfl
    have b2 := h1.cell 2 _ rfl
    have b3 := h1.cell 3 _ rfl
    have b4 := h1.cell 4 _ rfl
    have b5 := h1.cell 5 _ rfl
    have bl := h1.lt
    have FF := order_any (g28 w.heap.size) wc ⟨by simp [g28], by simp [g28], by simp [g28], Or.inl ⟨rfl, rfl, rfl⟩⟩ (nds_row h2 (by show 2 ≤ 2; omega) (by show 2 ≤ 9223372036854775807; omega) (by
      intro n hn
      have hn : n = opNd 9 ∨ n = opNd 13 := by simpa [g28] using hn
      rcases hn with rfl | rfl <;> exact ⟨⟨_, rfl, by decide⟩, ⟨_, rfl, by decide⟩, ⟨_, rfl, by decide⟩, ⟨_, rfl, by decide⟩, ⟨_, rfl, by decide⟩, ⟨_, rfl, by decide⟩, ⟨_, rfl, by decide⟩, ⟨_, rfl, by decide⟩, ⟨_, rfl, by decide⟩, ⟨_, rfl, by decide⟩, ⟨_, rfl, by decide⟩, ⟨_, rfl, by decide⟩, ⟨_, rfl, by decide⟩, ⟨_, rfl, by decide⟩, ⟨_, rfl, by decide⟩, ⟨_, rfl, by decide⟩, ⟨_, rfl, by decide⟩, ⟨_, rfl, by decide⟩, ⟨_, rfl, by decide⟩, ⟨_, rfl, by decide⟩, ⟨_, rfl, by decide⟩, ⟨_, rfl, by decide⟩, ⟨_, rfl, by decide⟩, ⟨_, rfl, by decide⟩, ⟨_, rfl, by decide⟩, ⟨_, rfl, by decide⟩, trivial⟩)) (by show 2 ≤ 1000; omega)
    have FF2 := Lib.hid (FF.mono (R' := fun e w' => Below wc.heap.size wc w' ∧ ∃ v, e = .returned (.tuple #[v, .int .i64 0]) ∧ OwnL w' wc.heap.size v [2]) (by
      rintro e w' ⟨_, hb, hy⟩
      obtain ⟨v, he, ho⟩ := hy (g28_ok _)
      rw [g28_ord] at ho
      exact ⟨hb, v, he, ho⟩))
    unfold GrQ.val g28 at FF2
    dsimp only [List.length] at FF2
    clear FF h1 h2 h3
    go_upto_region 3 with (go_at_call 23; (with_reducible refine FF2.out.mono ?_); rintro e w5 ⟨hb5, v, rfl, ho5⟩; obtain ⟨va, vc, rfl, hvc, hnv⟩ := own_numsN (P := fun _ => True) ho5 (fun _ _ => trivial); have HB5 := Lib.hid (below_call HB.out hb5); have HNV := Lib.hid hnv; clear hb5 ho5 hnv)
    have hal := Below.alloc (Below.refl w5.heap.size w5) (Nat.le_refl _) (.cells #[.int .i64 2] 3)
    have RT := RowAt.new w5 (nsV [2]) 3
    have IS := Lib.hid (ints_same va (some ⟨w5.heap.size, 0, none⟩) vc 1 [2] (w5.alloc (.cells #[.int .i64 2] 3)) (by simp) (HNV.out.over hal) (NumsAt.row (P := fun _ => True) RT trivial))
    have HBA := Lib.hid (below_call HB5.out hal)
    dsimp only [List.length] at IS ⊢
    clear b0 b1 b2 b3 b4 b5 bl hal RT
    go_wp2_with (go_at_call 24; (with_reducible refine IS.out.mono ?_); rintro e w7 ⟨rfl, hb7⟩; have HB7 := Lib.hid (below_call HBA.out hb7); clear hb7)
    go_ret
    exact ⟨rfl, HB7.out⟩
end Go.Proofs.Ytdbfakllcaojcaa
