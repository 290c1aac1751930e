/- lives29 by the contracts of Lives and Peak. -/
import Derived.Test.YtmifojpmomdmeaaLvD
import Derived.Test.YtmifojpmomdmeaaLvT
import Derived.Test.YtmifojpmomdmeaaNdEq
import Derived.Test.YtmifojpmomdmeaaRF
import Derived.Deep.DeepCutAuto
namespace Go.Proofs.Ytmifojpmomdmeaa
open Go Go.RowKit
set_option linter.unusedVariables false
set_option linter.unusedSimpArgs false
set_option maxRecDepth 100000

def opNa (o a : Int) : Nd := ⟨o, a, 0, 0, 0, 0, 0, 0, 0, 0, 0, 0, 0, 0, 0, 0, 0, 0, 0, 0, 0, 0, 0, 0, 0, 0⟩
def g29 (b : Nat) : GrQ := ⟨1, 1, 4, none, 0, [], some ⟨b, 0, none⟩, 2, [opNa 9 0, opNa 9 1], 2⟩
theorem g29_ok (b : Nat) : (graphE (g29 b).gr).1 = 0 := by kernel_rfl
theorem g29_lives (b : Nat) : (lvM (g29 b) true).lives = [⟨1, 1, 4, 0, 1⟩, ⟨2, 1, 4, 1, 2⟩] := by kernel_rfl
theorem g29_peak : peakF [⟨1, 1, 4, 0, 1⟩, ⟨2, 1, 4, 1, 2⟩] = 4 := by kernel_rfl
theorem seen_life (W : World) : (Op.equalIn 10000 38 (.agg #[.int .i64 1, .int .i64 1, .int .i64 4, .int .i64 0, .int .i64 1]) (.agg #[.int .i64 1, .int .i64 1, .int .i64 4, .int .i64 0, .int .i64 1])).run Try.prog W = .ok true W := by rw [life_eq]; rfl
theorem seen_life2 (W : World) : (Op.equalIn 10000 38 (.agg #[.int .i64 2, .int .i64 1, .int .i64 4, .int .i64 1, .int .i64 2]) (.agg #[.int .i64 2, .int .i64 1, .int .i64 4, .int .i64 1, .int .i64 2])).run Try.prog W = .ok true W := by rw [life_eq]; rfl
set_option maxHeartbeats 4000000 in
theorem lives29 (w : World) : Calls Try.prog 11 #[] w fun e w' => e = .returned (.bool true) ∧ Below w.heap.size w w' := by
  have RN := Lib.hid (RowAt.new w [.int .i64 9, .int .i64 0, .int .i64 0, .int .i64 0, .int .i64 0, .int .i64 0, .int .i64 0, .int .i64 0, .int .i64 0, .int .i64 0, .int .i64 0, .int .i64 0, .int .i64 0, .int .i64 0, .int .i32 0, .int .i32 0, .int .i64 0, .int .i64 0, .int .i64 0, .int .i64 0, .int .i64 0, .int .i64 0, .int .i64 0, .int .i64 0, .int .i64 0, .int .i64 0, .int .i64 9, .int .i64 1, .int .i64 0, .int .i64 0, .int .i64 0, .int .i64 0, .int .i64 0, .int .i64 0, .int .i64 0, .int .i64 0, .int .i64 0, .int .i64 0, .int .i64 0, .int .i64 0, .int .i32 0, .int .i32 0, .int .i64 0, .int .i64 0, .int .i64 0, .int .i64 0, .int .i64 0, .int .i64 0, .int .i64 0, .int .i64 0, .int .i64 0, .int .i64 0] 47)
  go_enter Try.func11, Try.ntmps11
  go_upto_region 1 with fail
  go_cut [1] (fun s1 wx => s1 = .pointer (some ⟨w.heap.size + 1, 0, none⟩) ∧ RowAt wx (w.heap.size + 1) [.int .i64 1, .int .i64 1, .int .i64 4, .slice none 0 0, .slice (some ⟨w.heap.size, 0, none⟩) 2 2, .int .i64 2] ∧ RowAt wx w.heap.size (nd26 [opNa 9 0, opNa 9 1]) ∧ Below w.heap.size w wx)
  case first =>
    go_wp2_with fail
    go_meet
    refine ⟨rfl, ?_, ?_, Below.alloc (Below.alloc (Below.refl w.heap.size w) (Nat.le_refl _) _) (by simp) _⟩
    · have := RowAt.new (w.alloc (.cells ([.int .i64 9, .int .i64 0, .int .i64 0, .int .i64 0, .int .i64 0, .int .i64 0, .int .i64 0, .int .i64 0, .int .i64 0, .int .i64 0, .int .i64 0, .int .i64 0, .int .i64 0, .int .i64 0, .int .i32 0, .int .i32 0, .int .i64 0, .int .i64 0, .int .i64 0, .int .i64 0, .int .i64 0, .int .i64 0, .int .i64 0, .int .i64 0, .int .i64 0, .int .i64 0, .int .i64 9, .int .i64 1, .int .i64 0, .int .i64 0, .int .i64 0, .int .i64 0, .int .i64 0, .int .i64 0, .int .i64 0, .int .i64 0, .int .i64 0, .int .i64 0, .int .i64 0, .int .i64 0, .int .i32 0, .int .i32 0, .int .i64 0, .int .i64 0, .int .i64 0, .int .i64 0, .int .i64 0, .int .i64 0, .int .i64 0, .int .i64 0, .int .i64 0, .int .i64 0] : List Value).toArray 47)) [.int .i64 1, .int .i64 1, .int .i64 4, .slice none 0 0, .slice (some ⟨w.heap.size, 0, none⟩) 2 2, .int .i64 2] 26
      rw [size_alloc1] at this
      exact this
    · exact RN.out.over (Below.alloc (Below.refl _ _) (Nat.le_refl _) _)
  case rest =>
    obtain ⟨rfl, h1, h2, h3⟩ := hcut
    have HB := Lib.hid h3
    have b0 := h1.cell 0 _ rfl
    have b1 := h1.cell 1 _ rfl
    have b2 := h1.cell 2 _ rfl
    have b3 := h1.cell 3 _ rfl
    have b4 := h1.cell 4 _ rfl
    have b5 := h1.cell 5 _ rfl
    have bl := h1.lt
    have FF := lives_any (g29 w.heap.size) true wc ⟨by simp [g29], by simp [g29], by simp [g29], Or.inl ⟨rfl, rfl, rfl⟩⟩ (nds_row h2 (by show 2 ≤ 2; omega) (by show 2 ≤ 9223372036854775807; omega) (by
      intro n hn
      have hn : n = opNa 9 0 ∨ n = opNa 9 1 := by simpa [g29] using hn
      rcases hn with rfl | rfl <;> exact ⟨⟨_, rfl, by decide⟩, ⟨_, rfl, by decide⟩, ⟨_, rfl, by decide⟩, ⟨_, rfl, by decide⟩, ⟨_, rfl, by decide⟩, ⟨_, rfl, by decide⟩, ⟨_, rfl, by decide⟩, ⟨_, rfl, by decide⟩, ⟨_, rfl, by decide⟩, ⟨_, rfl, by decide⟩, ⟨_, rfl, by decide⟩, ⟨_, rfl, by decide⟩, ⟨_, rfl, by decide⟩, ⟨_, rfl, by decide⟩, ⟨_, rfl, by decide⟩, ⟨_, rfl, by decide⟩, ⟨_, rfl, by decide⟩, ⟨_, rfl, by decide⟩, ⟨_, rfl, by decide⟩, ⟨_, rfl, by decide⟩, ⟨_, rfl, by decide⟩, ⟨_, rfl, by decide⟩, ⟨_, rfl, by decide⟩, ⟨_, rfl, by decide⟩, ⟨_, rfl, by decide⟩, ⟨_, rfl, by decide⟩, trivial⟩)) (by show 2 ≤ 1000; omega)
    have FF2 := Lib.hid (FF.mono (R' := fun e w' => Below wc.heap.size wc w' ∧ ∃ a c, e = .returned (.tuple #[.slice a 2 c, .int .i64 0]) ∧ c ≤ 9223372036854775807 ∧ LgAt w' a [⟨1, 1, 4, 0, 1⟩, ⟨2, 1, 4, 1, 2⟩]) (by
      rintro e w' ⟨_, hb, hy⟩
      obtain ⟨v, he, ho⟩ := hy (g29_ok _)
      rw [g29_lives] at ho
      obtain ⟨a, c, rfl, hc, hl⟩ := own_lgs ho
      exact ⟨hb, a, c, he, hc, hl⟩))
    unfold GrQ.val g29 at FF2
    dsimp only [List.length] at FF2
    clear FF h1 h2 h3
    go_upto_region 3 with (go_at_call 9; (with_reducible refine FF2.out.mono ?_); rintro e w5 ⟨hb5, a, c, rfl, hc, hl5⟩; have HB5 := Lib.hid (below_call HB.out hb5); have HL5 := Lib.hid hl5; have HC5 := Lib.hid hc; clear hb5 hl5 hc)
    have PK := Lib.hid (peak_calls [⟨1, 1, 4, 0, 1⟩, ⟨2, 1, 4, 1, 2⟩] (by intro x hx; simp at hx; rcases hx with rfl | rfl <;> simp [Lg.okay, In64]) a c w5 HL5.out (by simp) HC5.out)
    rw [g29_peak] at PK
    obtain ⟨g, off, hat, hg, c0, c1, c2, c3, c4⟩ := HL5.out 0 _ rfl
    subst hat
    obtain ⟨g', off', hat, hg', d0, d1, d2, d3, d4⟩ := HL5.out 1 _ rfl
    injection hat with hat; injection hat with h1 h2; subst h1 h2
    have s1 := seen_life
    have s2 := seen_life2
    dsimp only at c0 c1 c2 c3 c4 d0 d1 d2 d3 d4
    simp only [Nat.zero_mul, Nat.add_zero, Nat.one_mul] at c0 c1 c2 c3 c4 d0 d1 d2 d3 d4
    have hco := HC5.out
    dsimp only [List.length] at PK
    clear b0 b1 b2 b3 b4 b5 bl
    go_wp2_with (go_at_call 13; (with_reducible refine PK.out.mono ?_); rintro e w7 ⟨rfl, hb7⟩; have HB7 := Lib.hid (below_call HB5.out hb7); clear hb7)
    go_ret
    exact ⟨rfl, HB7.out⟩
end Go.Proofs.Ytmifojpmomdmeaa
