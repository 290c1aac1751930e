/- Contracts of alloc.add: a variable's weight grows. -/
import Derived.Test.YtolohbegdjnjnaaAwP
import Derived.Test.YtolohbegdjnjnaaLirI
import Derived.Laws.Rows
import Derived.Great.Walk
namespace Go.Proofs.Ytolohbegdjnjnaa
open Go Go.RowKit
set_option linter.unusedVariables false

def WRow (w : World) (base g : Nat) (W : List Int) : Prop := w.ownsRow base 3 1 (.slice (some ⟨g, 0, none⟩) 64 64) 64 (W.map iv)
theorem wrow_at {W : List Int} (h : GoodW W) {D : Nat} (hD : D < 64) : ∃ z : Int, W.getD D 0 = z ∧ (W.map iv)[D]? = some (iv z) ∧ 0 ≤ z ∧ z ≤ 1000000000 := by
  have hl : D < W.length := by rw [h.1]; exact hD
  refine ⟨W[D], by simp [List.getD_eq_getElem?_getD, hl], by simp [hl], h.2 D _ (List.getElem?_eq_getElem hl)⟩
theorem wrow_set {W : List Int} {D : Nat} {z : Int} {n : Nat} (hz : W.getD D 0 = z) : (W.map iv).set D (iv (min 1000000000 (z + (n : Int)))) = (addW W (D : Int) n).map iv := by
  unfold addW
  rw [List.map_set, Int.toNat_natCast, hz]

set_option maxRecDepth 100000 in
set_option maxHeartbeats 1000000 in
theorem add_any (base g : Nat) (W : List Int) (D n : Nat) (w : World) (own : WRow w base g W) (hW : GoodW W) (hD : D < 64) (hn : n ≤ 1073741824) :
    Calls Try.prog 50 #[.slice (some ⟨g, 0, none⟩) 64 64, .int .i64 D, .int .i64 n] w fun e w' => e = .returned (.tuple #[]) ∧ WRow w' base g (addW W D n) ∧ w.grownBy w' (some g) := by
  obtain ⟨z, hz, hzz, hz0, hz1⟩ := wrow_at hW hD
  unfold WRow at own
  have cd := own.cellAt D (by omega)
  rw [hzz] at cd
  unfold iv at cd
  have fz := own.frozenAt D
  have hgz := (own.lt g rfl).2
  have HS := Lib.hid (wrow_set (n := n) hz)
  have ST := Lib.hid (own.stored D (iv (min 1000000000 (z + (n : Int)))))
  clear own hzz hz
  go_enter Try.func50, Try.ntmps50
  have key : WRow (w.setCell ⟨g, D, none⟩ (iv (min 1000000000 (z + (n : Int))))) base g (addW W D n) ∧ w.grownBy (w.setCell ⟨g, D, none⟩ (iv (min 1000000000 (z + (n : Int))))) (some g) := ⟨by unfold WRow; rw [← HS.out]; exact ST.out.1, ST.out.2⟩
  have KEY := Lib.hid key
  clear key
  go_wp2_with fail
  exact Go.Great.bodyPost_end0 (by rfl) (by rfl) ⟨rfl, KEY.out.1, KEY.out.2⟩
end Go.Proofs.Ytolohbegdjnjnaa
