/- Contracts of pintleref15.Reads, Writes and of the law's own 'lives'. -/
import Derived.Test.YtlieapapmkbbgaaLirE
namespace Go.Proofs.Ytlieapapmkbbgaa
open Go Go.RowKit
set_option linter.unusedVariables false

theorem box4 {w : World} {cs : Array Value} {t : TypeId} {o1 o2 o3 : Obj} {j : Nat} {v : Value} (h : cs[j]? = some v) : ((((w.alloc (.cells cs t)).alloc o1).alloc o2).alloc o3).cell? ⟨w.heap.size, j, none⟩ = some v := by
  rw [World.cell?_alloc_past _ _ _ (by simp; omega), World.cell?_alloc_past _ _ _ (by simp; omega), World.cell?_alloc_past _ _ _ (by simp), World.cell?_alloc_new]
  exact h
theorem own_made (w : World) (base : Nat) (hb : base ≤ w.heap.size) (H : Nat) (hH : w.heap.size = H) : OwnI (w.alloc (.cells #[] 3)) base (.slice (some ⟨H, 0, none⟩) 0 0) [] := by
  subst hH
  exact World.ownsRow_lit w #[] 0 hb (by decide) rfl

theorem rcan_is (o d a b i : Int) (w : World) (hi : -2147483648 ≤ i ∧ i ≤ 2147483647) {v : Bool} (h : canS ⟨o, d, a, b, i⟩ = v) : Calls Try.prog 23 #[.agg #[.int .i64 o, .int .i64 d, .int .i64 a, .int .i64 b, .int .i32 i]] w fun e w' =>
    e = .returned (.bool v) ∧ w' = w.alloc (.cells #[.int .i64 o, .int .i64 d, .int .i64 a, .int .i64 b, .int .i32 i] 46) := by
  subst h
  exact rcan_any o d a b i w hi

theorem below_draw {w w' : World} (h : ∃ n, w' = w.drewN n) : Below w.heap.size w w' := by
  obtain ⟨n, rfl⟩ := h
  exact below_drewN (Below.refl _ _) n

def lv : List Q5 := [⟨23, 1, 0, 0, 3⟩, ⟨13, 0, 0, 0, 5⟩, ⟨24, 0, 0, 0, 0⟩]
theorem lv_ends : endsS lv = some [2, -1, 0] := by rfl
theorem lv_check : checkS lv = 0 := by decide
end Go.Proofs.Ytlieapapmkbbgaa
