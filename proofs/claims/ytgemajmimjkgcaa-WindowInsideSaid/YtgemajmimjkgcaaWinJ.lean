/- Contract of window.Inside where there is a window, with what it means for the taps. -/
import Derived.Test.YtgemajmimjkgcaaWinI
namespace Go.Proofs.Ytgemajmimjkgcaa
open Go Go.RowKit Pl
set_option linter.unusedVariables false

/-- what Inside tells of a window: for which outputs the kernel lies over the input with all its places -/
def InsP (n0 n1 k0 k1 s0 s1 p0 p1 D0 D1 a b c d : Int) : Prop :=
  (∀ y x, 0 ≤ y → y < D0 → 0 ≤ x → x < D1 → (((cntB (tapB n0 n1 k1 s0 s1 p0 p1 y x) (k0 * k1).toNat : Nat) : Int) == k0 * k1) = (decide (a ≤ y) && (decide (y < b) && (decide (c ≤ x) && decide (x < d))))) ∧ b ≤ D0 ∧ d ≤ D1
theorem cnt_int {f : Nat → Bool} {m : Int} (h : 1 ≤ m) (v : Bool) (e : cntB f m.toNat = m.toNat ↔ v = true) : (((cntB f m.toNat : Nat) : Int) == m) = v := by
  have hm : ((m.toNat : Nat) : Int) = m := Int.toNat_of_nonneg (by omega)
  cases v
  · have g : ¬ cntB f m.toNat = m.toNat := fun g => by simpa using e.1 g
    simp only [beq_eq_false_iff_ne, ne_eq]; omega
  · have g := e.2 rfl
    simp only [beq_iff_eq]; omega
theorem ins_good (n0 n1 k0 k1 s0 s1 p0 p1 q0 q1 : Int) (w : World) (g0 : gdW n0 k0 s0 p0 q0 = true) (g1 : gdW n1 k1 s1 p1 q1 = true) :
    Calls Try.prog 21 #[.agg #[.int .i64 n0, .int .i64 n1], .agg #[.int .i64 k0, .int .i64 k1], .agg #[.int .i64 s0, .int .i64 s1], .agg #[.int .i64 p0, .int .i64 p1, .int .i64 q0, .int .i64 q1]] w fun e w' => (∃ a b c d, e = .returned (.tuple #[.agg #[.int .i64 a, .int .i64 b, .int .i64 c, .int .i64 d], .bool true]) ∧ InsP n0 n1 k0 k1 s0 s1 p0 p1 (odW n0 k0 s0 p0 q0) (odW n1 k1 s1 p1 q1) a b c d) ∧ Below w.heap.size w w' := by
  have f0 := gdW_o g0
  have f1 := gdW_o g1
  have x0 := od_bd g0
  have x1 := od_bd g1
  have t0 := toW_bd (n := n0) (k := k0) (s := s0) (p := p0) (o := odW n0 k0 s0 p0 q0) (by omega) (by omega) (by omega) (by omega) x0
  have t1 := toW_bd (n := n1) (k := k1) (s := s1) (p := p1) (o := odW n1 k1 s1 p1 q1) (by omega) (by omega) (by omega) (by omega) x1
  have kk : 1 ≤ k0 * k1 := by have := Int.mul_le_mul (show 1 ≤ k0 by omega) (show 1 ≤ k1 by omega) (by omega) (by omega); omega
  have key : ∀ y x, 0 ≤ y → y < odW n0 k0 s0 p0 q0 → 0 ≤ x → x < odW n1 k1 s1 p1 q1 → (cntB (tapB n0 n1 k1 s0 s1 p0 p1 y x) (k0 * k1).toNat = (k0 * k1).toNat ↔ ((fromW n0 k0 s0 p0 ≤ y ∧ y < toW n0 k0 s0 p0 (odW n0 k0 s0 p0 q0)) ∧ (fromW n1 k1 s1 p1 ≤ x ∧ x < toW n1 k1 s1 p1 (odW n1 k1 s1 p1 q1)))) := by
    intro y x hy hy' hx hx'
    rw [all_iff (by omega) (by omega), side_iff (by omega) ⟨hy, hy'⟩, side_iff (by omega) ⟨hx, hx'⟩]
  rcases (show (fromW n0 k0 s0 p0 < toW n0 k0 s0 p0 (odW n0 k0 s0 p0 q0)) ∨ (toW n0 k0 s0 p0 (odW n0 k0 s0 p0 q0) ≤ fromW n0 k0 s0 p0) by omega) with hy | hy
  · rcases (show (fromW n1 k1 s1 p1 < toW n1 k1 s1 p1 (odW n1 k1 s1 p1 q1)) ∨ (toW n1 k1 s1 p1 (odW n1 k1 s1 p1 q1) ≤ fromW n1 k1 s1 p1) by omega) with hz | hz
    · refine (ins_ok n0 n1 k0 k1 s0 s1 p0 p1 q0 q1 w g0 g1 hy hz).mono ?_
      rintro e w' ⟨rfl, hb⟩
      refine ⟨⟨_, _, _, _, rfl, fun y x h1 h2 h3 h4 => cnt_int kk _ ((key y x h1 h2 h3 h4).trans ?_), t0.2.2, t1.2.2⟩, hb⟩
      simp only [Bool.and_eq_true, decide_eq_true_eq]
      omega
    · refine (ins_z1 n0 n1 k0 k1 s0 s1 p0 p1 q0 q1 w g0 g1 hy hz).mono ?_
      rintro e w' ⟨rfl, hb⟩
      refine ⟨⟨0, 0, 0, 0, rfl, fun y x h1 h2 h3 h4 => cnt_int kk _ ((key y x h1 h2 h3 h4).trans ?_), by omega, by omega⟩, hb⟩
      simp only [Bool.and_eq_true, decide_eq_true_eq]
      omega
  · refine (ins_z0 n0 n1 k0 k1 s0 s1 p0 p1 q0 q1 w g0 g1 hy).mono ?_
    rintro e w' ⟨rfl, hb⟩
    refine ⟨⟨0, 0, 0, 0, rfl, fun y x h1 h2 h3 h4 => cnt_int kk _ ((key y x h1 h2 h3 h4).trans ?_), by omega, by omega⟩, hb⟩
    simp only [Bool.and_eq_true, decide_eq_true_eq]
    omega
end Go.Proofs.Ytgemajmimjkgcaa
