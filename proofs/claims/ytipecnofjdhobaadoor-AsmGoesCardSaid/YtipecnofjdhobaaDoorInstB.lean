/- Contract of inst.Can. -/
import Derived.Test.YtipecnofjdhobaaDoorInst
namespace Go.Proofs.YtipecnofjdhobaaDoor
open Go Go.RowKit Pl
set_option linter.unusedVariables false

theorem below_trans {w a b : World} (h : Below w.heap.size w a) (k : Below a.heap.size a b) : Below w.heap.size w b := h.trans (k.mono h.size)
def ICanP (x : Q5) (w : World) (e : Ending) (w' : World) : Prop := e = .returned (.bool (canI x)) ∧ Below w.heap.size w w'
theorem ican_mk {x : Q5} {w w' : World} {b : Bool} (h : canI x = b) (hb : Below w.heap.size w w') : ICanP x w (.returned (.bool b)) w' := ⟨by rw [h], hb⟩
set_option maxHeartbeats 1000000 in
theorem ican_w0 (o d a b i : Int) (w : World) (h : o < 1 ∨ 48 < o) :
    Calls Tryd.prog 34 #[.agg #[.int .i64 o, .int .i64 d, .int .i64 a, .int .i64 b, .int .i32 i]] w (ICanP ⟨o, d, a, b, i⟩ w) := by
  have C := Lib.hid (show canI ⟨o, d, a, b, i⟩ = false by unfold canI isOpI; simp; omega)
  rcases h with h | h
  · have t1 : decide (1 ≤ o) = false := by simp; omega
    go_enter Tryd.func34, Tryd.ntmps34
    go_wp2
    go_ret
    exact ican_mk C.out (by go_grown)
  · have t1 : decide (1 ≤ o) = true := by simp; omega
    have t2 : decide (o ≤ 48) = false := by simp; omega
    go_enter Tryd.func34, Tryd.ntmps34
    go_wp2
    go_ret
    exact ican_mk C.out (by go_grown)
set_option maxHeartbeats 1000000 in
theorem ican_w1 (o d a b i : Int) (w : World) (ho : 1 ≤ o ∧ o ≤ 48) (h1 : regOk d (rD o) = false) :
    Calls Tryd.prog 34 #[.agg #[.int .i64 o, .int .i64 d, .int .i64 a, .int .i64 b, .int .i32 i]] w (ICanP ⟨o, d, a, b, i⟩ w) := by
  have C := Lib.hid (show canI ⟨o, d, a, b, i⟩ = false by unfold canI; simp [h1])
  have OP := Lib.hid (show isOpI o = true by unfold isOpI; simp; omega)
  have H1 := Lib.hid h1
  have LY := Lib.hid (ilay_any o · ho)
  clear h1
  go_enter Tryd.func34, Tryd.ntmps34
  go_wp2_with (first | (go_at_call 35; refine (LY.out _).mono ?_; unfold LayIP layI; rintro e w1 ⟨rfl, rfl⟩) | (go_at_call 45; refine (isop_any _ _).mono ?_; rw [OP.out]; rintro e w1 ⟨rfl, rfl⟩))
  refine (ireg_any d _ _).mono ?_
  rw [H1.out]
  rintro e w2 ⟨rfl, rfl⟩
  go_wp2_with fail
  go_ret
  exact ican_mk C.out (by go_grown)
set_option maxHeartbeats 1000000 in
theorem ican_w2 (o d a b i : Int) (w : World) (ho : 1 ≤ o ∧ o ≤ 48) (h1 : regOk d (rD o) = true) (h2 : regOk a (rA o) = false) :
    Calls Tryd.prog 34 #[.agg #[.int .i64 o, .int .i64 d, .int .i64 a, .int .i64 b, .int .i32 i]] w (ICanP ⟨o, d, a, b, i⟩ w) := by
  have C := Lib.hid (show canI ⟨o, d, a, b, i⟩ = false by unfold canI; simp [h1, h2])
  have OP := Lib.hid (show isOpI o = true by unfold isOpI; simp; omega)
  have H1 := Lib.hid h1
  have H2 := Lib.hid h2
  have LY := Lib.hid (ilay_any o · ho)
  clear h1 h2
  go_enter Tryd.func34, Tryd.ntmps34
  go_wp2_with (first | (go_at_call 35; refine (LY.out _).mono ?_; unfold LayIP layI; rintro e w1 ⟨rfl, rfl⟩) | (go_at_call 45; refine (isop_any _ _).mono ?_; rw [OP.out]; rintro e w1 ⟨rfl, rfl⟩))
  refine (ireg_any d _ _).mono ?_
  rw [H1.out]
  rintro e w2 ⟨rfl, rfl⟩
  go_wp2_with fail
  refine (ireg_any a _ _).mono ?_
  rw [H2.out]
  rintro e w3 ⟨rfl, rfl⟩
  go_wp2_with fail
  go_ret
  exact ican_mk C.out (by go_grown)
set_option maxHeartbeats 1000000 in
theorem ican_w3 (o d a b i : Int) (w : World) (ho : 1 ≤ o ∧ o ≤ 48) (h1 : regOk d (rD o) = true) (h2 : regOk a (rA o) = true) (h3 : regOk b (rB o) = false) :
    Calls Tryd.prog 34 #[.agg #[.int .i64 o, .int .i64 d, .int .i64 a, .int .i64 b, .int .i32 i]] w (ICanP ⟨o, d, a, b, i⟩ w) := by
  have C := Lib.hid (show canI ⟨o, d, a, b, i⟩ = false by unfold canI; simp [h1, h2, h3])
  have OP := Lib.hid (show isOpI o = true by unfold isOpI; simp; omega)
  have H1 := Lib.hid h1
  have H2 := Lib.hid h2
  have H3 := Lib.hid h3
  have LY := Lib.hid (ilay_any o · ho)
  clear h1 h2 h3
  go_enter Tryd.func34, Tryd.ntmps34
  go_wp2_with (first | (go_at_call 35; refine (LY.out _).mono ?_; unfold LayIP layI; rintro e w1 ⟨rfl, rfl⟩) | (go_at_call 45; refine (isop_any _ _).mono ?_; rw [OP.out]; rintro e w1 ⟨rfl, rfl⟩))
  refine (ireg_any d _ _).mono ?_
  rw [H1.out]
  rintro e w2 ⟨rfl, rfl⟩
  go_wp2_with fail
  refine (ireg_any a _ _).mono ?_
  rw [H2.out]
  rintro e w3 ⟨rfl, rfl⟩
  go_wp2_with fail
  refine (ireg_any b _ _).mono ?_
  rw [H3.out]
  rintro e w4 ⟨rfl, rfl⟩
  go_wp2_with fail
  go_ret
  exact ican_mk C.out (by go_grown)
set_option maxHeartbeats 1000000 in
theorem ican_w4 (o d a b i : Int) (w : World) (ho : 1 ≤ o ∧ o ≤ 48) (h1 : regOk d (rD o) = true) (h2 : regOk a (rA o) = true) (h3 : regOk b (rB o) = true) (i0 : -2147483648 ≤ i) (i1 : i ≤ 2147483647) :
    Calls Tryd.prog 34 #[.agg #[.int .i64 o, .int .i64 d, .int .i64 a, .int .i64 b, .int .i32 i]] w (ICanP ⟨o, d, a, b, i⟩ w) := by
  have C := Lib.hid (show canI ⟨o, d, a, b, i⟩ = numOk (formI o) i by unfold canI isOpI; simp [h1, h2, h3, ho])
  have OP := Lib.hid (show isOpI o = true by unfold isOpI; simp; omega)
  have H1 := Lib.hid h1
  have H2 := Lib.hid h2
  have H3 := Lib.hid h3
  have N := Lib.hid (inum_any o d a b i · ho i0 i1)
  have LY := Lib.hid (ilay_any o · ho)
  clear h1 h2 h3
  go_enter Tryd.func34, Tryd.ntmps34
  go_wp2_with (first | (go_at_call 35; refine (LY.out _).mono ?_; unfold LayIP layI; rintro e w1 ⟨rfl, rfl⟩) | (go_at_call 45; refine (isop_any _ _).mono ?_; rw [OP.out]; rintro e w1 ⟨rfl, rfl⟩))
  refine (ireg_any d _ _).mono ?_
  rw [H1.out]
  rintro e w2 ⟨rfl, rfl⟩
  go_wp2_with fail
  refine (ireg_any a _ _).mono ?_
  rw [H2.out]
  rintro e w3 ⟨rfl, rfl⟩
  go_wp2_with fail
  refine (ireg_any b _ _).mono ?_
  rw [H3.out]
  rintro e w4 ⟨rfl, rfl⟩
  go_wp2_with fail
  refine (N.out _).mono ?_
  rintro e w9 ⟨rfl, hb⟩
  have HB := Lib.hid hb
  clear hb
  go_wp2_with fail
  go_ret
  exact ican_mk C.out (below_trans (by go_grown) HB.out)
theorem ican_any (o d a b i : Int) (w : World) (i0 : -2147483648 ≤ i) (i1 : i ≤ 2147483647) : Calls Tryd.prog 34 #[.agg #[.int .i64 o, .int .i64 d, .int .i64 a, .int .i64 b, .int .i32 i]] w (ICanP ⟨o, d, a, b, i⟩ w) := by
  by_cases ho : 1 ≤ o ∧ o ≤ 48
  · cases h1 : regOk d (rD o)
    · exact ican_w1 o d a b i w ho h1
    cases h2 : regOk a (rA o)
    · exact ican_w2 o d a b i w ho h1 h2
    cases h3 : regOk b (rB o)
    · exact ican_w3 o d a b i w ho h1 h2 h3
    exact ican_w4 o d a b i w ho h1 h2 h3 i0 i1
  · exact ican_w0 o d a b i w (by omega)
end Go.Proofs.YtipecnofjdhobaaDoor
