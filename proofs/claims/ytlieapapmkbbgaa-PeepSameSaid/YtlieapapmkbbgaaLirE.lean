/- Contracts of pintleref15's single steps: what each call answers. -/
import Derived.Test.YtlieapapmkbbgaaGG
namespace Go.Proofs.Ytlieapapmkbbgaa
open Go Go.RowKit
set_option linter.unusedVariables false

def HasPost (op : Int) (w : World) (e : Ending) (w' : World) : Prop := e = .returned (.tuple #[.bool (hasD op), .bool (hasA op), .bool (hasB op)]) ∧ w = w'

set_option maxHeartbeats 400000 in
theorem has_low (o : Int) (w : World) (h : o < 1) : Calls Try.prog 25 #[.int .i64 o] w (HasPost o w) := by
  unfold HasPost
  have e_hasD : hasD o = false := by unfold hasD; simp; omega
  have e_hasA : hasA o = false := by unfold hasA; simp; omega
  have e_hasB : hasB o = false := by unfold hasB; simp; omega
  rw [e_hasD, e_hasA, e_hasB]
  clear e_hasD e_hasA e_hasB
  have q0 : decide (1 ≤ o) = false := by simp; omega
  have q1 : decide (o ≤ 20) = true := by simp; omega
  have q2 : decide (2 ≤ o) = false := by simp; omega
  have q3 : decide (o ≤ 22) = true := by simp; omega
  have q4 : decide (3 ≤ o) = false := by simp; omega
  have q5 : decide (o ≤ 12) = true := by simp; omega
  have t21 : (o == 21) = false := by first | (simp; done) | (simp; omega)
  have t22 : (o == 22) = false := by first | (simp; done) | (simp; omega)
  have t23 : (o == 23) = false := by first | (simp; done) | (simp; omega)
  go_enter Try.func25, Try.ntmps25
  go_wp2
  go_ret3
  exact ⟨rfl, rfl⟩
set_option maxHeartbeats 400000 in
theorem has_c1 (o : Int) (w : World) (h : o = 1) : Calls Try.prog 25 #[.int .i64 o] w (HasPost o w) := by
  unfold HasPost
  have e_hasD : hasD o = true := by unfold hasD; simp; omega
  have e_hasA : hasA o = false := by unfold hasA; simp; omega
  have e_hasB : hasB o = false := by unfold hasB; simp; omega
  rw [e_hasD, e_hasA, e_hasB]
  clear e_hasD e_hasA e_hasB
  subst h
  go_enter Try.func25, Try.ntmps25
  go_wp2
  go_ret3
  exact ⟨rfl, rfl⟩
set_option maxHeartbeats 400000 in
theorem has_c2 (o : Int) (w : World) (h : o = 2) : Calls Try.prog 25 #[.int .i64 o] w (HasPost o w) := by
  unfold HasPost
  have e_hasD : hasD o = true := by unfold hasD; simp; omega
  have e_hasA : hasA o = true := by unfold hasA; simp; omega
  have e_hasB : hasB o = false := by unfold hasB; simp; omega
  rw [e_hasD, e_hasA, e_hasB]
  clear e_hasD e_hasA e_hasB
  subst h
  go_enter Try.func25, Try.ntmps25
  go_wp2
  go_ret3
  exact ⟨rfl, rfl⟩
set_option maxHeartbeats 400000 in
theorem has_c3 (o : Int) (w : World) (h : 3 ≤ o ∧ o ≤ 12) : Calls Try.prog 25 #[.int .i64 o] w (HasPost o w) := by
  unfold HasPost
  have e_hasD : hasD o = true := by unfold hasD; simp; omega
  have e_hasA : hasA o = true := by unfold hasA; simp; omega
  have e_hasB : hasB o = true := by unfold hasB; simp; omega
  rw [e_hasD, e_hasA, e_hasB]
  clear e_hasD e_hasA e_hasB
  have q0 : decide (1 ≤ o) = true := by simp; omega
  have q1 : decide (o ≤ 20) = true := by simp; omega
  have q2 : decide (2 ≤ o) = true := by simp; omega
  have q3 : decide (o ≤ 22) = true := by simp; omega
  have q4 : decide (3 ≤ o) = true := by simp; omega
  have q5 : decide (o ≤ 12) = true := by simp; omega
  go_enter Try.func25, Try.ntmps25
  go_wp2
  go_ret3
  exact ⟨rfl, rfl⟩
set_option maxHeartbeats 400000 in
theorem has_c13 (o : Int) (w : World) (h : 13 ≤ o ∧ o ≤ 20) : Calls Try.prog 25 #[.int .i64 o] w (HasPost o w) := by
  unfold HasPost
  have e_hasD : hasD o = true := by unfold hasD; simp; omega
  have e_hasA : hasA o = true := by unfold hasA; simp; omega
  have e_hasB : hasB o = false := by unfold hasB; simp; omega
  rw [e_hasD, e_hasA, e_hasB]
  clear e_hasD e_hasA e_hasB
  have q0 : decide (1 ≤ o) = true := by simp; omega
  have q1 : decide (o ≤ 20) = true := by simp; omega
  have q2 : decide (2 ≤ o) = true := by simp; omega
  have q3 : decide (o ≤ 22) = true := by simp; omega
  have q4 : decide (3 ≤ o) = true := by simp; omega
  have q5 : decide (o ≤ 12) = false := by simp; omega
  have t21 : (o == 21) = false := by first | (simp; done) | (simp; omega)
  have t22 : (o == 22) = false := by first | (simp; done) | (simp; omega)
  go_enter Try.func25, Try.ntmps25
  go_wp2
  go_ret3
  exact ⟨rfl, rfl⟩
set_option maxHeartbeats 400000 in
theorem has_c21 (o : Int) (w : World) (h : o = 21) : Calls Try.prog 25 #[.int .i64 o] w (HasPost o w) := by
  unfold HasPost
  have e_hasD : hasD o = false := by unfold hasD; simp; omega
  have e_hasA : hasA o = true := by unfold hasA; simp; omega
  have e_hasB : hasB o = true := by unfold hasB; simp; omega
  rw [e_hasD, e_hasA, e_hasB]
  clear e_hasD e_hasA e_hasB
  subst h
  go_enter Try.func25, Try.ntmps25
  go_wp2
  go_ret3
  exact ⟨rfl, rfl⟩
set_option maxHeartbeats 400000 in
theorem has_c22 (o : Int) (w : World) (h : o = 22) : Calls Try.prog 25 #[.int .i64 o] w (HasPost o w) := by
  unfold HasPost
  have e_hasD : hasD o = false := by unfold hasD; simp; omega
  have e_hasA : hasA o = true := by unfold hasA; simp; omega
  have e_hasB : hasB o = true := by unfold hasB; simp; omega
  rw [e_hasD, e_hasA, e_hasB]
  clear e_hasD e_hasA e_hasB
  subst h
  go_enter Try.func25, Try.ntmps25
  go_wp2
  go_ret3
  exact ⟨rfl, rfl⟩
set_option maxHeartbeats 400000 in
theorem has_c23 (o : Int) (w : World) (h : o = 23) : Calls Try.prog 25 #[.int .i64 o] w (HasPost o w) := by
  unfold HasPost
  have e_hasD : hasD o = true := by unfold hasD; simp; omega
  have e_hasA : hasA o = false := by unfold hasA; simp; omega
  have e_hasB : hasB o = false := by unfold hasB; simp; omega
  rw [e_hasD, e_hasA, e_hasB]
  clear e_hasD e_hasA e_hasB
  subst h
  go_enter Try.func25, Try.ntmps25
  go_wp2
  go_ret3
  exact ⟨rfl, rfl⟩
set_option maxHeartbeats 400000 in
theorem has_c24 (o : Int) (w : World) (h : 24 ≤ o) : Calls Try.prog 25 #[.int .i64 o] w (HasPost o w) := by
  unfold HasPost
  have e_hasD : hasD o = false := by unfold hasD; simp; omega
  have e_hasA : hasA o = false := by unfold hasA; simp; omega
  have e_hasB : hasB o = false := by unfold hasB; simp; omega
  rw [e_hasD, e_hasA, e_hasB]
  clear e_hasD e_hasA e_hasB
  have q0 : decide (1 ≤ o) = true := by simp; omega
  have q1 : decide (o ≤ 20) = false := by simp; omega
  have q2 : decide (2 ≤ o) = true := by simp; omega
  have q3 : decide (o ≤ 22) = false := by simp; omega
  have q4 : decide (3 ≤ o) = true := by simp; omega
  have q5 : decide (o ≤ 12) = false := by simp; omega
  have t21 : (o == 21) = false := by first | (simp; done) | (simp; omega)
  have t22 : (o == 22) = false := by first | (simp; done) | (simp; omega)
  have t23 : (o == 23) = false := by first | (simp; done) | (simp; omega)
  go_enter Try.func25, Try.ntmps25
  go_wp2
  go_ret3
  exact ⟨rfl, rfl⟩
theorem lhas_any (o : Int) (w : World) : Calls Try.prog 25 #[.int .i64 o] w (HasPost o w) := by
  have : o < 1 ∨ o = 1 ∨ o = 2 ∨ (3 ≤ o ∧ o ≤ 12) ∨ (13 ≤ o ∧ o ≤ 20) ∨ o = 21 ∨ o = 22 ∨ o = 23 ∨ 24 ≤ o := by omega
  rcases this with h | h | h | h | h | h | h | h | h
  · exact has_low o w h
  · exact has_c1 o w h
  · exact has_c2 o w h
  · exact has_c3 o w h
  · exact has_c13 o w h
  · exact has_c21 o w h
  · exact has_c22 o w h
  · exact has_c23 o w h
  · exact has_c24 o w h
set_option maxHeartbeats 400000 in
theorem rfits_any (n : Int) (h : Bool) (w : World) : Calls Try.prog 37 #[.int .i64 n, .bool h] w fun e w' => e = .returned (.bool (fitsS n h)) ∧ w = w' := by
  by_cases g0 : 0 ≤ n
  · have h1 : decide (0 ≤ n) = true := by simp; omega
    by_cases g1 : n < 64
    · have h2 : decide (n < 64) = true := by simp; omega
      cases h
      · have e : fitsS n false = (n == 0) := by unfold fitsS; simp only [Bool.false_eq_true, if_false]; exact (by rw [Bool.eq_iff_iff]; simp)
        rw [e]; clear e
        go_enter Try.func37, Try.ntmps37
        go_wp2
        go_ret
        exact ⟨rfl, rfl⟩
      · have e : fitsS n true = true := by unfold fitsS; simp; omega
        rw [e]; clear e
        go_enter Try.func37, Try.ntmps37
        go_wp2
        go_ret
        exact ⟨rfl, rfl⟩
    · have h2 : decide (n < 64) = false := by simp; omega
      have e : fitsS n h = false := by unfold fitsS; cases h <;> simp <;> omega
      rw [e]; clear e
      go_enter Try.func37, Try.ntmps37
      go_wp2
      go_ret
      exact ⟨rfl, rfl⟩
  · have h1 : decide (0 ≤ n) = false := by simp; omega
    have e : fitsS n h = false := by unfold fitsS; cases h <;> simp <;> omega
    rw [e]; clear e
    go_enter Try.func37, Try.ntmps37
    go_wp2
    go_ret
    exact ⟨rfl, rfl⟩

def RCanPost (x : Q5) (v : Bool) (w : World) (e : Ending) (w' : World) : Prop := e = .returned (.bool v) ∧ w' = w.alloc (.cells #[.int .i64 x.o, .int .i64 x.d, .int .i64 x.a, .int .i64 x.b, .int .i32 x.i] 46)

set_option maxHeartbeats 1000000 in
theorem rcan_low (o d a b i : Int) (w : World) (h : o < 1) : Calls Try.prog 23 #[.agg #[.int .i64 o, .int .i64 d, .int .i64 a, .int .i64 b, .int .i32 i]] w (RCanPost ⟨o, d, a, b, i⟩ false w) := by
  go_enter Try.func23, Try.ntmps23
  go_wp2_with fail
  refine (lhas_any o _).mono ?_
  unfold HasPost
  rintro e w1 ⟨rfl, rfl⟩
  go_wp2_with fail
  go_ret
  exact ⟨rfl, rfl⟩
set_option maxHeartbeats 1000000 in
theorem rcan_high (o d a b i : Int) (w : World) (h : 24 < o) : Calls Try.prog 23 #[.agg #[.int .i64 o, .int .i64 d, .int .i64 a, .int .i64 b, .int .i32 i]] w (RCanPost ⟨o, d, a, b, i⟩ false w) := by
  go_enter Try.func23, Try.ntmps23
  go_wp2_with fail
  refine (lhas_any o _).mono ?_
  unfold HasPost
  rintro e w1 ⟨rfl, rfl⟩
  go_wp2_with fail
  go_ret
  exact ⟨rfl, rfl⟩
set_option maxHeartbeats 1000000 in
theorem rcan_f1 (o d a b i : Int) (w : World) (h : 1 ≤ o ∧ o ≤ 24)  (h1 : fitsS d (hasD o) = false) : Calls Try.prog 23 #[.agg #[.int .i64 o, .int .i64 d, .int .i64 a, .int .i64 b, .int .i32 i]] w (RCanPost ⟨o, d, a, b, i⟩ false w) := by
  have H1 := Lib.hid h1
  clear h1
  go_enter Try.func23, Try.ntmps23
  go_wp2_with fail
  refine (lhas_any o _).mono ?_
  unfold HasPost
  rintro e w1 ⟨rfl, rfl⟩
  go_wp2_with fail
  refine (rfits_any d _ _).mono ?_
  rw [H1.out]
  rintro e w1 ⟨rfl, rfl⟩
  go_wp2_with fail
  go_ret
  exact ⟨rfl, rfl⟩
set_option maxHeartbeats 1000000 in
theorem rcan_f2 (o d a b i : Int) (w : World) (h : 1 ≤ o ∧ o ≤ 24) (h1 : fitsS d (hasD o) = true) (h2 : fitsS a (hasA o) = false) : Calls Try.prog 23 #[.agg #[.int .i64 o, .int .i64 d, .int .i64 a, .int .i64 b, .int .i32 i]] w (RCanPost ⟨o, d, a, b, i⟩ false w) := by
  have H1 := Lib.hid h1
  have H2 := Lib.hid h2
  clear h1 h2
  go_enter Try.func23, Try.ntmps23
  go_wp2_with fail
  refine (lhas_any o _).mono ?_
  unfold HasPost
  rintro e w1 ⟨rfl, rfl⟩
  go_wp2_with fail
  refine (rfits_any d _ _).mono ?_
  rw [H1.out]
  rintro e w1 ⟨rfl, rfl⟩
  go_wp2_with fail
  refine (rfits_any a _ _).mono ?_
  rw [H2.out]
  rintro e w1 ⟨rfl, rfl⟩
  go_wp2_with fail
  go_ret
  exact ⟨rfl, rfl⟩
set_option maxHeartbeats 1000000 in
theorem rcan_f3 (o d a b i : Int) (w : World) (h : 1 ≤ o ∧ o ≤ 24) (h1 : fitsS d (hasD o) = true) (h2 : fitsS a (hasA o) = true) (h3 : fitsS b (hasB o) = false) : Calls Try.prog 23 #[.agg #[.int .i64 o, .int .i64 d, .int .i64 a, .int .i64 b, .int .i32 i]] w (RCanPost ⟨o, d, a, b, i⟩ false w) := by
  have H1 := Lib.hid h1
  have H2 := Lib.hid h2
  have H3 := Lib.hid h3
  clear h1 h2 h3
  go_enter Try.func23, Try.ntmps23
  go_wp2_with fail
  refine (lhas_any o _).mono ?_
  unfold HasPost
  rintro e w1 ⟨rfl, rfl⟩
  go_wp2_with fail
  refine (rfits_any d _ _).mono ?_
  rw [H1.out]
  rintro e w1 ⟨rfl, rfl⟩
  go_wp2_with fail
  refine (rfits_any a _ _).mono ?_
  rw [H2.out]
  rintro e w1 ⟨rfl, rfl⟩
  go_wp2_with fail
  refine (rfits_any b _ _).mono ?_
  rw [H3.out]
  rintro e w1 ⟨rfl, rfl⟩
  go_wp2_with fail
  go_ret
  exact ⟨rfl, rfl⟩
set_option maxHeartbeats 1000000 in
theorem rcan_F1 (o d a b i : Int) (w : World) (h : o = 1) (h1 : fitsS d (hasD o) = true) (h2 : fitsS a (hasA o) = true) (h3 : fitsS b (hasB o) = true) : Calls Try.prog 23 #[.agg #[.int .i64 o, .int .i64 d, .int .i64 a, .int .i64 b, .int .i32 i]] w (RCanPost ⟨o, d, a, b, i⟩ (true) w) := by
  have H1 := Lib.hid h1
  have H2 := Lib.hid h2
  have H3 := Lib.hid h3
  clear h1 h2 h3
  subst h
  go_enter Try.func23, Try.ntmps23
  go_wp2_with fail
  refine (lhas_any 1 _).mono ?_
  unfold HasPost
  rintro e w1 ⟨rfl, rfl⟩
  go_wp2_with fail
  refine (rfits_any d _ _).mono ?_
  rw [H1.out]
  rintro e w1 ⟨rfl, rfl⟩
  go_wp2_with fail
  refine (rfits_any a _ _).mono ?_
  rw [H2.out]
  rintro e w1 ⟨rfl, rfl⟩
  go_wp2_with fail
  refine (rfits_any b _ _).mono ?_
  rw [H3.out]
  rintro e w1 ⟨rfl, rfl⟩
  go_wp2_with fail
  all_goals go_ret
  all_goals refine ⟨ret_bool' ?_, rfl⟩
  all_goals (first | rfl | (simp; done) | (simp; omega))
set_option maxHeartbeats 1000000 in
theorem rcan_F2 (o d a b i : Int) (w : World) (h : o = 13) (h1 : fitsS d (hasD o) = true) (h2 : fitsS a (hasA o) = true) (h3 : fitsS b (hasB o) = true) : Calls Try.prog 23 #[.agg #[.int .i64 o, .int .i64 d, .int .i64 a, .int .i64 b, .int .i32 i]] w (RCanPost ⟨o, d, a, b, i⟩ (true) w) := by
  have H1 := Lib.hid h1
  have H2 := Lib.hid h2
  have H3 := Lib.hid h3
  clear h1 h2 h3
  subst h
  go_enter Try.func23, Try.ntmps23
  go_wp2_with fail
  refine (lhas_any 13 _).mono ?_
  unfold HasPost
  rintro e w1 ⟨rfl, rfl⟩
  go_wp2_with fail
  refine (rfits_any d _ _).mono ?_
  rw [H1.out]
  rintro e w1 ⟨rfl, rfl⟩
  go_wp2_with fail
  refine (rfits_any a _ _).mono ?_
  rw [H2.out]
  rintro e w1 ⟨rfl, rfl⟩
  go_wp2_with fail
  refine (rfits_any b _ _).mono ?_
  rw [H3.out]
  rintro e w1 ⟨rfl, rfl⟩
  go_wp2_with fail
  all_goals go_ret
  all_goals refine ⟨ret_bool' ?_, rfl⟩
  all_goals (first | rfl | (simp; done) | (simp; omega))
set_option maxHeartbeats 1000000 in
theorem rcan_F3 (o d a b i : Int) (w : World) (h : 17 ≤ o ∧ o ≤ 22) (h1 : fitsS d (hasD o) = true) (h2 : fitsS a (hasA o) = true) (h3 : fitsS b (hasB o) = true) : Calls Try.prog 23 #[.agg #[.int .i64 o, .int .i64 d, .int .i64 a, .int .i64 b, .int .i32 i]] w (RCanPost ⟨o, d, a, b, i⟩ (true) w) := by
  have H1 := Lib.hid h1
  have H2 := Lib.hid h2
  have H3 := Lib.hid h3
  clear h1 h2 h3
  have t23 : (o == 23) = false := by first | (simp; done) | (simp; omega)
  have t1 : (o == 1) = false := by first | (simp; done) | (simp; omega)
  have t13 : (o == 13) = false := by first | (simp; done) | (simp; omega)
  go_enter Try.func23, Try.ntmps23
  go_wp2_with fail
  refine (lhas_any o _).mono ?_
  unfold HasPost
  rintro e w1 ⟨rfl, rfl⟩
  go_wp2_with fail
  refine (rfits_any d _ _).mono ?_
  rw [H1.out]
  rintro e w1 ⟨rfl, rfl⟩
  go_wp2_with fail
  refine (rfits_any a _ _).mono ?_
  rw [H2.out]
  rintro e w1 ⟨rfl, rfl⟩
  go_wp2_with fail
  refine (rfits_any b _ _).mono ?_
  rw [H3.out]
  rintro e w1 ⟨rfl, rfl⟩
  go_wp2_with fail
  all_goals go_ret
  all_goals refine ⟨ret_bool' ?_, rfl⟩
  all_goals (first | rfl | (simp; done) | (simp; omega))
set_option maxHeartbeats 1000000 in
theorem rcan_Z1 (o d a b i : Int) (w : World) (h : 2 ≤ o ∧ o ≤ 12) (h1 : fitsS d (hasD o) = true) (h2 : fitsS a (hasA o) = true) (h3 : fitsS b (hasB o) = true) : Calls Try.prog 23 #[.agg #[.int .i64 o, .int .i64 d, .int .i64 a, .int .i64 b, .int .i32 i]] w (RCanPost ⟨o, d, a, b, i⟩ (i == 0) w) := by
  have H1 := Lib.hid h1
  have H2 := Lib.hid h2
  have H3 := Lib.hid h3
  clear h1 h2 h3
  have t23 : (o == 23) = false := by first | (simp; done) | (simp; omega)
  have t1 : (o == 1) = false := by first | (simp; done) | (simp; omega)
  have t13 : (o == 13) = false := by first | (simp; done) | (simp; omega)
  go_enter Try.func23, Try.ntmps23
  go_wp2_with fail
  refine (lhas_any o _).mono ?_
  unfold HasPost
  rintro e w1 ⟨rfl, rfl⟩
  go_wp2_with fail
  refine (rfits_any d _ _).mono ?_
  rw [H1.out]
  rintro e w1 ⟨rfl, rfl⟩
  go_wp2_with fail
  refine (rfits_any a _ _).mono ?_
  rw [H2.out]
  rintro e w1 ⟨rfl, rfl⟩
  go_wp2_with fail
  refine (rfits_any b _ _).mono ?_
  rw [H3.out]
  rintro e w1 ⟨rfl, rfl⟩
  go_wp2_with fail
  all_goals go_ret
  all_goals refine ⟨ret_bool' ?_, rfl⟩
  all_goals (first | rfl | (simp; done) | (simp; omega))
set_option maxHeartbeats 1000000 in
theorem rcan_Z2 (o d a b i : Int) (w : World) (h : o = 24) (h1 : fitsS d (hasD o) = true) (h2 : fitsS a (hasA o) = true) (h3 : fitsS b (hasB o) = true) : Calls Try.prog 23 #[.agg #[.int .i64 o, .int .i64 d, .int .i64 a, .int .i64 b, .int .i32 i]] w (RCanPost ⟨o, d, a, b, i⟩ (i == 0) w) := by
  have H1 := Lib.hid h1
  have H2 := Lib.hid h2
  have H3 := Lib.hid h3
  clear h1 h2 h3
  subst h
  go_enter Try.func23, Try.ntmps23
  go_wp2_with fail
  refine (lhas_any 24 _).mono ?_
  unfold HasPost
  rintro e w1 ⟨rfl, rfl⟩
  go_wp2_with fail
  refine (rfits_any d _ _).mono ?_
  rw [H1.out]
  rintro e w1 ⟨rfl, rfl⟩
  go_wp2_with fail
  refine (rfits_any a _ _).mono ?_
  rw [H2.out]
  rintro e w1 ⟨rfl, rfl⟩
  go_wp2_with fail
  refine (rfits_any b _ _).mono ?_
  rw [H3.out]
  rintro e w1 ⟨rfl, rfl⟩
  go_wp2_with fail
  all_goals go_ret
  all_goals refine ⟨ret_bool' ?_, rfl⟩
  all_goals (first | rfl | (simp; done) | (simp; omega))
set_option maxHeartbeats 1000000 in
theorem rcan_S (o d a b i : Int) (w : World) (h : 14 ≤ o ∧ o ≤ 16) (h1 : fitsS d (hasD o) = true) (h2 : fitsS a (hasA o) = true) (h3 : fitsS b (hasB o) = true) : Calls Try.prog 23 #[.agg #[.int .i64 o, .int .i64 d, .int .i64 a, .int .i64 b, .int .i32 i]] w (RCanPost ⟨o, d, a, b, i⟩ (decide (0 ≤ i) && decide (i ≤ 31)) w) := by
  have H1 := Lib.hid h1
  have H2 := Lib.hid h2
  have H3 := Lib.hid h3
  clear h1 h2 h3
  have t23 : (o == 23) = false := by first | (simp; done) | (simp; omega)
  go_enter Try.func23, Try.ntmps23
  go_wp2_with fail
  refine (lhas_any o _).mono ?_
  unfold HasPost
  rintro e w1 ⟨rfl, rfl⟩
  go_wp2_with fail
  refine (rfits_any d _ _).mono ?_
  rw [H1.out]
  rintro e w1 ⟨rfl, rfl⟩
  go_wp2_with fail
  refine (rfits_any a _ _).mono ?_
  rw [H2.out]
  rintro e w1 ⟨rfl, rfl⟩
  go_wp2_with fail
  refine (rfits_any b _ _).mono ?_
  rw [H3.out]
  rintro e w1 ⟨rfl, rfl⟩
  go_wp2_with fail
  all_goals go_ret
  all_goals refine ⟨ret_bool' ?_, rfl⟩
  all_goals (first | rfl | (simp; done) | (simp; omega))
set_option maxHeartbeats 1000000 in
theorem rcan_L (o d a b i : Int) (w : World) (h : o = 23) (h1 : fitsS d (hasD o) = true) (h2 : fitsS a (hasA o) = true) (h3 : fitsS b (hasB o) = true) : Calls Try.prog 23 #[.agg #[.int .i64 o, .int .i64 d, .int .i64 a, .int .i64 b, .int .i32 i]] w (RCanPost ⟨o, d, a, b, i⟩ (decide (1 ≤ i) && decide (i ≤ 100000)) w) := by
  have H1 := Lib.hid h1
  have H2 := Lib.hid h2
  have H3 := Lib.hid h3
  clear h1 h2 h3
  subst h
  go_enter Try.func23, Try.ntmps23
  go_wp2_with fail
  refine (lhas_any 23 _).mono ?_
  unfold HasPost
  rintro e w1 ⟨rfl, rfl⟩
  go_wp2_with fail
  refine (rfits_any d _ _).mono ?_
  rw [H1.out]
  rintro e w1 ⟨rfl, rfl⟩
  go_wp2_with fail
  refine (rfits_any a _ _).mono ?_
  rw [H2.out]
  rintro e w1 ⟨rfl, rfl⟩
  go_wp2_with fail
  refine (rfits_any b _ _).mono ?_
  rw [H3.out]
  rintro e w1 ⟨rfl, rfl⟩
  go_wp2_with fail
  all_goals go_ret
  all_goals refine ⟨ret_bool' ?_, rfl⟩
  all_goals (first | rfl | (simp; done) | (simp; omega))
theorem canS_tail {o d a b i : Int} (h : 1 ≤ o ∧ o ≤ 24) (h1 : fitsS d (hasD o) = true) (h2 : fitsS a (hasA o) = true) (h3 : fitsS b (hasB o) = true) : canS ⟨o, d, a, b, i⟩ = (decide (leastS o ≤ i) && decide (i ≤ mostS o)) := by
  have h0 : isOp o = true := by unfold isOp; simp; omega
  unfold canS
  simp only [h0, h1, h2, h3, Bool.true_and]
theorem rcan_any (o d a b i : Int) (w : World) (hi : -2147483648 ≤ i ∧ i ≤ 2147483647) : Calls Try.prog 23 #[.agg #[.int .i64 o, .int .i64 d, .int .i64 a, .int .i64 b, .int .i32 i]] w (RCanPost ⟨o, d, a, b, i⟩ (canS ⟨o, d, a, b, i⟩) w) := by
  by_cases h0 : 1 ≤ o ∧ o ≤ 24
  · cases h1 : fitsS d (hasD o)
    · rw [show canS ⟨o, d, a, b, i⟩ = false by unfold canS; simp [h1]]; exact rcan_f1 o d a b i w h0 h1
    · cases h2 : fitsS a (hasA o)
      · rw [show canS ⟨o, d, a, b, i⟩ = false by unfold canS; simp [h2]]; exact rcan_f2 o d a b i w h0 h1 h2
      · cases h3 : fitsS b (hasB o)
        · rw [show canS ⟨o, d, a, b, i⟩ = false by unfold canS; simp [h3]]; exact rcan_f3 o d a b i w h0 h1 h2 h3
        · rw [canS_tail h0 h1 h2 h3]
          have : o = 1 ∨ o = 13 ∨ (17 ≤ o ∧ o ≤ 22) ∨ (2 ≤ o ∧ o ≤ 12) ∨ o = 24 ∨ (14 ≤ o ∧ o ≤ 16) ∨ o = 23 := by omega
          rcases this with h | h | h | h | h | h | h
          · rw [show (decide (leastS o ≤ i) && decide (i ≤ mostS o)) = true by unfold leastS mostS; rw [if_pos (by omega), if_pos (by omega)]; simp; omega]; exact rcan_F1 o d a b i w h h1 h2 h3
          · rw [show (decide (leastS o ≤ i) && decide (i ≤ mostS o)) = true by unfold leastS mostS; rw [if_pos (by omega), if_pos (by omega)]; simp; omega]; exact rcan_F2 o d a b i w h h1 h2 h3
          · rw [show (decide (leastS o ≤ i) && decide (i ≤ mostS o)) = true by unfold leastS mostS; rw [if_pos (by omega), if_pos (by omega)]; simp; omega]; exact rcan_F3 o d a b i w h h1 h2 h3
          · rw [show (decide (leastS o ≤ i) && decide (i ≤ mostS o)) = (i == 0) by unfold leastS mostS; rw [if_neg (by omega), if_neg (by omega), if_neg (by omega), if_neg (by omega), if_neg (by omega), Bool.eq_iff_iff]; simp; omega]; exact rcan_Z1 o d a b i w h h1 h2 h3
          · rw [show (decide (leastS o ≤ i) && decide (i ≤ mostS o)) = (i == 0) by unfold leastS mostS; rw [if_neg (by omega), if_neg (by omega), if_neg (by omega), if_neg (by omega), if_neg (by omega), Bool.eq_iff_iff]; simp; omega]; exact rcan_Z2 o d a b i w h h1 h2 h3
          · rw [show leastS o = 0 by unfold leastS; rw [if_neg (by omega), if_neg (by omega)], show mostS o = 31 by unfold mostS; rw [if_neg (by omega), if_neg (by omega), if_pos (by omega)]]; exact rcan_S o d a b i w h h1 h2 h3
          · rw [show leastS o = 1 by unfold leastS; rw [if_neg (by omega), if_pos (by omega)], show mostS o = 100000 by unfold mostS; rw [if_neg (by omega), if_pos (by omega)]]; exact rcan_L o d a b i w h h1 h2 h3
  · rw [show canS ⟨o, d, a, b, i⟩ = false by unfold canS; rw [show isOp o = false by unfold isOp; simp; omega]; rfl]
    by_cases h : o < 1
    · exact rcan_low o d a b i w h
    · exact rcan_high o d a b i w (by omega)
end Go.Proofs.Ytlieapapmkbbgaa
