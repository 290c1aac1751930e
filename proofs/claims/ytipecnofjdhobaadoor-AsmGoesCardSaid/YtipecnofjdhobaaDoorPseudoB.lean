/- Contracts of package pintleref12: the document's answers. -/
import Derived.Test.YtipecnofjdhobaaDoorPseudo
namespace Go.Proofs.YtipecnofjdhobaaDoor
open Go Go.RowKit
set_option linter.unusedVariables false

theorem tm_cases (n : Int) : (0 ≤ n ∧ n.tmod 4096 = n % 4096) ∨ (n < 0 ∧ n.tmod 4096 = -((-n) % 4096)) := by
  by_cases h : 0 ≤ n
  · exact Or.inl ⟨h, Int.tmod_eq_emod_of_nonneg h⟩
  · refine Or.inr ⟨by omega, ?_⟩
    have e := Int.tmod_eq_emod_of_nonneg (a := -n) (b := 4096) (by omega)
    rw [Int.neg_tmod] at e
    omega
theorem lowS_eq (n : Int) : lowS n = (n + 2048) % 4096 - 2048 := by unfold lowS wrap32; omega

/-- a row that has grown to two -/
theorem own_two (W : World) (o d a b i o' d' a' b' i' : Int) (C base H : Nat) (l : List Q5) (hH : W.heap.size = H) (hb : base ≤ H) (h2 : 2 ≤ C) (hC : C ≤ maxLen) (hl : l = [⟨o, d, a, b, i⟩, ⟨o', d', a', b', i'⟩]) :
    OwnIns ((W.alloc (.cells (#[.int .i64 o, .int .i64 d, .int .i64 a, .int .i64 b, .int .i32 i] ++ (#[.int .i64 o', .int .i64 d', .int .i64 a', .int .i64 b', .int .i32 i'] ++
      Builtin.zeroCells #[.int .i64 0, .int .i64 0, .int .i64 0, .int .i64 0, .int .i32 0] (C - 2))) 36)).drew) base (.slice (some ⟨H, 0, none⟩) 2 C) l := by
  subst hH hl
  refine ⟨rfl, Or.inr ⟨W.heap.size, C, _, rfl, hb, heap_alloc_new W _, h2, hC, ?_, ?_⟩⟩
  · simp [Builtin.zeroCells]; omega
  · simp [flat, Q5.cells]
theorem two_of {rd n X Y : Int} (hr : 1 ≤ rd ∧ rd < 32) (hs : n < -2048 ∨ 2047 < n) (hY : Y = (n + 2048) % 4096 - 2048) (h0 : Y ≠ 0) (hX : X = wrap32 (n - ((n + 2048) % 4096 - 2048))) :
    setS rd n = [⟨42, rd, 0, 0, X⟩, ⟨19, rd, rd, 0, Y⟩] := by
  rw [set_two hr hs (by rw [lowS_eq]; simp; omega), lowS_eq, hX, hY]
theorem pone_of {rd n X : Int} (hr : 1 ≤ rd ∧ rd < 32) (hs : n < -2048 ∨ 2047 < n) (h0 : (n + 2048) % 4096 - 2048 = 0) (hX : X = wrap32 n) :
    setS rd n = [⟨42, rd, 0, 0, X⟩] := by
  rw [set_one hr hs (by rw [lowS_eq]; simp; omega), lowS_eq, hX, h0]; simp

set_option maxHeartbeats 400000 in
theorem rshort_no (n : Int) (w : World) (h : n < -2048 ∨ 2047 < n) :
    Calls Tryd.prog 38 #[.int .i64 n] w fun e w' => e = .returned (.bool false) ∧ w = w' := by
  go_enter Tryd.func38, Tryd.ntmps38
  by_cases g : -2048 ≤ n
  · have h' : decide (-2048 ≤ n) = true := by simpa using g
    have h2 : decide (n ≤ 2047) = false := by simp; omega
    go_wp2
    go_ret
    exact ⟨rfl, rfl⟩
  · have h' : decide (-2048 ≤ n) = false := by simpa using g
    go_wp2
    go_ret
    exact ⟨rfl, rfl⟩
set_option maxHeartbeats 400000 in
theorem rshort_yes (n : Int) (w : World) (h : -2048 ≤ n ∧ n ≤ 2047) :
    Calls Tryd.prog 38 #[.int .i64 n] w fun e w' => e = .returned (.bool true) ∧ w = w' := by
  go_enter Tryd.func38, Tryd.ntmps38
  have h' : decide (-2048 ≤ n) = true := by simp; omega
  have h2 : decide (n ≤ 2047) = true := by simp; omega
  go_wp2
  go_ret
  exact ⟨rfl, rfl⟩

set_option maxRecDepth 100000 in
set_option maxHeartbeats 1000000 in
theorem rset_any (rd n : Int) (w : World) (hn : -2147483648 ≤ n ∧ n ≤ 2147483647) :
    Calls Tryd.prog 24 #[.int .i64 rd, .int .i32 n] w (SetPost w (setS rd n)) := by
  by_cases hr : 1 ≤ rd ∧ rd < 32
  · by_cases hs : -2048 ≤ n ∧ n ≤ 2047
    · have HS := Lib.hid (set_short hr hs)
      have OW := Lib.hid (own_lit w w.heap.size (Nat.le_refl _) [⟨19, rd, 0, 0, n⟩] (Q5.arr ⟨19, rd, 0, 0, n⟩) rfl 1 rfl (by decide) w.heap.size rfl)
      go_enter Tryd.func24, Tryd.ntmps24
      go_wp2_with (go_at_call 38; refine (rshort_yes _ _ hs).mono ?_; rintro e w' ⟨rfl, rfl⟩)
      all_goals go_ret
      all_goals exact ⟨_, rfl, by rw [HS.out]; exact OW.out, by go_grown⟩
    · have hs' : n < -2048 ∨ 2047 < n := by omega
      have tmb : -4096 < n.tmod 4096 ∧ n.tmod 4096 < 4096 := by have := tm_cases n; omega
      go_enter Tryd.func24, Tryd.ntmps24
      go_wp2_with fail
      refine (rshort_no _ _ hs').mono ?_
      rintro e w' ⟨rfl, rfl⟩
      go_wp2_with fail
      all_goals go_ret
      all_goals have tc := tm_cases n
      all_goals simp only [beq_iff_eq, bne_iff_ne, ne_eq, beq_eq_false_iff_ne, bne_eq_false_iff_eq] at *
      all_goals first
        | exact ⟨_, rfl, own_two _ _ _ _ _ _ _ _ _ _ _ _ _ _ _ (by first | (simp; done) | trivial) (by omega) (grownCap_ge w 2 1 36) (grownCap_le_maxLen w 2 1 36 (by simp [maxLen])) (two_of hr hs' (by omega) (by omega) (by unfold wrap32; omega)), by go_grown⟩
        | exact ⟨_, rfl, by rw [pone_of hr hs' (by omega) (X := wrap32 (n - n.tmod 4096)) (by unfold wrap32; omega)]; exact own_lit w w.heap.size (Nat.le_refl _) [⟨42, rd, 0, 0, wrap32 (n - n.tmod 4096)⟩] (Q5.arr ⟨42, rd, 0, 0, wrap32 (n - n.tmod 4096)⟩) rfl 1 rfl (by decide) w.heap.size rfl, by go_grown⟩
  · have hr : rd < 1 ∨ 32 ≤ rd := by omega
    have HS := Lib.hid (set_no (n := n) hr)
    have OW := Lib.hid (own_lit w w.heap.size (Nat.le_refl _) [] #[] rfl 0 rfl (by decide) w.heap.size rfl)
    go_enter Tryd.func24, Tryd.ntmps24
    go_wp2
    all_goals go_ret
    all_goals exact ⟨_, rfl, by rw [HS.out]; exact OW.out, by go_grown⟩
end Go.Proofs.YtipecnofjdhobaaDoor
