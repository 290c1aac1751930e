/- Contracts of pseudo.Add, Move, Turn and of pintleref12's: what each call answers; the law's own 'lives'. -/
import Derived.Test.YtmhkihfbcpmjlaaPseudod
namespace Go.Proofs.Ytmhkihfbcpmjlaa
open Go Go.RowKit
set_option linter.unusedVariables false

def addS (rd rs n b : Int) : List Q5 :=
  if 1 ≤ rd ∧ rd < 32 ∧ 0 ≤ rs ∧ rs < 32 ∧ 1 ≤ b ∧ b < 32 ∧ b ≠ rs ∧ ¬ (n = 0 ∧ rd = rs) then
    if -2048 ≤ n ∧ n ≤ 2047 then [⟨19, rd, rs, 0, n⟩] else setS b n ++ [⟨1, rd, rs, b, 0⟩]
  else []
theorem add_no {rd rs n b : Int} (h : ¬ (1 ≤ rd ∧ rd < 32 ∧ 0 ≤ rs ∧ rs < 32 ∧ 1 ≤ b ∧ b < 32 ∧ b ≠ rs ∧ ¬ (n = 0 ∧ rd = rs))) : addS rd rs n b = [] := by unfold addS; rw [if_neg h]
theorem add_short {rd rs n b : Int} (h : 1 ≤ rd ∧ rd < 32 ∧ 0 ≤ rs ∧ rs < 32 ∧ 1 ≤ b ∧ b < 32 ∧ b ≠ rs ∧ ¬ (n = 0 ∧ rd = rs)) (hn : -2048 ≤ n ∧ n ≤ 2047) : addS rd rs n b = [⟨19, rd, rs, 0, n⟩] := by unfold addS; rw [if_pos h, if_pos hn]
theorem add_long {rd rs n b : Int} (h : 1 ≤ rd ∧ rd < 32 ∧ 0 ≤ rs ∧ rs < 32 ∧ 1 ≤ b ∧ b < 32 ∧ b ≠ rs ∧ ¬ (n = 0 ∧ rd = rs)) (hn : ¬ (-2048 ≤ n ∧ n ≤ 2047)) : addS rd rs n b = setS b n ++ [⟨1, rd, rs, b, 0⟩] := by unfold addS; rw [if_pos h, if_neg hn]

theorem set_len (b n : Int) : (setS b n).length ≤ 2 := by
  unfold setS
  split
  · split
    · simp
    · split <;> simp
  · simp

set_option maxHeartbeats 400000 in
theorem reg_yes (n : Int) (w : World) (h : 0 ≤ n ∧ n < 32) :
    Calls Try.prog 13 #[.int .i64 n] w fun e w' => e = .returned (.bool true) ∧ w = w' := by
  have h1 : decide (0 ≤ n) = true := by simp; omega
  have h2 : decide (n < 32) = true := by simp; omega
  go_enter Try.func13, Try.ntmps13
  go_wp2
  go_ret
  exact ⟨rfl, rfl⟩
set_option maxHeartbeats 400000 in
theorem reg_no (n : Int) (w : World) (h : n < 0 ∨ 32 ≤ n) :
    Calls Try.prog 13 #[.int .i64 n] w fun e w' => e = .returned (.bool false) ∧ w = w' := by
  by_cases g : 0 ≤ n
  · have h1 : decide (0 ≤ n) = true := by simp; omega
    have h2 : decide (n < 32) = false := by simp; omega
    go_enter Try.func13, Try.ntmps13
    go_wp2
    go_ret
    exact ⟨rfl, rfl⟩
  · have h1 : decide (0 ≤ n) = false := by simp; omega
    go_enter Try.func13, Try.ntmps13
    go_wp2
    go_ret
    exact ⟨rfl, rfl⟩
set_option maxHeartbeats 400000 in
theorem short_yes (n : Int) (w : World) (h : -2048 ≤ n ∧ n ≤ 2047) :
    Calls Try.prog 10 #[.int .i32 n] w fun e w' => e = .returned (.bool true) ∧ w = w' := by
  have h' : decide (-2048 ≤ n) = true := by simp; omega
  have h2 : decide (n ≤ 2047) = true := by simp; omega
  go_enter Try.func10, Try.ntmps10
  go_wp2
  go_ret
  exact ⟨rfl, rfl⟩

set_option maxHeartbeats 400000 in
theorem add_bad0 (rd rs n b : Int) (w : World) (g0 : rd = 0) :
    Calls Try.prog 8 #[.int .i64 rd, .int .i64 rs, .int .i32 n, .int .i64 b] w fun e w' => e = .returned (.slice none 0 0) ∧ w = w' := by
  have t0 : (rd == 0) = true := by simp; omega
  clear g0
  go_enter Try.func8, Try.ntmps8
  go_wp2_with fail
  go_ret
  exact ⟨rfl, rfl⟩
set_option maxHeartbeats 400000 in
theorem add_bad1 (rd rs n b : Int) (w : World) (g0 : rd ≠ 0) (g1 : b = 0) :
    Calls Try.prog 8 #[.int .i64 rd, .int .i64 rs, .int .i32 n, .int .i64 b] w fun e w' => e = .returned (.slice none 0 0) ∧ w = w' := by
  have t0 : (rd == 0) = false := by simp; omega
  have t1 : (b == 0) = true := by simp; omega
  clear g0
  clear g1
  go_enter Try.func8, Try.ntmps8
  go_wp2_with fail
  go_ret
  exact ⟨rfl, rfl⟩
set_option maxHeartbeats 400000 in
theorem add_bad2 (rd rs n b : Int) (w : World) (g0 : rd ≠ 0) (g1 : b ≠ 0) (g2 : b = rs) :
    Calls Try.prog 8 #[.int .i64 rd, .int .i64 rs, .int .i32 n, .int .i64 b] w fun e w' => e = .returned (.slice none 0 0) ∧ w = w' := by
  have t0 : (rd == 0) = false := by simp; omega
  have t1 : (b == 0) = false := by simp; omega
  have t2 : (b == rs) = true := by simp; omega
  clear g0
  clear g1
  clear g2
  go_enter Try.func8, Try.ntmps8
  go_wp2_with fail
  go_ret
  exact ⟨rfl, rfl⟩
set_option maxHeartbeats 400000 in
theorem add_bad3 (rd rs n b : Int) (w : World) (g0 : rd ≠ 0) (g1 : b ≠ 0) (g2 : b ≠ rs) (g3 : (rd < 0 ∨ 32 ≤ rd)) :
    Calls Try.prog 8 #[.int .i64 rd, .int .i64 rs, .int .i32 n, .int .i64 b] w fun e w' => e = .returned (.slice none 0 0) ∧ w = w' := by
  have t0 : (rd == 0) = false := by simp; omega
  have t1 : (b == 0) = false := by simp; omega
  have t2 : (b == rs) = false := by simp; omega
  clear g0
  clear g1
  clear g2
  go_enter Try.func8, Try.ntmps8
  go_wp2_with fail
  refine (reg_no rd _ g3).mono ?_
  rintro e w' ⟨rfl, rfl⟩
  go_wp2_with fail
  go_ret
  exact ⟨rfl, rfl⟩
set_option maxHeartbeats 400000 in
theorem add_bad4 (rd rs n b : Int) (w : World) (g0 : rd ≠ 0) (g1 : b ≠ 0) (g2 : b ≠ rs) (g3 : (0 ≤ rd ∧ rd < 32)) (g4 : (rs < 0 ∨ 32 ≤ rs)) :
    Calls Try.prog 8 #[.int .i64 rd, .int .i64 rs, .int .i32 n, .int .i64 b] w fun e w' => e = .returned (.slice none 0 0) ∧ w = w' := by
  have t0 : (rd == 0) = false := by simp; omega
  have t1 : (b == 0) = false := by simp; omega
  have t2 : (b == rs) = false := by simp; omega
  clear g0
  clear g1
  clear g2
  go_enter Try.func8, Try.ntmps8
  go_wp2_with fail
  refine (reg_yes rd _ g3).mono ?_
  rintro e w' ⟨rfl, rfl⟩
  go_wp2_with fail
  refine (reg_no rs _ g4).mono ?_
  rintro e w' ⟨rfl, rfl⟩
  go_wp2_with fail
  go_ret
  exact ⟨rfl, rfl⟩
set_option maxHeartbeats 400000 in
theorem add_bad5 (rd rs n b : Int) (w : World) (g0 : rd ≠ 0) (g1 : b ≠ 0) (g2 : b ≠ rs) (g3 : (0 ≤ rd ∧ rd < 32)) (g4 : (0 ≤ rs ∧ rs < 32)) (g5 : (b < 0 ∨ 32 ≤ b)) :
    Calls Try.prog 8 #[.int .i64 rd, .int .i64 rs, .int .i32 n, .int .i64 b] w fun e w' => e = .returned (.slice none 0 0) ∧ w = w' := by
  have t0 : (rd == 0) = false := by simp; omega
  have t1 : (b == 0) = false := by simp; omega
  have t2 : (b == rs) = false := by simp; omega
  clear g0
  clear g1
  clear g2
  go_enter Try.func8, Try.ntmps8
  go_wp2_with fail
  refine (reg_yes rd _ g3).mono ?_
  rintro e w' ⟨rfl, rfl⟩
  go_wp2_with fail
  refine (reg_yes rs _ g4).mono ?_
  rintro e w' ⟨rfl, rfl⟩
  go_wp2_with fail
  refine (reg_no b _ g5).mono ?_
  rintro e w' ⟨rfl, rfl⟩
  go_wp2_with fail
  go_ret
  exact ⟨rfl, rfl⟩
set_option maxHeartbeats 400000 in
theorem add_zero (rd rs n b : Int) (w : World) (g0 : rd ≠ 0) (g1 : b ≠ 0) (g2 : b ≠ rs) (g3 : (0 ≤ rd ∧ rd < 32)) (g4 : (0 ≤ rs ∧ rs < 32)) (g5 : (0 ≤ b ∧ b < 32)) (h0 : n = 0 ∧ rd = rs) :
    Calls Try.prog 8 #[.int .i64 rd, .int .i64 rs, .int .i32 n, .int .i64 b] w fun e w' => e = .returned (.slice none 0 0) ∧ w = w' := by
  obtain ⟨rfl, rfl⟩ := h0
  have t0 : (rd == 0) = false := by simp; omega
  have t1 : (b == 0) = false := by simp; omega
  have t2 : (b == rd) = false := by simp; omega
  clear g0 g1 g2
  go_enter Try.func8, Try.ntmps8
  go_wp2_with fail
  refine (reg_yes rd _ g3).mono ?_
  rintro e w' ⟨rfl, rfl⟩
  go_wp2_with fail
  refine (reg_yes rd _ g4).mono ?_
  rintro e w' ⟨rfl, rfl⟩
  go_wp2_with fail
  refine (reg_yes b _ g5).mono ?_
  rintro e w' ⟨rfl, rfl⟩
  go_wp2_with fail
  go_ret
  exact ⟨rfl, rfl⟩
set_option maxHeartbeats 400000 in
theorem add_few (rd rs n b : Int) (w : World) (g0 : rd ≠ 0) (g1 : b ≠ 0) (g2 : b ≠ rs) (g3 : (0 ≤ rd ∧ rd < 32)) (g4 : (0 ≤ rs ∧ rs < 32)) (g5 : (0 ≤ b ∧ b < 32)) (h0 : ¬ (n = 0 ∧ rd = rs)) (hn : -2048 ≤ n ∧ n ≤ 2047) :
    Calls Try.prog 8 #[.int .i64 rd, .int .i64 rs, .int .i32 n, .int .i64 b] w (SetPost w [⟨19, rd, rs, 0, n⟩]) := by
  have OW := Lib.hid (own_lit (w.alloc (.cells (Q5.arr ⟨19, rd, rs, 0, n⟩) 35)) w.heap.size (by simp) [⟨19, rd, rs, 0, n⟩] (Q5.arr ⟨19, rd, rs, 0, n⟩) rfl 1 rfl (by decide) (w.heap.size + 1) (by simp))
  by_cases hz : n = 0
  · subst hz
    have tr : (rd == rs) = false := by simp; omega
    have t0 : (rd == 0) = false := by simp; omega
    have t1 : (b == 0) = false := by simp; omega
    have t2 : (b == rs) = false := by simp; omega
    clear g0 g1 g2
    go_enter Try.func8, Try.ntmps8
    go_wp2_with fail
    refine (reg_yes rd _ g3).mono ?_
    rintro e w' ⟨rfl, rfl⟩
    go_wp2_with fail
    refine (reg_yes rs _ g4).mono ?_
    rintro e w' ⟨rfl, rfl⟩
    go_wp2_with fail
    refine (reg_yes b _ g5).mono ?_
    rintro e w' ⟨rfl, rfl⟩
    go_wp2_with fail
    refine (short_yes _ _ (by omega)).mono ?_
    rintro e w' ⟨rfl, rfl⟩
    go_wp2_with fail
    refine (addi_any _ _ _ _).mono ?_
    rintro e w' ⟨rfl, rfl⟩
    go_wp2_with fail
    go_ret
    exact ⟨_, rfl, OW.out, by go_grown⟩
  · have tz : (n == 0) = false := by simp; omega
    have t0 : (rd == 0) = false := by simp; omega
    have t1 : (b == 0) = false := by simp; omega
    have t2 : (b == rs) = false := by simp; omega
    clear g0 g1 g2
    go_enter Try.func8, Try.ntmps8
    go_wp2_with fail
    refine (reg_yes rd _ g3).mono ?_
    rintro e w' ⟨rfl, rfl⟩
    go_wp2_with fail
    refine (reg_yes rs _ g4).mono ?_
    rintro e w' ⟨rfl, rfl⟩
    go_wp2_with fail
    refine (reg_yes b _ g5).mono ?_
    rintro e w' ⟨rfl, rfl⟩
    go_wp2_with fail
    refine (short_yes _ _ (by omega)).mono ?_
    rintro e w' ⟨rfl, rfl⟩
    go_wp2_with fail
    refine (addi_any _ _ _ _).mono ?_
    rintro e w' ⟨rfl, rfl⟩
    go_wp2_with fail
    go_ret
    exact ⟨_, rfl, OW.out, by go_grown⟩
set_option maxRecDepth 100000 in
set_option maxHeartbeats 400000 in
theorem add_many (rd rs n b : Int) (w : World) (g0 : rd ≠ 0) (g1 : b ≠ 0) (g2 : b ≠ rs) (g3 : (0 ≤ rd ∧ rd < 32)) (g4 : (0 ≤ rs ∧ rs < 32)) (g5 : (0 ≤ b ∧ b < 32)) (hN : -2147483648 ≤ n ∧ n ≤ 2147483647) (hn : ¬ (-2048 ≤ n ∧ n ≤ 2047)) :
    Calls Try.prog 8 #[.int .i64 rd, .int .i64 rs, .int .i32 n, .int .i64 b] w (SetPost w (setS b n ++ [⟨1, rd, rs, b, 0⟩])) := by
  have tz : (n == 0) = false := by simp; omega
  have hs : n < -2048 ∨ 2047 < n := by omega
  have LN := Lib.hid (set_len b n)
  obtain ⟨i0, hi, hz0, hz1, hz2⟩ := info_parts info_ins
  have t0 : (rd == 0) = false := by simp; omega
  have t1 : (b == 0) = false := by simp; omega
  have t2 : (b == rs) = false := by simp; omega
  clear g0 g1 g2
  go_enter Try.func8, Try.ntmps8
  go_wp2_with fail
  refine (reg_yes rd _ g3).mono ?_
  rintro e w' ⟨rfl, rfl⟩
  go_wp2_with fail
  refine (reg_yes rs _ g4).mono ?_
  rintro e w' ⟨rfl, rfl⟩
  go_wp2_with fail
  refine (reg_yes b _ g5).mono ?_
  rintro e w' ⟨rfl, rfl⟩
  go_wp2_with fail
  refine (short_no _ _ hs).mono ?_
  rintro e w' ⟨rfl, rfl⟩
  go_wp2_with fail
  refine (set_any b n w hN).mono ?_
  rintro e w1 ⟨v, rfl, hown, hb⟩
  generalize setS b n = l at *
  have OWN := Lib.hid (hown.alloc (.cells (Q5.arr ⟨1, rd, rs, b, 0⟩) 35))
  have NW := Lib.hid (l5_lit w1 35 [⟨1, rd, rs, b, 0⟩] (Q5.arr ⟨1, rd, rs, b, 0⟩) rfl w1.heap.size rfl (by simp)).news
  have HB := Lib.hid hb
  have VO := Lib.hid hown.lt
  have E1 := Lib.hid (show l.length + 1 ≤ maxLen by have := LN.out; simp only [maxLen]; omega)
  have E2 := Lib.hid (show (l.length + 1) * 40 ≤ 140737488355328 by have := LN.out; omega)
  have E3 := Lib.hid (show w.heap.size ≤ (w1.alloc (.cells (Q5.arr ⟨1, rd, rs, b, 0⟩) 35)).heap.size by have := hb.size; simp; omega)
  clear hown hb
  go_wp2_with (at_builtin; refine wpList_append_own (w1.alloc (.cells (Q5.arr ⟨1, rd, rs, b, 0⟩) 35)) rfl (.tmp 51) (.tmp 56) 25 rfl w.heap.size 35 i0 (.agg #[.int .i64 0, .int .i64 0, .int .i64 0, .int .i64 0, .int .i32 0]) 5 40 Try.underlying25 hi hz0 hz1 hz2 rfl (by decide) v l.length (flat l) rfl OWN.out ⟨w1.heap.size, 0, none⟩ 1 1 _ rfl rfl NW.out (flat_one _) E1.out E2.out E3.out ?_; intro v1 w2 hown hg hn')
  go_ret
  refine ⟨_, rfl, ?_, below_grown (HB.out.alloc (by have := HB.out.size; omega) _) hg (fun k hk => (VO.out k hk).1)⟩
  unfold OwnIns
  rw [flat_app, List.length_append]
  exact hown

theorem slice_nil_post (w : World) {l : List Q5} (h : l = []) {e : Ending} {w' : World} (he : e = .returned (.slice none 0 0)) (hw : w = w') : SetPost w l e w' := by
  subst hw h; exact ⟨_, he, own_nil w, Below.refl _ _⟩
theorem add_any (rd rs n b : Int) (w : World) (hN : -2147483648 ≤ n ∧ n ≤ 2147483647) :
    Calls Try.prog 8 #[.int .i64 rd, .int .i64 rs, .int .i32 n, .int .i64 b] w (SetPost w (addS rd rs n b)) := by
  by_cases g0 : rd = 0
  · exact (add_bad0 rd rs n b w g0).mono fun e w' h => slice_nil_post w (add_no (by omega)) h.1 h.2
  by_cases g1 : b = 0
  · exact (add_bad1 rd rs n b w g0 g1).mono fun e w' h => slice_nil_post w (add_no (by omega)) h.1 h.2
  by_cases g2 : b = rs
  · exact (add_bad2 rd rs n b w g0 g1 g2).mono fun e w' h => slice_nil_post w (add_no (by omega)) h.1 h.2
  by_cases g3 : 0 ≤ rd ∧ rd < 32
  · by_cases g4 : 0 ≤ rs ∧ rs < 32
    · by_cases g5 : 0 ≤ b ∧ b < 32
      · by_cases h0 : n = 0 ∧ rd = rs
        · exact (add_zero rd rs n b w g0 g1 g2 g3 g4 g5 h0).mono fun e w' h => slice_nil_post w (add_no (by omega)) h.1 h.2
        · by_cases hn : -2048 ≤ n ∧ n ≤ 2047
          · rw [add_short (by omega) hn]; exact add_few rd rs n b w g0 g1 g2 g3 g4 g5 h0 hn
          · rw [add_long (by omega) hn]; exact add_many rd rs n b w g0 g1 g2 g3 g4 g5 hN hn
      · exact (add_bad5 rd rs n b w g0 g1 g2 g3 g4 (by omega)).mono fun e w' h => slice_nil_post w (add_no (by omega)) h.1 h.2
    · exact (add_bad4 rd rs n b w g0 g1 g2 g3 (by omega)).mono fun e w' h => slice_nil_post w (add_no (by omega)) h.1 h.2
  · exact (add_bad3 rd rs n b w g0 g1 g2 (by omega)).mono fun e w' h => slice_nil_post w (add_no (by omega)) h.1 h.2
end Go.Proofs.Ytmhkihfbcpmjlaa
