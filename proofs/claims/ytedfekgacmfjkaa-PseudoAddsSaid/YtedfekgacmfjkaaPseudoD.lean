/- pintleref12.Add: what it answers. -/
import Derived.Test.YtedfekgacmfjkaaPseudoC
namespace Go.Proofs.Ytedfekgacmfjkaa
open Go Go.RowKit
set_option linter.unusedVariables false

set_option maxHeartbeats 400000 in
theorem radd_bad0 (rd rs n b : Int) (w : World) (g0 : rd < 1) :
    Calls Try.prog 29 #[.int .i64 rd, .int .i64 rs, .int .i32 n, .int .i64 b] w (SetPost w []) := by
  have OW := Lib.hid (own_lit w w.heap.size (Nat.le_refl _) [] #[] rfl 0 rfl (by decide) w.heap.size rfl)
  go_enter Try.func29, Try.ntmps29
  go_wp2_with fail
  go_ret
  exact ⟨_, rfl, OW.out, by go_grown⟩
set_option maxHeartbeats 400000 in
theorem radd_bad1 (rd rs n b : Int) (w : World) (g0 : 1 ≤ rd) (g1 : 31 < rd) :
    Calls Try.prog 29 #[.int .i64 rd, .int .i64 rs, .int .i32 n, .int .i64 b] w (SetPost w []) := by
  have OW := Lib.hid (own_lit w w.heap.size (Nat.le_refl _) [] #[] rfl 0 rfl (by decide) w.heap.size rfl)
  go_enter Try.func29, Try.ntmps29
  go_wp2_with fail
  go_ret
  exact ⟨_, rfl, OW.out, by go_grown⟩
set_option maxHeartbeats 400000 in
theorem radd_bad2 (rd rs n b : Int) (w : World) (g0 : 1 ≤ rd) (g1 : rd ≤ 31) (g2 : rs < 0) :
    Calls Try.prog 29 #[.int .i64 rd, .int .i64 rs, .int .i32 n, .int .i64 b] w (SetPost w []) := by
  have OW := Lib.hid (own_lit w w.heap.size (Nat.le_refl _) [] #[] rfl 0 rfl (by decide) w.heap.size rfl)
  go_enter Try.func29, Try.ntmps29
  go_wp2_with fail
  go_ret
  exact ⟨_, rfl, OW.out, by go_grown⟩
set_option maxHeartbeats 400000 in
theorem radd_bad3 (rd rs n b : Int) (w : World) (g0 : 1 ≤ rd) (g1 : rd ≤ 31) (g2 : 0 ≤ rs) (g3 : 31 < rs) :
    Calls Try.prog 29 #[.int .i64 rd, .int .i64 rs, .int .i32 n, .int .i64 b] w (SetPost w []) := by
  have OW := Lib.hid (own_lit w w.heap.size (Nat.le_refl _) [] #[] rfl 0 rfl (by decide) w.heap.size rfl)
  go_enter Try.func29, Try.ntmps29
  go_wp2_with fail
  go_ret
  exact ⟨_, rfl, OW.out, by go_grown⟩
set_option maxHeartbeats 400000 in
theorem radd_bad4 (rd rs n b : Int) (w : World) (g0 : 1 ≤ rd) (g1 : rd ≤ 31) (g2 : 0 ≤ rs) (g3 : rs ≤ 31) (g4 : b < 1) :
    Calls Try.prog 29 #[.int .i64 rd, .int .i64 rs, .int .i32 n, .int .i64 b] w (SetPost w []) := by
  have OW := Lib.hid (own_lit w w.heap.size (Nat.le_refl _) [] #[] rfl 0 rfl (by decide) w.heap.size rfl)
  go_enter Try.func29, Try.ntmps29
  go_wp2_with fail
  go_ret
  exact ⟨_, rfl, OW.out, by go_grown⟩
set_option maxHeartbeats 400000 in
theorem radd_bad5 (rd rs n b : Int) (w : World) (g0 : 1 ≤ rd) (g1 : rd ≤ 31) (g2 : 0 ≤ rs) (g3 : rs ≤ 31) (g4 : 1 ≤ b) (g5 : 31 < b) :
    Calls Try.prog 29 #[.int .i64 rd, .int .i64 rs, .int .i32 n, .int .i64 b] w (SetPost w []) := by
  have OW := Lib.hid (own_lit w w.heap.size (Nat.le_refl _) [] #[] rfl 0 rfl (by decide) w.heap.size rfl)
  go_enter Try.func29, Try.ntmps29
  go_wp2_with fail
  go_ret
  exact ⟨_, rfl, OW.out, by go_grown⟩
set_option maxHeartbeats 400000 in
theorem radd_bad6 (rd rs n b : Int) (w : World) (g0 : 1 ≤ rd) (g1 : rd ≤ 31) (g2 : 0 ≤ rs) (g3 : rs ≤ 31) (g4 : 1 ≤ b) (g5 : b ≤ 31) (g6 : b = rs) :
    Calls Try.prog 29 #[.int .i64 rd, .int .i64 rs, .int .i32 n, .int .i64 b] w (SetPost w []) := by
  have OW := Lib.hid (own_lit w w.heap.size (Nat.le_refl _) [] #[] rfl 0 rfl (by decide) w.heap.size rfl)
  have t6 : (b == rs) = true := by simp; omega
  clear g6
  go_enter Try.func29, Try.ntmps29
  go_wp2_with fail
  go_ret
  exact ⟨_, rfl, OW.out, by go_grown⟩
set_option maxHeartbeats 400000 in
theorem radd_bad7 (rd rs n b : Int) (w : World) (g0 : 1 ≤ rd) (g1 : rd ≤ 31) (g2 : 0 ≤ rs) (g3 : rs ≤ 31) (g4 : 1 ≤ b) (g5 : b ≤ 31) (g6 : b ≠ rs) (g7 : (n = 0 ∧ rd = rs)) :
    Calls Try.prog 29 #[.int .i64 rd, .int .i64 rs, .int .i32 n, .int .i64 b] w (SetPost w []) := by
  have OW := Lib.hid (own_lit w w.heap.size (Nat.le_refl _) [] #[] rfl 0 rfl (by decide) w.heap.size rfl)
  obtain ⟨rfl, rfl⟩ := g7
  have t6 : (b == rd) = false := by simp; omega
  clear g6
  go_enter Try.func29, Try.ntmps29
  go_wp2_with fail
  go_ret
  exact ⟨_, rfl, OW.out, by go_grown⟩
set_option maxHeartbeats 400000 in
theorem radd_few (rd rs n b : Int) (w : World) (g0 : 1 ≤ rd) (g1 : rd ≤ 31) (g2 : 0 ≤ rs) (g3 : rs ≤ 31) (g4 : 1 ≤ b) (g5 : b ≤ 31) (g6 : b ≠ rs) (g7 : ¬ (n = 0 ∧ rd = rs)) (hn : -2048 ≤ n ∧ n ≤ 2047) :
    Calls Try.prog 29 #[.int .i64 rd, .int .i64 rs, .int .i32 n, .int .i64 b] w (SetPost w [⟨19, rd, rs, 0, n⟩]) := by
  have OW := Lib.hid (own_lit w w.heap.size (Nat.le_refl _) [⟨19, rd, rs, 0, n⟩] (Q5.arr ⟨19, rd, rs, 0, n⟩) rfl 1 rfl (by decide) w.heap.size rfl)
  have t6 : (b == rs) = false := by simp; omega
  clear g6
  by_cases hz : n = 0
  · subst hz
    have tr : (rd == rs) = false := by simp; omega
    clear g7
    go_enter Try.func29, Try.ntmps29
    go_wp2_with fail
    refine (rshort_yes _ _ (by omega)).mono ?_
    rintro e w' ⟨rfl, rfl⟩
    go_wp2_with fail
    go_ret
    exact ⟨_, rfl, OW.out, by go_grown⟩
  · have tz : (n == 0) = false := by simp; omega
    clear g7 hz
    go_enter Try.func29, Try.ntmps29
    go_wp2_with fail
    refine (rshort_yes _ _ hn).mono ?_
    rintro e w' ⟨rfl, rfl⟩
    go_wp2_with fail
    go_ret
    exact ⟨_, rfl, OW.out, by go_grown⟩
set_option maxRecDepth 100000 in
set_option maxHeartbeats 400000 in
theorem radd_many (rd rs n b : Int) (w : World) (g0 : 1 ≤ rd) (g1 : rd ≤ 31) (g2 : 0 ≤ rs) (g3 : rs ≤ 31) (g4 : 1 ≤ b) (g5 : b ≤ 31) (g6 : b ≠ rs) (g7 : ¬ (n = 0 ∧ rd = rs)) (hN : -2147483648 ≤ n ∧ n ≤ 2147483647) (hn : ¬ (-2048 ≤ n ∧ n ≤ 2047)) :
    Calls Try.prog 29 #[.int .i64 rd, .int .i64 rs, .int .i32 n, .int .i64 b] w (SetPost w (setS b n ++ [⟨1, rd, rs, b, 0⟩])) := by
  have tz : (n == 0) = false := by simp; omega
  have t6 : (b == rs) = false := by simp; omega
  have hs : n < -2048 ∨ 2047 < n := by omega
  have LN := Lib.hid (set_len b n)
  obtain ⟨i0, hi, hz0, hz1, hz2⟩ := info_parts info_ins
  clear g6 g7
  go_enter Try.func29, Try.ntmps29
  go_wp2_with fail
  refine (rshort_no _ _ hs).mono ?_
  rintro e w' ⟨rfl, rfl⟩
  go_wp2_with fail
  refine (rset_any b n w hN).mono ?_
  rintro e w1 ⟨v, rfl, hown, hb⟩
  generalize setS b n = l at *
  have OWN := Lib.hid (hown.alloc (.cells (Q5.arr ⟨1, rd, rs, b, 0⟩) 43))
  have NW := Lib.hid (l5_lit w1 43 [⟨1, rd, rs, b, 0⟩] (Q5.arr ⟨1, rd, rs, b, 0⟩) rfl w1.heap.size rfl (by simp)).news
  have HB := Lib.hid hb
  have VO := Lib.hid hown.lt
  have E1 := Lib.hid (show l.length + 1 ≤ maxLen by have := LN.out; simp only [maxLen]; omega)
  have E2 := Lib.hid (show (l.length + 1) * 40 ≤ 140737488355328 by have := LN.out; omega)
  have E3 := Lib.hid (show w.heap.size ≤ (w1.alloc (.cells (Q5.arr ⟨1, rd, rs, b, 0⟩) 43)).heap.size by have := hb.size; simp; omega)
  clear hown hb
  go_wp2_with (at_builtin; refine wpList_append_own (w1.alloc (.cells (Q5.arr ⟨1, rd, rs, b, 0⟩) 43)) rfl (.tmp 56) (.tmp 61) 35 rfl w.heap.size 43 i0 (.agg #[.int .i64 0, .int .i64 0, .int .i64 0, .int .i64 0, .int .i32 0]) 5 40 Try.underlying35 hi hz0 hz1 hz2 rfl (by decide) v l.length (flat l) rfl OWN.out ⟨w1.heap.size, 0, none⟩ 1 1 _ rfl rfl NW.out (flat_one _) E1.out E2.out E3.out ?_; intro v1 w2 hown hg hn')
  go_ret
  refine ⟨_, rfl, ?_, below_grown (HB.out.alloc (by have := HB.out.size; omega) _) hg (fun k hk => (VO.out k hk).1)⟩
  unfold OwnIns
  rw [flat_app, List.length_append]
  exact hown

theorem radd_any (rd rs n b : Int) (w : World) (hN : -2147483648 ≤ n ∧ n ≤ 2147483647) :
    Calls Try.prog 29 #[.int .i64 rd, .int .i64 rs, .int .i32 n, .int .i64 b] w (SetPost w (addS rd rs n b)) := by
  by_cases g0 : rd < 1
  · rw [add_no (by omega)]; exact radd_bad0 rd rs n b w g0
  by_cases g1 : 31 < rd
  · rw [add_no (by omega)]; exact radd_bad1 rd rs n b w (by omega) g1
  by_cases g2 : rs < 0
  · rw [add_no (by omega)]; exact radd_bad2 rd rs n b w (by omega) (by omega) g2
  by_cases g3 : 31 < rs
  · rw [add_no (by omega)]; exact radd_bad3 rd rs n b w (by omega) (by omega) (by omega) g3
  by_cases g4 : b < 1
  · rw [add_no (by omega)]; exact radd_bad4 rd rs n b w (by omega) (by omega) (by omega) (by omega) g4
  by_cases g5 : 31 < b
  · rw [add_no (by omega)]; exact radd_bad5 rd rs n b w (by omega) (by omega) (by omega) (by omega) (by omega) g5
  by_cases g6 : b = rs
  · rw [add_no (by omega)]; exact radd_bad6 rd rs n b w (by omega) (by omega) (by omega) (by omega) (by omega) (by omega) g6
  by_cases g7 : (n = 0 ∧ rd = rs)
  · rw [add_no (by omega)]; exact radd_bad7 rd rs n b w (by omega) (by omega) (by omega) (by omega) (by omega) (by omega) (by omega) g7
  by_cases hn : -2048 ≤ n ∧ n ≤ 2047
  · rw [add_short (by omega) hn]; exact radd_few rd rs n b w (by omega) (by omega) (by omega) (by omega) (by omega) (by omega) (by omega) (by omega) hn
  · rw [add_long (by omega) hn]; exact radd_many rd rs n b w (by omega) (by omega) (by omega) (by omega) (by omega) (by omega) (by omega) (by omega) hN hn
end Go.Proofs.Ytedfekgacmfjkaa
