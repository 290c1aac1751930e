/- Contracts of packages pseudo and pintleref12: what each call answers. -/
import Derived.Test.YtipecnofjdhobaaDoorProg
import Derived.Test.YtipecnofjdhobaaDoorFive
import Derived.WalkSpells
import Derived.WalkSmall
import Derived.BigQuiet
import Derived.Laws.StructEq
import Derived.Deep.QuietTactic
namespace Go.Proofs.YtipecnofjdhobaaDoor
open Go Go.RowKit
set_option linter.unusedVariables false

theorem ret_bool {a b : Bool} (h : a = b) : Ending.returned (.bool a) = .returned (.bool b) := by rw [h]
theorem ret_i64 {a b : Int} (h : a = b) : Ending.returned (.int .i64 a) = .returned (.int .i64 b) := by rw [h]

theorem info_ins : (Tryd.prog.info? 36).map (fun i => (i.zero, i.size, i.bytes)) = some (some (.agg #[.int .i64 0, .int .i64 0, .int .i64 0, .int .i64 0, .int .i32 0]), 5, 40) := by kernel_rfl

/-- instructions that the call itself owns -/
def OwnIns (w : World) (base : Nat) (v : Value) (l : List Q5) : Prop := w.ownsRow base 36 5 v l.length (flat l)
def SetPost (w : World) (l : List Q5) (e : Ending) (w' : World) : Prop := ∃ v, e = .returned v ∧ OwnIns w' w.heap.size v l ∧ Below w.heap.size w w'
def lowS (n : Int) : Int := wrap32 (n * 1048576) / 1048576
def setS (rd n : Int) : List Q5 :=
  if 1 ≤ rd ∧ rd < 32 then
    if -2048 ≤ n ∧ n ≤ 2047 then [⟨19, rd, 0, 0, n⟩]
    else if (lowS n != 0) = true then [⟨42, rd, 0, 0, wrap32 (n - lowS n)⟩, ⟨19, rd, rd, 0, lowS n⟩]
    else [⟨42, rd, 0, 0, wrap32 (n - lowS n)⟩]
  else []
theorem set_no {rd n : Int} (h : rd < 1 ∨ 32 ≤ rd) : setS rd n = [] := by unfold setS; rw [if_neg (by omega)]
theorem set_short {rd n : Int} (h : 1 ≤ rd ∧ rd < 32) (hn : -2048 ≤ n ∧ n ≤ 2047) : setS rd n = [⟨19, rd, 0, 0, n⟩] := by unfold setS; rw [if_pos h, if_pos hn]
theorem set_two {rd n : Int} (h : 1 ≤ rd ∧ rd < 32) (hn : n < -2048 ∨ 2047 < n) (hl : (lowS n != 0) = true) : setS rd n = [⟨42, rd, 0, 0, wrap32 (n - lowS n)⟩, ⟨19, rd, rd, 0, lowS n⟩] := by
  unfold setS; rw [if_pos h, if_neg (by omega), if_pos hl]
theorem set_one {rd n : Int} (h : 1 ≤ rd ∧ rd < 32) (hn : n < -2048 ∨ 2047 < n) (hl : (lowS n != 0) = false) : setS rd n = [⟨42, rd, 0, 0, wrap32 (n - lowS n)⟩] := by
  unfold setS; rw [if_pos h, if_neg (by omega), if_neg (by rw [hl]; simp)]

theorem own_nil (w : World) : OwnIns w w.heap.size (.slice none 0 0) [] := World.ownsRow_nil _ _ _ _
theorem own_lit (w : World) (base : Nat) (hb : base ≤ w.heap.size) (l : List Q5) (xs : Array Value) (h : flat l = xs.toList) (n : Nat) (hn : l.length = n) (hm : n ≤ maxLen) (H : Nat) (hH : w.heap.size = H) :
    OwnIns (w.alloc (.cells xs 36)) base (.slice (some ⟨H, 0, none⟩) n n) l := by
  subst hn
  subst hH
  have := World.ownsRow_lit (base := base) (size := 5) (e := 36) w xs l.length hb hm (by rw [← Array.length_toList, ← h, flat_len])
  rw [← h] at this
  exact this
theorem below_grown {w w1 w' : World} {v : Value} (h : Below w.heap.size w w1) (hg : w1.grownBy w' v.ownBlock) (hv : ∀ k, v.ownBlock = some k → w.heap.size ≤ k) : Below w.heap.size w w' :=
  h.grown hg h.size hv

set_option maxHeartbeats 400000 in
theorem addi_any (rd rs n : Int) (w : World) :
    Calls Tryd.prog 43 #[.int .i64 rd, .int .i64 rs, .int .i32 n] w fun e w' => e = .returned (.agg #[.int .i64 19, .int .i64 rd, .int .i64 rs, .int .i64 0, .int .i32 n]) ∧ w' = w.alloc (.cells #[.int .i64 19, .int .i64 rd, .int .i64 rs, .int .i64 0, .int .i32 n] 36) := by
  go_enter Tryd.func43, Tryd.ntmps43
  go_wp2
  exact bodyPost_ret (v := .agg #[.int .i64 19, .int .i64 rd, .int .i64 rs, .int .i64 0, .int .i32 n]) (by simp [results, Tryd.results43, go_sem]) rfl ⟨rfl, rfl⟩
set_option maxHeartbeats 400000 in
theorem short_no (n : Int) (w : World) (h : n < -2048 ∨ 2047 < n) :
    Calls Tryd.prog 42 #[.int .i32 n] w fun e w' => e = .returned (.bool false) ∧ w = w' := by
  go_enter Tryd.func42, Tryd.ntmps42
  by_cases g : -2048 ≤ n
  · have h' : decide (-2048 ≤ n) = true := by simpa using g
    have h2 : decide (n ≤ 2047) = false := by simp; omega
    go_wp2
    go_ret
    exact ⟨rfl, rfl⟩
  · have h' : decide (-2048 ≤ n) = false := by simpa using g
    go_wp2
    go_ret
    exact ⟨rfl, rfl⟩

set_option maxRecDepth 100000 in
set_option maxHeartbeats 400000 in
theorem set_two_any (rd n : Int) (w : World) (hn : -2147483648 ≤ n ∧ n ≤ 2147483647) (hr : 1 ≤ rd ∧ rd < 32) (hs' : n < -2048 ∨ 2047 < n) (hl : (lowS n != 0) = true) :
    Calls Tryd.prog 32 #[.int .i64 rd, .int .i32 n] w (SetPost w (setS rd n)) := by
  have HS := Lib.hid (set_two hr hs' hl)
  have hl' : (wrap32 (n * 1048576) / 1048576 != 0) = true := hl
  obtain ⟨i0, hi, hz0, hz1, hz2⟩ := info_parts info_ins
  have OWN := Lib.hid (((own_lit w w.heap.size (Nat.le_refl _) [⟨42, rd, 0, 0, wrap32 (n - lowS n)⟩] (Q5.arr ⟨42, rd, 0, 0, wrap32 (n - lowS n)⟩) rfl 1 rfl (by decide) w.heap.size rfl).alloc (.cells (Q5.arr ⟨19, rd, rd, 0, lowS n⟩) 36)).alloc (.cells (Q5.arr ⟨19, rd, rd, 0, lowS n⟩) 36))
  have NW := Lib.hid (l5_lit ((w.alloc (.cells (Q5.arr ⟨42, rd, 0, 0, wrap32 (n - lowS n)⟩) 36)).alloc (.cells (Q5.arr ⟨19, rd, rd, 0, lowS n⟩) 36)) 36 [⟨19, rd, rd, 0, lowS n⟩] (Q5.arr ⟨19, rd, rd, 0, lowS n⟩) rfl (w.heap.size + 1 + 1) (by simp) (by simp)).news
  have BL := Lib.hid (show Below w.heap.size w (((w.alloc (.cells (Q5.arr ⟨42, rd, 0, 0, wrap32 (n - lowS n)⟩) 36)).alloc (.cells (Q5.arr ⟨19, rd, rd, 0, lowS n⟩) 36)).alloc (.cells (Q5.arr ⟨19, rd, rd, 0, lowS n⟩) 36)) by go_grown)
  clear hl
  go_enter Tryd.func32, Tryd.ntmps32
  go_wp2_with fail
  refine (short_no _ _ hs').mono ?_
  rintro e w' ⟨rfl, rfl⟩
  go_wp2_with fail
  refine (addi_any _ _ _ _).mono ?_
  rintro e w' ⟨rfl, rfl⟩
  go_wp2_with ((at_builtin; go_loud (refine wpList_append_own (((w.alloc (.cells (Q5.arr ⟨42, rd, 0, 0, wrap32 (n - lowS n)⟩) 36)).alloc (.cells (Q5.arr ⟨19, rd, rd, 0, lowS n⟩) 36)).alloc (.cells (Q5.arr ⟨19, rd, rd, 0, lowS n⟩) 36)) rfl (.tmp 30) (.tmp 35) 61 rfl w.heap.size 36 i0 (.agg #[.int .i64 0, .int .i64 0, .int .i64 0, .int .i64 0, .int .i32 0]) 5 40 Tryd.underlying61 hi hz0 hz1 hz2 rfl (by decide) (.slice (some ⟨w.heap.size, 0, none⟩) 1 1) 1 _ rfl OWN.out _ 1 1 _ rfl rfl NW.out (flat_one _) (by decide) (by decide) BL.out.size ?_); intro v1 w1 hown hg hn))
  all_goals go_ret
  all_goals exact ⟨_, rfl, by rw [HS.out]; exact hown, below_grown BL.out hg (fun k hk => by cases hk; exact Nat.le_refl _)⟩

set_option maxRecDepth 100000 in
set_option maxHeartbeats 400000 in
theorem set_any (rd n : Int) (w : World) (hn : -2147483648 ≤ n ∧ n ≤ 2147483647) :
    Calls Tryd.prog 32 #[.int .i64 rd, .int .i32 n] w (SetPost w (setS rd n)) := by
  by_cases hr : 1 ≤ rd ∧ rd < 32
  · by_cases hs : -2048 ≤ n ∧ n ≤ 2047
    · have HS := Lib.hid (set_short hr hs)
      have OW := Lib.hid (own_lit (w.alloc (.cells (Q5.arr ⟨19, rd, 0, 0, n⟩) 36)) w.heap.size (by simp) [⟨19, rd, 0, 0, n⟩] (Q5.arr ⟨19, rd, 0, 0, n⟩) rfl 1 rfl (by decide) (w.heap.size + 1) (by simp))
      go_enter Tryd.func32, Tryd.ntmps32
      go_wp2
      go_ret
      exact ⟨_, rfl, by rw [HS.out]; exact OW.out, by go_grown⟩
    · have hs' : n < -2048 ∨ 2047 < n := by omega
      by_cases hl : (lowS n != 0) = true
      · exact set_two_any rd n w hn hr hs' hl
      · have hl : (lowS n != 0) = false := by simpa using hl
        have HS := Lib.hid (set_one hr hs' hl)
        have OW := Lib.hid (own_lit w w.heap.size (Nat.le_refl _) [⟨42, rd, 0, 0, wrap32 (n - lowS n)⟩] (Q5.arr ⟨42, rd, 0, 0, wrap32 (n - lowS n)⟩) rfl 1 rfl (by decide) w.heap.size rfl)
        have hl' : (wrap32 (n * 1048576) / 1048576 != 0) = false := hl
        clear hl
        go_enter Tryd.func32, Tryd.ntmps32
        go_wp2
        all_goals go_ret
        all_goals exact ⟨_, rfl, by rw [HS.out]; exact OW.out, by go_grown⟩
  · have hr : rd < 1 ∨ 32 ≤ rd := by omega
    have HS := Lib.hid (set_no (n := n) hr)
    go_enter Tryd.func32, Tryd.ntmps32
    go_wp2
    all_goals go_ret
    all_goals exact ⟨_, rfl, by rw [HS.out]; exact own_nil _, by go_grown⟩
end Go.Proofs.YtipecnofjdhobaaDoor
