/- Contracts of pintleref15.Reads, Writes and of the law's own 'lives'. -/
import Derived.Test.YtolohbegdjnjnaaLirE
namespace Go.Proofs.Ytolohbegdjnjnaa
open Go Go.RowKit
set_option linter.unusedVariables false

theorem box4 {w : World} {cs : Array Value} {t : TypeId} {o1 o2 o3 : Obj} {j : Nat} {v : Value} (h : cs[j]? = some v) : ((((w.alloc (.cells cs t)).alloc o1).alloc o2).alloc o3).cell? ⟨w.heap.size, j, none⟩ = some v := by
  rw [World.cell?_alloc_past _ _ _ (by simp; omega), World.cell?_alloc_past _ _ _ (by simp; omega), World.cell?_alloc_past _ _ _ (by simp), World.cell?_alloc_new]
  exact h
theorem own_made (w : World) (base : Nat) (hb : base ≤ w.heap.size) (H : Nat) (hH : w.heap.size = H) : OwnI (w.alloc (.cells #[] 3)) base (.slice (some ⟨H, 0, none⟩) 0 0) [] := by
  subst hH
  exact World.ownsRow_lit w #[] 0 hb (by decide) rfl

theorem rcan_is (o d a b i : Int) (w : World) (hi : -2147483648 ≤ i ∧ i ≤ 2147483647) {v : Bool} (h : canS ⟨o, d, a, b, i⟩ = v) : Calls Try.prog 41 #[.agg #[.int .i64 o, .int .i64 d, .int .i64 a, .int .i64 b, .int .i32 i]] w fun e w' =>
    e = .returned (.bool v) ∧ w' = w.alloc (.cells #[.int .i64 o, .int .i64 d, .int .i64 a, .int .i64 b, .int .i32 i] 45) := by
  subst h
  exact rcan_any o d a b i w hi

set_option maxHeartbeats 400000 in
theorem rwrites_any (o d a b i : Int) (w : World) (hi : -2147483648 ≤ i ∧ i ≤ 2147483647) :
    Calls Try.prog 54 #[.agg #[.int .i64 o, .int .i64 d, .int .i64 a, .int .i64 b, .int .i32 i]] w fun e w' => e = .returned (.int .i64 (writesS ⟨o, d, a, b, i⟩)) ∧ Below w.heap.size w w' := by
  cases hd : hasD o
  · have E := Lib.hid (show writesS ⟨o, d, a, b, i⟩ = -1 by unfold writesS; simp [hd])
    have HD := Lib.hid hd
    clear hd
    go_enter Try.func54, Try.ntmps54
    go_wp2_with fail
    refine (lhas_any o _).mono ?_
    unfold HasPost
    rw [HD.out]
    rintro e w1 ⟨rfl, rfl⟩
    go_wp2_with fail
    go_ret
    exact ⟨ret_i64' E.out.symm, by go_grown⟩
  · cases hc : canS ⟨o, d, a, b, i⟩
    · have E := Lib.hid (show writesS ⟨o, d, a, b, i⟩ = -1 by unfold writesS; rw [hc]; rfl)
      have HD := Lib.hid hd
      have C := Lib.hid (rcan_is o d a b i · hi hc)
      clear hd hc
      go_enter Try.func54, Try.ntmps54
      go_wp2_with fail
      refine (lhas_any o _).mono ?_
      unfold HasPost
      rw [HD.out]
      rintro e w1 ⟨rfl, rfl⟩
      go_wp2_with fail
      refine (C.out _).mono ?_
      rintro e w1 ⟨rfl, rfl⟩
      go_wp2_with fail
      go_ret
      exact ⟨ret_i64' E.out.symm, by go_grown⟩
    · have E := Lib.hid (show writesS ⟨o, d, a, b, i⟩ = d by unfold writesS; simp [hc, hd])
      have HD := Lib.hid hd
      have C := Lib.hid (rcan_is o d a b i · hi hc)
      clear hd hc
      go_enter Try.func54, Try.ntmps54
      go_wp2_with fail
      refine (lhas_any o _).mono ?_
      unfold HasPost
      rw [HD.out]
      rintro e w1 ⟨rfl, rfl⟩
      go_wp2_with fail
      refine (C.out _).mono ?_
      rintro e w1 ⟨rfl, rfl⟩
      go_wp2_with fail
      go_ret
      exact ⟨ret_i64' E.out.symm, by go_grown⟩

set_option maxRecDepth 100000 in
set_option maxHeartbeats 1000000 in
theorem rreads_any (o d a b i : Int) (w : World) (hI : -2147483648 ≤ i ∧ i ≤ 2147483647) :
    Calls Try.prog 53 #[.agg #[.int .i64 o, .int .i64 d, .int .i64 a, .int .i64 b, .int .i32 i]] w (ReadsPost w (readsS ⟨o, d, a, b, i⟩)) := by
  obtain ⟨i0, hi, hz0, hz1, hz2⟩ := info_parts info_int
  have OM := Lib.hid (own_made (w.alloc (.cells #[.int .i64 o, .int .i64 d, .int .i64 a, .int .i64 b, .int .i32 i] 45)) w.heap.size (by simp) (w.heap.size + 1) (by simp))
  cases ha : hasA o
  · have hb' : hasB o = false := by cases h : hasB o; rfl; have := hasB_A h; rw [ha] at this; cases this
    have E := Lib.hid (show readsS ⟨o, d, a, b, i⟩ = [] by unfold readsS; simp [ha, hb'])
    have HA := Lib.hid ha
    have HB := Lib.hid hb'
    clear ha hb'
    go_enter Try.func53, Try.ntmps53
    go_wp2_with fail
    refine (lhas_any o _).mono ?_
    unfold HasPost
    rw [HA.out, HB.out]
    rintro e w1 ⟨rfl, rfl⟩
    go_wp2_with fail
    go_ret
    exact ⟨_, rfl, by rw [E.out]; exact OM.out, by go_grown⟩
  · cases hc : canS ⟨o, d, a, b, i⟩
    · have E := Lib.hid (reads_none hc)
      have HA := Lib.hid ha
      have C := Lib.hid (rcan_is o d a b i · hI hc)
      clear ha hc
      cases hb' : hasB o
      · have HB := Lib.hid hb'
        clear hb'
        go_enter Try.func53, Try.ntmps53
        go_wp2_with fail
        refine (lhas_any o _).mono ?_
        unfold HasPost
        rw [HA.out, HB.out]
        rintro e w1 ⟨rfl, rfl⟩
        go_wp2_with fail
        refine (C.out _).mono ?_
        rintro e w1 ⟨rfl, rfl⟩
        go_wp2_with fail
        go_ret
        exact ⟨_, rfl, by rw [E.out]; exact OM.out.alloc _, by go_grown⟩
      · have HB := Lib.hid hb'
        clear hb'
        go_enter Try.func53, Try.ntmps53
        go_wp2_with fail
        refine (lhas_any o _).mono ?_
        unfold HasPost
        rw [HA.out, HB.out]
        rintro e w1 ⟨rfl, rfl⟩
        go_wp2_with fail
        refine (C.out _).mono ?_
        rintro e w1 ⟨rfl, rfl⟩
        go_wp2_with fail
        refine (C.out _).mono ?_
        rintro e w1 ⟨rfl, rfl⟩
        go_wp2_with fail
        go_ret
        exact ⟨_, rfl, by rw [E.out]; exact (OM.out.alloc _).alloc _, by go_grown⟩
    · cases hb' : hasB o
      · have E := Lib.hid (reads_a hc ha hb')
        have HA := Lib.hid ha
        have C := Lib.hid (rcan_is o d a b i · hI hc)
        have HB := Lib.hid hb'
        clear ha hc hb'
        go_enter Try.func53, Try.ntmps53
        go_wp2_with fail
        refine (lhas_any o _).mono ?_
        unfold HasPost
        rw [HA.out, HB.out]
        rintro e w1 ⟨rfl, rfl⟩
        go_wp2_with fail
        refine (C.out _).mono ?_
        rintro e w1 ⟨rfl, rfl⟩
        go_wp2_with ((at_builtin; refine wpList_append_own _ rfl (.tmp 20) (.tmp 23) 49 rfl w.heap.size 3 i0 (.int .i64 0) 1 8 Try.underlying49 hi hz0 hz1 hz2 rfl (by decide) (.slice (some ⟨w.heap.size + 1, 0, none⟩) 0 0) 0 [] rfl ((OM.out.alloc _).alloc _) ⟨w.heap.size + 1 + 1 + 1, 0, none⟩ 1 1 [iv a] rfl rfl (news_one _ a _ (by simp)) (iv_one [a]) (by decide) (by decide) (by simp; omega) ?_; intro v1 w2 hown hg hn))
        go_ret
        exact ⟨_, rfl, by rw [E.out]; exact hown, below_grown' (by go_grown) hg (fun k hk => by simp [Value.ownBlock] at hk; omega)⟩
      · have E := Lib.hid (reads_ab hc ha hb')
        have HA := Lib.hid ha
        have C := Lib.hid (rcan_is o d a b i · hI hc)
        have HB := Lib.hid hb'
        clear ha hc hb'
        go_enter Try.func53, Try.ntmps53
        go_wp2_with fail
        refine (lhas_any o _).mono ?_
        unfold HasPost
        rw [HA.out, HB.out]
        rintro e w1 ⟨rfl, rfl⟩
        go_wp2_with fail
        refine (C.out _).mono ?_
        rintro e w1 ⟨rfl, rfl⟩
        go_wp2_with ((at_builtin; refine wpList_append_own _ rfl (.tmp 20) (.tmp 23) 49 rfl w.heap.size 3 i0 (.int .i64 0) 1 8 Try.underlying49 hi hz0 hz1 hz2 rfl (by decide) (.slice (some ⟨w.heap.size + 1, 0, none⟩) 0 0) 0 [] rfl ((OM.out.alloc _).alloc _) ⟨w.heap.size + 1 + 1 + 1, 0, none⟩ 1 1 [iv a] rfl rfl (news_one _ a _ (by simp)) (iv_one [a]) (by decide) (by decide) (by simp; omega) ?_; intro v1 w2 hown hg hn; have q0 := hg.cell (box4 (j := 0) (v := .int .i64 o) rfl) (by simp [Value.ownBlock]); have q1 := hg.cell (box4 (j := 1) (v := .int .i64 d) rfl) (by simp [Value.ownBlock]); have q2 := hg.cell (box4 (j := 2) (v := .int .i64 a) rfl) (by simp [Value.ownBlock]); have q3 := hg.cell (box4 (j := 3) (v := .int .i64 b) rfl) (by simp [Value.ownBlock]); have q4 := hg.cell (box4 (j := 4) (v := .int .i32 i) rfl) (by simp [Value.ownBlock]); have HB2 := Lib.hid (below_grown' (w := w) (by go_grown) hg (fun k hk => by simp [Value.ownBlock] at hk; omega)); have hz2' : w.heap.size < w2.heap.size := (by have := hg.size; simp at this; omega); have OWN := Lib.hid hown; clear hown hg hn))
        refine (C.out _).mono ?_
        rintro e w3 ⟨rfl, rfl⟩
        go_wp2_with ((at_builtin; refine wpList_append_own _ rfl (.tmp 30) (.tmp 33) 49 rfl w.heap.size 3 i0 (.int .i64 0) 1 8 Try.underlying49 hi hz0 hz1 hz2 rfl (by decide) v1 1 [iv a] rfl ((OWN.out.alloc _).alloc _) ⟨w2.heap.size + 1, 0, none⟩ 1 1 [iv b] rfl rfl (news_one _ b _ (by simp)) (iv_one [b]) (by decide) (by decide) (by simp; omega) ?_; intro v2 w3 hown hg hn))
        go_ret
        exact ⟨_, rfl, by rw [E.out]; exact hown, below_grown' ((HB2.out.alloc (by omega) _).alloc (by simp; omega) _) hg (fun k hk => (OWN.out.lt k hk).1)⟩

theorem below_draw {w w' : World} (h : ∃ n, w' = w.drewN n) : Below w.heap.size w w' := by
  obtain ⟨n, rfl⟩ := h
  exact below_drewN (Below.refl _ _) n

def lv : List Q5 := [⟨23, 1, 0, 0, 3⟩, ⟨13, 0, 0, 0, 5⟩, ⟨24, 0, 0, 0, 0⟩]
theorem lv_ends : endsS lv = some [2, -1, 0] := by rfl
theorem lv_check : checkS lv = 0 := by decide
end Go.Proofs.Ytolohbegdjnjnaa
