/- The document's Size. -/
import Derived.Test.YtmifojpmomdmeaaJP
import Derived.Test.YtmifojpmomdmeaaRsH
import Derived.Test.YtmifojpmomdmeaaNsA
namespace Go.Proofs.Ytmifojpmomdmeaa
open Go Go.RowKit
set_option linter.unusedVariables false

set_option maxHeartbeats 400000 in
theorem ref_size (x y z : Int) (w : World) :
    Calls Try.prog 25 #[.agg #[.int .i64 x, .int .i64 y, .int .i64 z]] w fun e w' => e = .returned (.int .i64 (sizeS x y z)) ∧ w' = (w.alloc (.cells #[.int .i64 x, .int .i64 y, .int .i64 z] 22)).alloc (.cells #[.int .i64 x, .int .i64 y, .int .i64 z] 22) := by
  by_cases hg : goodB x y z = true
  · obtain ⟨x0, x1, y0, y1, z0, z1, _⟩ := goodB_out hg
    obtain ⟨m0, m1, m2, m3⟩ := mul3 ⟨x0, x1⟩ ⟨y0, y1⟩ ⟨z0, z1⟩
    have hs : sizeS x y z = x * y * z := by unfold sizeS; rw [if_pos hg]
    rw [hs]
    clear hs
    go_enter Try.func25, Try.ntmps25
    go_wp2_with (go_at_call 40; refine (ref_good x y z _).mono ?_; rintro e w' ⟨rfl, rfl⟩)
    go_ret
    exact ⟨rfl, rfl⟩
  · have hg : goodB x y z = false := by simpa using hg
    have hs : sizeS x y z = 0 := by unfold sizeS; rw [hg]; rfl
    rw [hs]
    clear hs
    go_enter Try.func25, Try.ntmps25
    go_wp2_with (go_at_call 40; refine (ref_good x y z _).mono ?_; rintro e w' ⟨rfl, rfl⟩)
    go_ret
    exact ⟨rfl, rfl⟩

end Go.Proofs.Ytmifojpmomdmeaa

namespace Go.Proofs.Ytmifojpmomdmeaa
open Go Go.RowKit
set_option linter.unusedVariables false
set_option linter.unusedSimpArgs false
set_option maxRecDepth 100000

theorem rsize_sh (s : Sh) (w : World) : Calls Try.prog 25 #[.agg #[.int .i64 s.x, .int .i64 s.y, .int .i64 s.z]] w fun e w' => e = .returned (.int .i64 (sizeG s)) ∧ Below w.heap.size w w' :=
  (ref_size s.x s.y s.z w).mono fun e w' ⟨h, g⟩ => ⟨h, by subst g; go_grown⟩
set_option maxHeartbeats 2000000 in
theorem rfits_sh (s : Sh) (w : World) : Calls Try.prog 22 #[.agg #[.int .i64 s.x, .int .i64 s.y, .int .i64 s.z]] w fun e w' => e = .returned (.int .i64 s.fit) ∧ Below w.heap.size w w' := by
  have GD := Lib.hid (fun W => ref_good_b s.x s.y s.z W)
  have HG : goodB s.x s.y s.z = s.good := rfl
  rw [HG] at GD
  by_cases h : s.x < 1 ∨ s.y < 1 ∨ s.z < 1
  · have hf : s.fit = 10 := by unfold Sh.fit; rw [if_pos h]
    rw [hf]
    clear hf HG
    by_cases hx : s.x < 1
    · clear h
      have hxb : decide (s.x < 1) = true := by simpa using hx
      go_enter Try.func22, Try.ntmps22
      go_wp2_with fail
      go_ret
      exact ⟨rfl, by go_grown⟩
    · have hxb : decide (s.x < 1) = false := by simpa using hx
      by_cases hy : s.y < 1
      · clear h
        have hyb : decide (s.y < 1) = true := by simpa using hy
        go_enter Try.func22, Try.ntmps22
        go_wp2_with fail
        go_ret
        exact ⟨rfl, by go_grown⟩
      · have hyb : decide (s.y < 1) = false := by simpa using hy
        have hzb : decide (s.z < 1) = true := by (have : s.z < 1 := by omega); simpa using this
        clear h
        go_enter Try.func22, Try.ntmps22
        go_wp2_with fail
        go_ret
        exact ⟨rfl, by go_grown⟩
  · have hxb : decide (s.x < 1) = false := by (have : ¬ s.x < 1 := by omega); simpa using this
    have hyb : decide (s.y < 1) = false := by (have : ¬ s.y < 1 := by omega); simpa using this
    have hzb : decide (s.z < 1) = false := by (have : ¬ s.z < 1 := by omega); simpa using this
    have hf : s.fit = if s.good then 0 else 12 := by unfold Sh.fit; rw [if_neg h]
    rw [hf]
    clear hf HG h
    generalize s.good = g at *
    cases g
    · go_enter Try.func22, Try.ntmps22
      go_wp2_with (go_at_call 40; (with_reducible refine (GD.out _).mono ?_); rintro e w9 ⟨rfl, hb9⟩)
      go_ret
      exact ⟨rfl, below_call (by go_grown) hb9⟩
    · go_enter Try.func22, Try.ntmps22
      go_wp2_with (go_at_call 40; (with_reducible refine (GD.out _).mono ?_); rintro e w9 ⟨rfl, hb9⟩)
      go_ret
      exact ⟨rfl, below_call (by go_grown) hb9⟩
set_option maxHeartbeats 2000000 in
theorem rsmall (x : Int) (w : World) : Calls Try.prog 44 #[.int .i64 x] w fun e w' => e = .returned (.bool (smallB x)) ∧ w' = w := by
  by_cases h1 : -128 ≤ x
  · by_cases h2 : x ≤ 127
    · go_enter Try.func44, Try.ntmps44
      go_wp2_with fail
      go_ret
      exact ⟨ret_bool (by simp [smallB]; omega), rfl⟩
    · go_enter Try.func44, Try.ntmps44
      go_wp2_with fail
      go_ret
      exact ⟨ret_bool (by simp [smallB]; omega), rfl⟩
  · go_enter Try.func44, Try.ntmps44
    go_wp2_with fail
    go_ret
    exact ⟨ret_bool (by simp [smallB]; omega), rfl⟩
theorem insAt_nil (w0 w : World) (a : Option Addr) : InsAt w0 w a [] := fun i z h => by simp at h
theorem insAt_row {w0 w : World} {g : Nat} {l : List Int} (h : RowAt w g (l.map fun z => .int .i64 z)) (hg : w0.heap.size ≤ g) : InsAt w0 w (some ⟨g, 0, none⟩) l := fun i z hz =>
  ⟨g, rfl, hg, h.lt, h.cell i _ (by simp [hz])⟩
set_option maxHeartbeats 2000000 in
theorem rins (n : Nd) (w : World) : Calls Try.prog 15 #[.agg n.cells.toArray] w fun e w' => ∃ at0 c, e = .returned (.slice at0 (insN n).length c) ∧ Below w.heap.size w w' ∧ InsAt w w' at0 (insN n) := by
  have e0 : n.cells[0]? = some (.int .i64 n.op) := rfl
  have e1 : n.cells[1]? = some (.int .i64 n.a) := rfl
  have e2 : n.cells[2]? = some (.int .i64 n.b) := rfl
  have HB := Lib.hid (fun W => rhas_B' n.op W)
  have RN := Lib.hid (RowAt.new w n.cells 47)
  have BW := Lib.hid (Below.alloc (Below.refl w.heap.size w) (Nat.le_refl _) (.cells n.cells.toArray 47))
  by_cases h1 : n.op = 1
  · have hi : insN n = [] := by unfold insN; rw [if_pos h1]
    rw [hi]
    have h1b : (n.op == 1) = true := by simpa using h1
    clear hi h1
    go_enter Try.func15, Try.ntmps15
    go_wp2_with fail
    go_ret
    exact ⟨_, _, rfl, by go_grown, insAt_nil _ _ _⟩
  · have h1b : (n.op == 1) = false := by simpa using h1
    by_cases h2 : hB n.op = true
    · have hi : insN n = [n.a, n.b] := by unfold insN; rw [if_neg h1, if_pos h2]
      rw [hi]
      rw [h2] at HB
      clear hi h1 h2
      go_enter Try.func15, Try.ntmps15
      go_wp2_with (go_at_call 31; (with_reducible refine (HB.out _).mono ?_); rintro e w9 ⟨rfl, hb9⟩; have r9 := RN.out.over hb9; have c1 := r9.cell 1 _ rfl; have c2 := r9.cell 2 _ rfl; have rl := r9.lt; have HB9 := Lib.hid (below_call BW.out hb9); clear r9 hb9)
      go_ret
      have HQ := Below.alloc (Below.refl w9.heap.size w9) (Nat.le_refl _) (.cells #[.int .i64 n.a, .int .i64 n.b] 3)
      exact ⟨_, _, rfl, below_call HB9.out HQ, insAt_row (l := [n.a, n.b]) (RowAt.new w9 [.int .i64 n.a, .int .i64 n.b] 3) HB9.out.size⟩
    · have h2b : hB n.op = false := by simpa using h2
      have hi : insN n = [n.a] := by unfold insN; rw [if_neg h1, if_neg h2]
      rw [hi]
      rw [h2b] at HB
      clear hi h1 h2 h2b
      go_enter Try.func15, Try.ntmps15
      go_wp2_with (go_at_call 31; (with_reducible refine (HB.out _).mono ?_); rintro e w9 ⟨rfl, hb9⟩; have r9 := RN.out.over hb9; have c1 := r9.cell 1 _ rfl; have rl := r9.lt; have HB9 := Lib.hid (below_call BW.out hb9); clear r9 hb9)
      go_ret
      have HQ := Below.alloc (Below.refl w9.heap.size w9) (Nat.le_refl _) (.cells #[.int .i64 n.a] 3)
      exact ⟨_, _, rfl, below_call HB9.out HQ, insAt_row (l := [n.a]) (RowAt.new w9 [.int .i64 n.a] 3) HB9.out.size⟩
end Go.Proofs.Ytmifojpmomdmeaa
