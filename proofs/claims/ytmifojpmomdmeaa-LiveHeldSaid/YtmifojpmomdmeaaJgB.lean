/- Package infer: the judge's methods chans, shape, alike. -/
import Derived.Test.YtmifojpmomdmeaaJP
import Derived.Test.YtmifojpmomdmeaaTW
import Derived.BigRegion
namespace Go.Proofs.Ytmifojpmomdmeaa
open Go Go.RowKit
set_option linter.unusedVariables false

set_option maxHeartbeats 1000000 in
theorem jchans (J : Nat) (j : Jg) (w : World) (hJ : JAt w J j) (hj : JOk j) :
    Calls Try.prog 56 #[.pointer (some ⟨J, 0, none⟩)] w fun e w' => e = .returned (.int .i64 (if hC j.n.op && !decide (1 ≤ j.n.chans ∧ j.n.chans ≤ 64) then 10 else 0)) ∧ w' = w := by
  have c_26 := hJ.cell 26 _ rfl
  have c_22 := hJ.cell 22 _ rfl
  cases h : hC j.n.op
  · have hb : bits .and .i64 j.h 4096 = 0 := by rw [hj.has]; exact (bit_13 hj.op).2 h
    have E : (if false && !decide (1 ≤ j.n.chans ∧ j.n.chans ≤ 64) then (10 : Int) else 0) = 0 := rfl
    rw [E]
    clear hJ hj h E
    go_enter Try.func56, Try.ntmps56
    go_wp2_with fail
    go_ret
    exact ⟨rfl, rfl⟩
  · have hb : ¬ bits .and .i64 j.h 4096 = 0 := by rw [hj.has]; intro e; rw [(bit_13 hj.op).1 e] at h; cases h
    have WI := fun W => jwithin j.n.chans 1 64 W
    cases hd : decide (1 ≤ j.n.chans ∧ j.n.chans ≤ 64)
    · rw [hd] at WI
      have E : (if true && !false then (10 : Int) else 0) = 10 := rfl
      rw [E]
      have WI := Lib.hid WI
      clear hJ hj h E hd
      go_enter Try.func56, Try.ntmps56
      go_wp2_with (go_at_call 82; (with_reducible refine (WI.out _).mono ?_); rintro e w' ⟨rfl, rfl⟩)
      go_ret
      exact ⟨rfl, rfl⟩
    · rw [hd] at WI
      have E : (if true && !true then (10 : Int) else 0) = 0 := rfl
      rw [E]
      have WI := Lib.hid WI
      clear hJ hj h E hd
      go_enter Try.func56, Try.ntmps56
      go_wp2_with (go_at_call 82; (with_reducible refine (WI.out _).mono ?_); rintro e w' ⟨rfl, rfl⟩)
      go_ret
      exact ⟨rfl, rfl⟩

def jshE (j : Jg) : Int := if hS j.n.op then (if j.n.sh.fit ≠ 0 then j.n.sh.fit else if j.n.op = 11 ∧ sizeG j.n.sh ≠ sizeG j.a then 10 else 0) else 0
set_option maxHeartbeats 1000000 in
theorem jshape_no (J : Nat) (j : Jg) (w : World) (hJ : JAt w J j) (hj : JOk j) (h : hS j.n.op = false) :
    Calls Try.prog 57 #[.pointer (some ⟨J, 0, none⟩)] w fun e w' => e = .returned (.int .i64 0) ∧ w' = w := by
  have hb : bits .and .i64 j.h 8192 = 0 := by rw [hj.has]; exact (bit_14 hj.op).2 h
  have c_26 := hJ.cell 26 _ rfl
  clear hJ hj h
  go_enter Try.func57, Try.ntmps57
  go_wp2_with fail
  go_ret
  exact ⟨rfl, rfl⟩
set_option maxHeartbeats 1000000 in
theorem jshape_fit (J : Nat) (j : Jg) (w : World) (hJ : JAt w J j) (hj : JOk j) (h : hS j.n.op = true) (hf : j.n.sh.fit ≠ 0) :
    Calls Try.prog 57 #[.pointer (some ⟨J, 0, none⟩)] w fun e w' => e = .returned (.int .i64 j.n.sh.fit) ∧ Below w.heap.size w w' := by
  have hb : ¬ bits .and .i64 j.h 8192 = 0 := by rw [hj.has]; intro e; rw [(bit_14 hj.op).1 e] at h; cases h
  have c_26 := hJ.cell 26 _ rfl
  have c_23 := hJ.cell 23 _ rfl
  have c_24 := hJ.cell 24 _ rfl
  have c_25 := hJ.cell 25 _ rfl
  have FS := fun W => fits_n j.n W
  obtain ⟨f, hff⟩ : ∃ f, f = j.n.sh.fit := ⟨_, rfl⟩
  rw [← hff]
  rw [← hff] at FS hf
  have FS := Lib.hid FS
  clear hJ hj h hff
  go_enter Try.func57, Try.ntmps57
  go_wp2_with (go_at_call 36; (with_reducible refine (FS.out _).mono ?_); rintro e w2 ⟨rfl, hb2⟩)
  go_ret
  exact ⟨rfl, hb2⟩
set_option maxHeartbeats 2000000 in
theorem jshape_ok (J : Nat) (j : Jg) (w : World) (hJ : JAt w J j) (hj : JOk j) (h : hS j.n.op = true) (hf : j.n.sh.fit = 0) (h11 : (j.n.op == 11) = false) :
    Calls Try.prog 57 #[.pointer (some ⟨J, 0, none⟩)] w fun e w' => e = .returned (.int .i64 0) ∧ Below w.heap.size w w' := by
  have hb : ¬ bits .and .i64 j.h 8192 = 0 := by rw [hj.has]; intro e; rw [(bit_14 hj.op).1 e] at h; cases h
  have c_26 := hJ.cell 26 _ rfl
  have c_23 := hJ.cell 23 _ rfl
  have c_24 := hJ.cell 24 _ rfl
  have c_25 := hJ.cell 25 _ rfl
  have c_0 := hJ.cell 0 _ rfl
  have hlt := hJ.lt
  have FS := fun W => fits_n j.n W
  rw [hf] at FS
  have FS := Lib.hid FS
  clear hJ hj h hf
  go_enter Try.func57, Try.ntmps57
  go_wp2_with (go_at_call 36; (with_reducible refine (FS.out _).mono ?_); rintro e w2 ⟨rfl, hb2⟩; have d_0 := (hb2.cell (p := ⟨J, 0, none⟩) hlt).trans c_0)
  have hB2 : Below w.heap.size w w2 := hb2
  have HB2 := Lib.hid hb2
  clear hb2 hB2
  go_region
  go_wp2_with fail
  go_ret
  exact ⟨rfl, HB2.out.drew⟩
set_option maxHeartbeats 2000000 in
theorem jshape_re (J : Nat) (j : Jg) (w : World) (hJ : JAt w J j) (hj : JOk j) (h : hS j.n.op = true) (hf : j.n.sh.fit = 0) (h11 : (j.n.op == 11) = true) :
    Calls Try.prog 57 #[.pointer (some ⟨J, 0, none⟩)] w fun e w' => e = .returned (.int .i64 (if sizeG j.n.sh ≠ sizeG j.a then 10 else 0)) ∧ Below w.heap.size w w' := by
  have hb : ¬ bits .and .i64 j.h 8192 = 0 := by rw [hj.has]; intro e; rw [(bit_14 hj.op).1 e] at h; cases h
  have c_26 := hJ.cell 26 _ rfl
  have c_23 := hJ.cell 23 _ rfl
  have c_24 := hJ.cell 24 _ rfl
  have c_25 := hJ.cell 25 _ rfl
  have c_28 := hJ.cell 28 _ rfl
  have c_29 := hJ.cell 29 _ rfl
  have c_30 := hJ.cell 30 _ rfl
  have c_0 := hJ.cell 0 _ rfl
  have hlt := hJ.lt
  have FS := fun W => fits_n j.n W
  rw [hf] at FS
  have S1 := Lib.hid (fun W => size_n j.n W)
  have S2 := Lib.hid (fun W => size_sh j.a W)
  obtain ⟨s1, hs1⟩ : ∃ s1, s1 = sizeG j.n.sh := ⟨_, rfl⟩
  obtain ⟨s2, hs2⟩ : ∃ s2, s2 = sizeG j.a := ⟨_, rfl⟩
  rw [← hs1, ← hs2]
  rw [← hs1] at S1
  rw [← hs2] at S2
  clear hs1 hs2
  obtain ⟨c, hc, hcc⟩ : ∃ c : Int, (if s1 ≠ s2 then (10 : Int) else 0) = c ∧ ((c = 0 ∧ s1 = s2) ∨ (c = 10 ∧ ¬ s1 = s2)) := by
    by_cases hs : s1 = s2
    · exact ⟨0, if_neg (by simpa using hs), .inl ⟨rfl, hs⟩⟩
    · exact ⟨10, if_pos hs, .inr ⟨rfl, hs⟩⟩
  rw [hc]
  clear hc
  have FS := Lib.hid FS
  clear hJ hj h hf
  rcases hcc with ⟨rfl, rfl⟩ | ⟨rfl, hs⟩
  all_goals
    go_enter Try.func57, Try.ntmps57
    go_wp2_with (go_at_call 36; (with_reducible refine (FS.out _).mono ?_); rintro e w2 ⟨rfl, hb2⟩; have d_0 := (hb2.cell (p := ⟨J, 0, none⟩) hlt).trans c_0; have d_23 := (hb2.cell (p := ⟨J, 23, none⟩) hlt).trans c_23; have d_24 := (hb2.cell (p := ⟨J, 24, none⟩) hlt).trans c_24; have d_25 := (hb2.cell (p := ⟨J, 25, none⟩) hlt).trans c_25; have d_28 := (hb2.cell (p := ⟨J, 28, none⟩) hlt).trans c_28; have d_29 := (hb2.cell (p := ⟨J, 29, none⟩) hlt).trans c_29; have d_30 := (hb2.cell (p := ⟨J, 30, none⟩) hlt).trans c_30)
    have hl2 := Nat.lt_of_lt_of_le hlt hb2.size
    have HB2 := Lib.hid hb2
    have PS := Lib.hid (show ∀ w', Below w2.heap.size w2 w' → (fun w' => w'.cell? ⟨J, 23, none⟩ = some (.int .i64 j.n.h0) ∧ w'.cell? ⟨J, 24, none⟩ = some (.int .i64 j.n.h1) ∧ w'.cell? ⟨J, 25, none⟩ = some (.int .i64 j.n.h2) ∧ w'.cell? ⟨J, 28, none⟩ = some (.int .i64 j.a.x) ∧ w'.cell? ⟨J, 29, none⟩ = some (.int .i64 j.a.y) ∧ w'.cell? ⟨J, 30, none⟩ = some (.int .i64 j.a.z) ∧ w'.cell? ⟨J, 0, none⟩ = some (.int .i64 j.n.op) ∧ Below w2.heap.size w2 w') w' from fun w' hb => ⟨(hb.cell (p := ⟨J, 23, none⟩) hl2).trans d_23, (hb.cell (p := ⟨J, 24, none⟩) hl2).trans d_24, (hb.cell (p := ⟨J, 25, none⟩) hl2).trans d_25, (hb.cell (p := ⟨J, 28, none⟩) hl2).trans d_28, (hb.cell (p := ⟨J, 29, none⟩) hl2).trans d_29, (hb.cell (p := ⟨J, 30, none⟩) hl2).trans d_30, (hb.cell (p := ⟨J, 0, none⟩) hl2).trans d_0, hb⟩)
    clear hb2
    go_region_held3 (fun w' => w'.cell? ⟨J, 23, none⟩ = some (.int .i64 j.n.h0) ∧ w'.cell? ⟨J, 24, none⟩ = some (.int .i64 j.n.h1) ∧ w'.cell? ⟨J, 25, none⟩ = some (.int .i64 j.n.h2) ∧ w'.cell? ⟨J, 28, none⟩ = some (.int .i64 j.a.x) ∧ w'.cell? ⟨J, 29, none⟩ = some (.int .i64 j.a.y) ∧ w'.cell? ⟨J, 30, none⟩ = some (.int .i64 j.a.z) ∧ w'.cell? ⟨J, 0, none⟩ = some (.int .i64 j.n.op) ∧ Below w2.heap.size w2 w')
      (first | (with_reducible assumption) | (refine PS.out _ ?_; first | (with_reducible exact Below.refl _ _) | (with_reducible exact (Below.refl _ _).drew) | (with_reducible exact hB4) | (with_reducible exact hB3)))
      (first
      | (go_at_call 20; (with_reducible refine (S1.out _).mono ?_); rintro e w3 ⟨rfl, hb3⟩; (first | (have hB3 := below_call (Below.refl w2.heap.size w2) hb3) | (have hB3 := below_call (Below.refl w2.heap.size w2).drew hb3)))
      | (go_at_call 20; (with_reducible refine (S2.out _).mono ?_); rintro e w4 ⟨rfl, hb4⟩; (first | (have hB4 := below_call hB3 hb4) | (have hB4 := below_call hB3.drew hb4))))
    all_goals
      have HB4 := Lib.hid (below_call HB2.out hB4)
      clear hb3 hB3 hb4 hB4
      go_wp2_with fail
      go_ret
      exact ⟨rfl, HB4.out⟩
theorem cells3j : Try.prog.cellsOf 3 = 1 := by kernel_rfl
theorem info3j : Try.prog.info? 3 = some (Try.prog.info? 3).get! := by kernel_rfl
def jalE (j : Jg) : Int := if hB j.n.op = true ∧ ¬ j.a = (if j.n.op = 12 then ⟨j.b.x, j.b.y, j.a.z⟩ else j.b) then 10 else 0
set_option maxHeartbeats 2000000 in
theorem jalike_no (J : Nat) (j : Jg) (w : World) (hJ : JAt w J j) (hj : JOk j) (h : hB j.n.op = false) :
    Calls Try.prog 58 #[.pointer (some ⟨J, 0, none⟩)] w fun e w' => e = .returned (.int .i64 0) ∧ Below w.heap.size w w' := by
  have hb : bits .and .i64 j.h 2 = 0 := by rw [hj.has]; exact (bit_2 hj.op).2 h
  have h12 : (j.n.op == 12) = false := by
    rcases ops14 hj.op with e | e | e | e | e | e | e | e | e | e | e | e | e | e <;> rw [e] at h ⊢ <;> first | rfl | (exact absurd h (by decide))
  have c_0 := hJ.cell 0 _ rfl
  have c_26 := hJ.cell 26 _ rfl
  have c_28 := hJ.cell 28 _ rfl
  have c_29 := hJ.cell 29 _ rfl
  have c_30 := hJ.cell 30 _ rfl
  have c_31 := hJ.cell 31 _ rfl
  have c_32 := hJ.cell 32 _ rfl
  have c_33 := hJ.cell 33 _ rfl
  have hlt := hJ.lt
  clear hJ hj h
  go_enter Try.func58, Try.ntmps58
  go_wp2_with fail
  go_region
  all_goals
    go_wp2_with fail
    go_ret
    exact ⟨rfl, by go_grown⟩
set_option maxHeartbeats 2000000 in
theorem jalike_12 (J : Nat) (j : Jg) (w : World) (hJ : JAt w J j) (hj : JOk j) (h12 : (j.n.op == 12) = true) (E : Bool) (hE : E = (j.a.x == j.b.x && (j.a.y == j.b.y && j.a.z == j.a.z))) :
    Calls Try.prog 58 #[.pointer (some ⟨J, 0, none⟩)] w fun e w' => e = .returned (.int .i64 (if E then 0 else 10)) ∧ Below w.heap.size w w' := by
  have hb : ¬ bits .and .i64 j.h 2 = 0 := by rw [hj.has]; intro e; have := (bit_2 hj.op).1 e; rw [show j.n.op = 12 by simpa using h12] at this; cases this
  have c_0 := hJ.cell 0 _ rfl
  have c_26 := hJ.cell 26 _ rfl
  have c_28 := hJ.cell 28 _ rfl
  have c_29 := hJ.cell 29 _ rfl
  have c_30 := hJ.cell 30 _ rfl
  have c_31 := hJ.cell 31 _ rfl
  have c_32 := hJ.cell 32 _ rfl
  have c_33 := hJ.cell 33 _ rfl
  have hlt := hJ.lt
  have EQ : ∀ w : World, (Op.equalIn 10000 22 (.agg #[.int .i64 j.a.x, .int .i64 j.a.y, .int .i64 j.a.z]) (.agg #[.int .i64 j.b.x, .int .i64 j.b.y, .int .i64 j.a.z])).run Try.prog w = .ok E w := fun w => by
    rw [hE]; exact eqA3 Try.underlying22 Try.underlying3 info3j cells3j _ _ _ _ _ _ w
  clear hJ hj hE
  cases E
  all_goals
    go_enter Try.func58, Try.ntmps58
    go_wp2_with fail
    go_region
    all_goals
      go_wp2_with fail
      go_ret
      exact ⟨rfl, by go_grown⟩
set_option maxHeartbeats 2000000 in
theorem jalike_yes (J : Nat) (j : Jg) (w : World) (hJ : JAt w J j) (hj : JOk j) (h : hB j.n.op = true) (h12 : (j.n.op == 12) = false) (E : Bool) (hE : E = (j.a.x == j.b.x && (j.a.y == j.b.y && j.a.z == j.b.z))) :
    Calls Try.prog 58 #[.pointer (some ⟨J, 0, none⟩)] w fun e w' => e = .returned (.int .i64 (if E then 0 else 10)) ∧ Below w.heap.size w w' := by
  have hb : ¬ bits .and .i64 j.h 2 = 0 := by rw [hj.has]; intro e; rw [(bit_2 hj.op).1 e] at h; cases h
  have c_0 := hJ.cell 0 _ rfl
  have c_26 := hJ.cell 26 _ rfl
  have c_28 := hJ.cell 28 _ rfl
  have c_29 := hJ.cell 29 _ rfl
  have c_30 := hJ.cell 30 _ rfl
  have c_31 := hJ.cell 31 _ rfl
  have c_32 := hJ.cell 32 _ rfl
  have c_33 := hJ.cell 33 _ rfl
  have hlt := hJ.lt
  have EQ : ∀ w : World, (Op.equalIn 10000 22 (.agg #[.int .i64 j.a.x, .int .i64 j.a.y, .int .i64 j.a.z]) (.agg #[.int .i64 j.b.x, .int .i64 j.b.y, .int .i64 j.b.z])).run Try.prog w = .ok E w := fun w => by
    rw [hE]; exact eqA3 Try.underlying22 Try.underlying3 info3j cells3j _ _ _ _ _ _ w
  clear hJ hj hE h
  cases E
  all_goals
    go_enter Try.func58, Try.ntmps58
    go_wp2_with fail
    go_region
    all_goals
      go_wp2_with fail
      go_ret
      exact ⟨rfl, by go_grown⟩
/-- the shape -/
theorem jsh_any (J : Nat) (j : Jg) (w : World) (hJ : JAt w J j) (hj : JOk j) :
    Calls Try.prog 57 #[.pointer (some ⟨J, 0, none⟩)] w fun e w' => e = .returned (.int .i64 (jshE j)) ∧ Below w.heap.size w w' := by
  unfold jshE
  cases h : hS j.n.op
  · rw [if_neg (by simp)]
    exact (jshape_no J j w hJ hj h).mono fun e w' ⟨a, b⟩ => ⟨a, by subst b; exact Below.refl _ _⟩
  · rw [if_pos rfl]
    by_cases hf : j.n.sh.fit ≠ 0
    · rw [if_pos hf]
      exact jshape_fit J j w hJ hj h hf
    · rw [if_neg hf]
      have hf : j.n.sh.fit = 0 := by simpa using hf
      cases h11 : (j.n.op == 11)
      · rw [if_neg (fun e => by rw [e.1] at h11; cases h11)]
        exact jshape_ok J j w hJ hj h hf h11
      · rw [show (if j.n.op = 11 ∧ sizeG j.n.sh ≠ sizeG j.a then (10 : Int) else 0) = (if sizeG j.n.sh ≠ sizeG j.a then 10 else 0) by simp [show j.n.op = 11 by simpa using h11]]
        exact jshape_re J j w hJ hj h hf h11
theorem al_eq (a b : Sh) : (if true = true ∧ ¬ a = b then (10 : Int) else 0) = if (a.x == b.x && (a.y == b.y && a.z == b.z)) then 0 else 10 := by
  by_cases g : a = b
  · subst g; simp
  · have : (a.x == b.x && (a.y == b.y && a.z == b.z)) = false := by
      cases h : (a.x == b.x && (a.y == b.y && a.z == b.z))
      · rfl
      · exact absurd (by cases a; cases b; simpa using h) g
    simp [g, this]
/-- both shapes -/
theorem jal_any (J : Nat) (j : Jg) (w : World) (hJ : JAt w J j) (hj : JOk j) :
    Calls Try.prog 58 #[.pointer (some ⟨J, 0, none⟩)] w fun e w' => e = .returned (.int .i64 (jalE j)) ∧ Below w.heap.size w w' := by
  unfold jalE
  cases h : hB j.n.op
  · rw [if_neg (by simp)]
    exact jalike_no J j w hJ hj h
  · cases h12 : (j.n.op == 12)
    · rw [if_neg (show ¬ j.n.op = 12 by simpa using h12), al_eq]
      exact jalike_yes J j w hJ hj h h12 _ rfl
    · rw [if_pos (show j.n.op = 12 by simpa using h12), al_eq]
      exact jalike_12 J j w hJ hj h12 _ rfl
end Go.Proofs.Ytmifojpmomdmeaa
