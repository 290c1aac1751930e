/- The statement PseudoMoves of layer 12: it returns true for all inputs. -/
import Derived.Test.YtedfekgacmfjkaaRows
import Derived.Test.YtedfekgacmfjkaaLawP
-- theorem own and theorem laidOut stand in LawP
namespace Go.Proofs.Ytedfekgacmfjkaa
open Go Go.RowKit Go.ChangeShapes Go.WideShapes Go.ChangeAt
set_option linter.unusedVariables false

def turnS (op : Int) : Int := if op = 36 then 37 else if op = 37 then 36 else if op = 38 then 39 else if op = 39 then 38 else if op = 40 then 41 else if op = 41 then 40 else 0
set_option maxHeartbeats 400000 in
theorem turn_any (op : Int) (w : World) : Calls Try.prog 31 #[.int .i64 op] w fun e w' => e = .returned (.int .i64 (turnS op)) ∧ w = w' := by
  by_cases h : 36 ≤ op ∧ op ≤ 41
  · obtain rfl | rfl | rfl | rfl | rfl | rfl : op = 36 ∨ op = 37 ∨ op = 38 ∨ op = 39 ∨ op = 40 ∨ op = 41 := by omega
    all_goals
      go_enter Try.func31, Try.ntmps31
      go_wp2
      go_ret
      exact ⟨rfl, rfl⟩
  · have e : turnS op = 0 := by unfold turnS; repeat (rw [if_neg (by omega)])
    rw [e]
    clear e
    have t0 : (op == 36) = false := by simp; omega
    have t1 : (op == 37) = false := by simp; omega
    have t2 : (op == 38) = false := by simp; omega
    have t3 : (op == 39) = false := by simp; omega
    have t4 : (op == 40) = false := by simp; omega
    have t5 : (op == 41) = false := by simp; omega
    go_enter Try.func31, Try.ntmps31
    go_wp2
    go_ret
    exact ⟨rfl, rfl⟩
set_option maxHeartbeats 400000 in
theorem rturn_any (op : Int) (w : World) : Calls Try.prog 32 #[.int .i64 op] w fun e w' => e = .returned (.int .i64 (turnS op)) ∧ Below w.heap.size w w' := by
  by_cases h : 36 ≤ op ∧ op ≤ 41
  · obtain rfl | rfl | rfl | rfl | rfl | rfl : op = 36 ∨ op = 37 ∨ op = 38 ∨ op = 39 ∨ op = 40 ∨ op = 41 := by omega
    all_goals
      go_enter Try.func32, Try.ntmps32
      go_wp2
      go_ret
      exact ⟨rfl, by go_grown⟩
  · have e : turnS op = 0 := by unfold turnS; repeat (rw [if_neg (by omega)])
    rw [e]
    clear e
    have h' : op < 36 ∨ 41 < op := by omega
    clear h
    rcases h' with h | h
    all_goals
      go_enter Try.func32, Try.ntmps32
      go_wp2
      go_ret
      exact ⟨rfl, by go_grown⟩
set_option maxHeartbeats 400000 in
theorem move_yes (rd rs : Int) (w : World) (h : 0 ≤ rd ∧ rd < 32) (g : 0 ≤ rs ∧ rs < 32) : Calls Try.prog 30 #[.int .i64 rd, .int .i64 rs] w fun e w' => e = .returned (.agg #[.int .i64 19, .int .i64 rd, .int .i64 rs, .int .i64 0, .int .i32 0]) ∧ Below w.heap.size w w' := by
  go_enter Try.func30, Try.ntmps30
  go_wp2_with fail
  refine (reg_yes _ _ h).mono ?_
  rintro e w' ⟨rfl, rfl⟩
  go_wp2_with fail
  refine (reg_yes _ _ g).mono ?_
  rintro e w' ⟨rfl, rfl⟩
  go_wp2_with fail
  refine (addi_any _ _ _ _).mono ?_
  rintro e w' ⟨rfl, rfl⟩
  go_wp2_with fail
  exact bodyPost_ret (v := .agg #[.int .i64 19, .int .i64 rd, .int .i64 rs, .int .i64 0, .int .i32 0]) (by simp [results, Try.results30, go_sem]) rfl ⟨rfl, by go_grown⟩
set_option maxHeartbeats 400000 in
theorem move_no (rd rs : Int) (w : World) (h : (rd < 0 ∨ 32 ≤ rd) ∨ (0 ≤ rd ∧ rd < 32) ∧ (rs < 0 ∨ 32 ≤ rs)) : Calls Try.prog 30 #[.int .i64 rd, .int .i64 rs] w fun e w' => e = .returned (.agg #[.int .i64 0, .int .i64 0, .int .i64 0, .int .i64 0, .int .i32 0]) ∧ Below w.heap.size w w' := by
  rcases h with h | ⟨h, g⟩
  · go_enter Try.func30, Try.ntmps30
    go_wp2_with fail
    refine (reg_no _ _ h).mono ?_
    rintro e w' ⟨rfl, rfl⟩
    go_wp2_with fail
    exact bodyPost_ret (v := .agg #[.int .i64 0, .int .i64 0, .int .i64 0, .int .i64 0, .int .i32 0]) (by simp [results, Try.results30, go_sem]) rfl ⟨rfl, by go_grown⟩
  · go_enter Try.func30, Try.ntmps30
    go_wp2_with fail
    refine (reg_yes _ _ h).mono ?_
    rintro e w' ⟨rfl, rfl⟩
    go_wp2_with fail
    refine (reg_no _ _ g).mono ?_
    rintro e w' ⟨rfl, rfl⟩
    go_wp2_with fail
    exact bodyPost_ret (v := .agg #[.int .i64 0, .int .i64 0, .int .i64 0, .int .i64 0, .int .i32 0]) (by simp [results, Try.results30, go_sem]) rfl ⟨rfl, by go_grown⟩

set_option maxHeartbeats 1000000 in
theorem moves_yes (rd rs op : Int) (w : World) (h : 0 ≤ rd ∧ rd < 32) (g : 0 ≤ rs ∧ rs < 32) :
    Calls Try.prog 9 #[.int .i64 rd, .int .i64 rs, .int .i64 op] w fun e w' => e = .returned (.bool true) ∧ Below w.heap.size w w' := by
  have h1 : decide (0 ≤ rd) = true := by simp; omega
  have h2 : decide (rd < 32) = true := by simp; omega
  have h3 : decide (0 ≤ rs) = true := by simp; omega
  have h4 : decide (rs < 32) = true := by simp; omega
  go_enter Try.func9, Try.ntmps9
  go_wp2_with fail
  go_region_held3 (fun w' => w'.cell? ⟨w.heap.size, 0, none⟩ = some (.int .i64 19) ∧ w'.cell? ⟨w.heap.size, 1, none⟩ = some (.int .i64 rd) ∧ w'.cell? ⟨w.heap.size, 2, none⟩ = some (.int .i64 rs) ∧ w'.cell? ⟨w.heap.size, 3, none⟩ = some (.int .i64 0) ∧ w'.cell? ⟨w.heap.size, 4, none⟩ = some (.int .i32 0) ∧ w.heap.size < w'.heap.size ∧ Below w.heap.size w w')
    (first | exact ⟨by simp, by simp, by simp, by simp, by simp, by simp, by go_grown⟩ | (obtain ⟨s0, s1, s2, s3, s4, s5, s6⟩ := ‹_ ∧ _ ∧ _ ∧ _ ∧ _ ∧ _ ∧ Below w.heap.size w _›; exact ⟨(hbl.cell (by show w.heap.size < _; omega)).trans s0, (hbl.cell (by show w.heap.size < _; omega)).trans s1, (hbl.cell (by show w.heap.size < _; omega)).trans s2, (hbl.cell (by show w.heap.size < _; omega)).trans s3, (hbl.cell (by show w.heap.size < _; omega)).trans s4, by have := hbl.size; omega, Below.trans s6 (hbl.mono (by omega))⟩) | (with_reducible assumption) | (obtain ⟨s0, s1, s2, s3, s4, s5, s6⟩ := ‹_ ∧ _ ∧ _ ∧ _ ∧ _ ∧ _ ∧ Below w.heap.size w _›; exact ⟨s0, s1, s2, s3, s4, s5, s6⟩))
    (first
    | (go_at_call 30; refine (move_yes _ _ _ h g).mono ?_; rintro e w1 ⟨rfl, hbl⟩)
    | (go_at_call 31; refine (turn_any _ _).mono ?_; rintro e w1 ⟨rfl, rfl⟩)
    | (go_at_call 32; refine (rturn_any _ _).mono ?_; rintro e w1 ⟨rfl, hbl⟩)
    | (go_at_call 27; refine (law12_lives _).mono ?_; rintro e w1 ⟨rfl, hbl⟩))
  obtain ⟨_, _, _, _, _, _, hB⟩ := ‹_ ∧ _ ∧ _ ∧ _ ∧ _ ∧ _ ∧ Below w.heap.size w _›
  go_wp2
  go_ret
  exact ⟨rfl, hB⟩

set_option maxHeartbeats 1000000 in
theorem moves_no (rd rs op : Int) (w : World) (h : (rd < 0 ∨ 32 ≤ rd) ∨ (0 ≤ rd ∧ rd < 32) ∧ (rs < 0 ∨ 32 ≤ rs)) :
    Calls Try.prog 9 #[.int .i64 rd, .int .i64 rs, .int .i64 op] w fun e w' => e = .returned (.bool true) ∧ Below w.heap.size w w' := by
  have H := Lib.hid h
  have t : (decide (0 ≤ rd) = false ∨ decide (0 ≤ rd) = true ∧ decide (rd < 32) = false) ∨ decide (0 ≤ rd) = true ∧ decide (rd < 32) = true ∧ (decide (0 ≤ rs) = false ∨ decide (0 ≤ rs) = true ∧ decide (rs < 32) = false) := by simp; omega
  clear h
  rcases t with (t1 | ⟨t1, t2⟩) | ⟨t1, t2, t3 | ⟨t3, t4⟩⟩
  · go_enter Try.func9, Try.ntmps9
    go_wp2_with fail
    go_region_held3 (fun w' => w'.cell? ⟨w.heap.size, 0, none⟩ = some (.int .i64 0) ∧ w'.cell? ⟨w.heap.size, 1, none⟩ = some (.int .i64 0) ∧ w'.cell? ⟨w.heap.size, 2, none⟩ = some (.int .i64 0) ∧ w'.cell? ⟨w.heap.size, 3, none⟩ = some (.int .i64 0) ∧ w'.cell? ⟨w.heap.size, 4, none⟩ = some (.int .i32 0) ∧ w.heap.size < w'.heap.size ∧ Below w.heap.size w w')
      (first | exact ⟨by simp, by simp, by simp, by simp, by simp, by simp, by go_grown⟩ | (obtain ⟨s0, s1, s2, s3, s4, s5, s6⟩ := ‹_ ∧ _ ∧ _ ∧ _ ∧ _ ∧ _ ∧ Below w.heap.size w _›; exact ⟨(hbl.cell (by show w.heap.size < _; omega)).trans s0, (hbl.cell (by show w.heap.size < _; omega)).trans s1, (hbl.cell (by show w.heap.size < _; omega)).trans s2, (hbl.cell (by show w.heap.size < _; omega)).trans s3, (hbl.cell (by show w.heap.size < _; omega)).trans s4, by have := hbl.size; omega, Below.trans s6 (hbl.mono (by omega))⟩) | (with_reducible assumption) | (obtain ⟨s0, s1, s2, s3, s4, s5, s6⟩ := ‹_ ∧ _ ∧ _ ∧ _ ∧ _ ∧ _ ∧ Below w.heap.size w _›; exact ⟨s0, s1, s2, s3, s4, s5, s6⟩))
      (first
      | (go_at_call 30; refine (move_no _ _ _ H.out).mono ?_; rintro e w1 ⟨rfl, hbl⟩)
      | (go_at_call 31; refine (turn_any _ _).mono ?_; rintro e w1 ⟨rfl, rfl⟩)
      | (go_at_call 32; refine (rturn_any _ _).mono ?_; rintro e w1 ⟨rfl, hbl⟩)
      | (go_at_call 27; refine (law12_lives _).mono ?_; rintro e w1 ⟨rfl, hbl⟩))
    obtain ⟨_, _, _, _, _, _, hB⟩ := ‹_ ∧ _ ∧ _ ∧ _ ∧ _ ∧ _ ∧ Below w.heap.size w _›
    go_wp2
    go_ret
    exact ⟨rfl, hB⟩
  · go_enter Try.func9, Try.ntmps9
    go_wp2_with fail
    go_region_held3 (fun w' => w'.cell? ⟨w.heap.size, 0, none⟩ = some (.int .i64 0) ∧ w'.cell? ⟨w.heap.size, 1, none⟩ = some (.int .i64 0) ∧ w'.cell? ⟨w.heap.size, 2, none⟩ = some (.int .i64 0) ∧ w'.cell? ⟨w.heap.size, 3, none⟩ = some (.int .i64 0) ∧ w'.cell? ⟨w.heap.size, 4, none⟩ = some (.int .i32 0) ∧ w.heap.size < w'.heap.size ∧ Below w.heap.size w w')
      (first | exact ⟨by simp, by simp, by simp, by simp, by simp, by simp, by go_grown⟩ | (obtain ⟨s0, s1, s2, s3, s4, s5, s6⟩ := ‹_ ∧ _ ∧ _ ∧ _ ∧ _ ∧ _ ∧ Below w.heap.size w _›; exact ⟨(hbl.cell (by show w.heap.size < _; omega)).trans s0, (hbl.cell (by show w.heap.size < _; omega)).trans s1, (hbl.cell (by show w.heap.size < _; omega)).trans s2, (hbl.cell (by show w.heap.size < _; omega)).trans s3, (hbl.cell (by show w.heap.size < _; omega)).trans s4, by have := hbl.size; omega, Below.trans s6 (hbl.mono (by omega))⟩) | (with_reducible assumption) | (obtain ⟨s0, s1, s2, s3, s4, s5, s6⟩ := ‹_ ∧ _ ∧ _ ∧ _ ∧ _ ∧ _ ∧ Below w.heap.size w _›; exact ⟨s0, s1, s2, s3, s4, s5, s6⟩))
      (first
      | (go_at_call 30; refine (move_no _ _ _ H.out).mono ?_; rintro e w1 ⟨rfl, hbl⟩)
      | (go_at_call 31; refine (turn_any _ _).mono ?_; rintro e w1 ⟨rfl, rfl⟩)
      | (go_at_call 32; refine (rturn_any _ _).mono ?_; rintro e w1 ⟨rfl, hbl⟩)
      | (go_at_call 27; refine (law12_lives _).mono ?_; rintro e w1 ⟨rfl, hbl⟩))
    obtain ⟨_, _, _, _, _, _, hB⟩ := ‹_ ∧ _ ∧ _ ∧ _ ∧ _ ∧ _ ∧ Below w.heap.size w _›
    go_wp2
    go_ret
    exact ⟨rfl, hB⟩
  · go_enter Try.func9, Try.ntmps9
    go_wp2_with fail
    go_region_held3 (fun w' => w'.cell? ⟨w.heap.size, 0, none⟩ = some (.int .i64 0) ∧ w'.cell? ⟨w.heap.size, 1, none⟩ = some (.int .i64 0) ∧ w'.cell? ⟨w.heap.size, 2, none⟩ = some (.int .i64 0) ∧ w'.cell? ⟨w.heap.size, 3, none⟩ = some (.int .i64 0) ∧ w'.cell? ⟨w.heap.size, 4, none⟩ = some (.int .i32 0) ∧ w.heap.size < w'.heap.size ∧ Below w.heap.size w w')
      (first | exact ⟨by simp, by simp, by simp, by simp, by simp, by simp, by go_grown⟩ | (obtain ⟨s0, s1, s2, s3, s4, s5, s6⟩ := ‹_ ∧ _ ∧ _ ∧ _ ∧ _ ∧ _ ∧ Below w.heap.size w _›; exact ⟨(hbl.cell (by show w.heap.size < _; omega)).trans s0, (hbl.cell (by show w.heap.size < _; omega)).trans s1, (hbl.cell (by show w.heap.size < _; omega)).trans s2, (hbl.cell (by show w.heap.size < _; omega)).trans s3, (hbl.cell (by show w.heap.size < _; omega)).trans s4, by have := hbl.size; omega, Below.trans s6 (hbl.mono (by omega))⟩) | (with_reducible assumption) | (obtain ⟨s0, s1, s2, s3, s4, s5, s6⟩ := ‹_ ∧ _ ∧ _ ∧ _ ∧ _ ∧ _ ∧ Below w.heap.size w _›; exact ⟨s0, s1, s2, s3, s4, s5, s6⟩))
      (first
      | (go_at_call 30; refine (move_no _ _ _ H.out).mono ?_; rintro e w1 ⟨rfl, hbl⟩)
      | (go_at_call 31; refine (turn_any _ _).mono ?_; rintro e w1 ⟨rfl, rfl⟩)
      | (go_at_call 32; refine (rturn_any _ _).mono ?_; rintro e w1 ⟨rfl, hbl⟩)
      | (go_at_call 27; refine (law12_lives _).mono ?_; rintro e w1 ⟨rfl, hbl⟩))
    obtain ⟨_, _, _, _, _, _, hB⟩ := ‹_ ∧ _ ∧ _ ∧ _ ∧ _ ∧ _ ∧ Below w.heap.size w _›
    go_wp2
    go_ret
    exact ⟨rfl, hB⟩
  · go_enter Try.func9, Try.ntmps9
    go_wp2_with fail
    go_region_held3 (fun w' => w'.cell? ⟨w.heap.size, 0, none⟩ = some (.int .i64 0) ∧ w'.cell? ⟨w.heap.size, 1, none⟩ = some (.int .i64 0) ∧ w'.cell? ⟨w.heap.size, 2, none⟩ = some (.int .i64 0) ∧ w'.cell? ⟨w.heap.size, 3, none⟩ = some (.int .i64 0) ∧ w'.cell? ⟨w.heap.size, 4, none⟩ = some (.int .i32 0) ∧ w.heap.size < w'.heap.size ∧ Below w.heap.size w w')
      (first | exact ⟨by simp, by simp, by simp, by simp, by simp, by simp, by go_grown⟩ | (obtain ⟨s0, s1, s2, s3, s4, s5, s6⟩ := ‹_ ∧ _ ∧ _ ∧ _ ∧ _ ∧ _ ∧ Below w.heap.size w _›; exact ⟨(hbl.cell (by show w.heap.size < _; omega)).trans s0, (hbl.cell (by show w.heap.size < _; omega)).trans s1, (hbl.cell (by show w.heap.size < _; omega)).trans s2, (hbl.cell (by show w.heap.size < _; omega)).trans s3, (hbl.cell (by show w.heap.size < _; omega)).trans s4, by have := hbl.size; omega, Below.trans s6 (hbl.mono (by omega))⟩) | (with_reducible assumption) | (obtain ⟨s0, s1, s2, s3, s4, s5, s6⟩ := ‹_ ∧ _ ∧ _ ∧ _ ∧ _ ∧ _ ∧ Below w.heap.size w _›; exact ⟨s0, s1, s2, s3, s4, s5, s6⟩))
      (first
      | (go_at_call 30; refine (move_no _ _ _ H.out).mono ?_; rintro e w1 ⟨rfl, hbl⟩)
      | (go_at_call 31; refine (turn_any _ _).mono ?_; rintro e w1 ⟨rfl, rfl⟩)
      | (go_at_call 32; refine (rturn_any _ _).mono ?_; rintro e w1 ⟨rfl, hbl⟩)
      | (go_at_call 27; refine (law12_lives _).mono ?_; rintro e w1 ⟨rfl, hbl⟩))
    obtain ⟨_, _, _, _, _, _, hB⟩ := ‹_ ∧ _ ∧ _ ∧ _ ∧ _ ∧ _ ∧ Below w.heap.size w _›
    go_wp2
    go_ret
    exact ⟨rfl, hB⟩

theorem walk_PseudoMoves (rd rs op : Int) (w0 : (Lit.int .i64 rd).wf = true) (w1 : (Lit.int .i64 rs).wf = true) (w2 : (Lit.int .i64 op).wf = true) (w : World) :
    Calls Try.prog 9 #[.int .i64 rd, .int .i64 rs, .int .i64 op] w fun e w' => e = .returned (.bool true) ∧ Below w.heap.size w w' := by
  by_cases h : 0 ≤ rd ∧ rd < 32
  · by_cases g : 0 ≤ rs ∧ rs < 32
    · exact moves_yes rd rs op w h g
    · exact moves_no rd rs op w (Or.inr ⟨h, by omega⟩)
  · exact moves_no rd rs op w (Or.inl (by omega))

set_option maxRecDepth 100000 in
theorem lifted_PseudoMoves (os : Os) (started : os.Started) (H : Type) (enc : TypeId × Value → H) :
    ReturnsInHanded {} Try.checked os 9 .any (Rows.pseudoMovesSpec.pre6 enc Try.prog Try.f9 Rows.pseudoMovesRow.domain false) (Rows.pseudoMovesSpec.post enc Try.prog Try.f9 false true false false) := by
  refine returnsInHanded_of_change (C := Try.checked) own started (by kernel_rfl) Try.func9
    (ChangeSpec.witness6 (enc := enc) (C := Try.checked) false ⟨#[], #[.int .i64 0, .int .i64 0, .int .i64 0], []⟩ 8 (by kernel_rfl) (by kernel_rfl) (by kernel_rfl) (by kernel_rfl)) ?_
  intro W base args ds gs before hval0 hW hcnd _
  have hval : ∀ (j : Nat) t v, Try.f9.params[j]? = some t → args[j]? = some v → Value.okWide Try.prog W .any base t v := hval0
  have hW' := hW
  obtain ⟨p, q, hA0, hV, rfl, hfz, hnd⟩ := hW
  have hA : DataW.TrodAll enc Try.prog W 0 (fun _ => true) true Try.f9.params.toList args.toList ds p := hA0
  rw [Try.params9] at hA hval
  obtain ⟨v0, vs0, d0, ds0, p0, q0, hargs, rfl, rfl, h0, r0⟩ := trodAll_cons hA
  obtain ⟨v1, vs1, d1, ds1, p1, q1, rfl, rfl, rfl, h1, r1⟩ := trodAll_cons r0
  obtain ⟨v2, vs2, d2, ds2, p2, q2, rfl, rfl, rfl, h2, r2⟩ := trodAll_cons r1
  obtain ⟨rfl, rfl, rfl⟩ := trodAll_nil r2
  obtain rfl : args = #[v0, v1, v2] := by cases args; simp_all
  obtain ⟨rfl, rfl⟩ := trodVars_none hV
  obtain ⟨a0, rfl, rfl, rfl, w0⟩ := open_int Try.underlying3 (hval 0 3 v0 rfl rfl) h0
  obtain ⟨a1, rfl, rfl, rfl, w1⟩ := open_int Try.underlying3 (hval 1 3 v1 rfl rfl) h1
  obtain ⟨a2, rfl, rfl, rfl, w2⟩ := open_int Try.underlying3 (hval 2 3 v2 rfl rfl) h2
  clear hA0 hval0
  refine (walk_PseudoMoves a0 a1 a2 w0 w1 w2 W).mono fun e W' ⟨he, bel⟩ => ?_
  subst he
  exact ⟨_, rfl, _, _, _, [], _, [], hW', trodAll_mk1 (shut_bool Try.underlying4 _), (trodAll_cons_mk (shut_int Try.underlying3 w0) (trodAll_cons_mk (shut_int Try.underlying3 w1) (trodAll_cons_mk (shut_int Try.underlying3 w2) trodAll_mk0))), rfl, bel.frame _, fun h => by cases h⟩

theorem holds_PseudoMoves : Rows.PseudoMovesSaid :=
  OpenClaim.holds_of_wide 9 Try.f9 rfl rfl rfl rfl rfl rfl rfl ⟨rfl, rfl, rfl, rfl, rfl⟩ rfl rfl rfl rfl rfl (by kernel_rfl) Try.func9 (by kernel_rfl)
    (of_decide_eq_true (by kernel_rfl)) (by unfold Func.isWrapper; first | (rw [if_pos (by decide +kernel)]; kernel_rfl) | (rw [if_neg (by decide +kernel)]; exact ⟨rfl, rfl⟩))
    (fun os started H enc _ => lifted_PseudoMoves os started H enc)

end Go.Proofs.Ytedfekgacmfjkaa
