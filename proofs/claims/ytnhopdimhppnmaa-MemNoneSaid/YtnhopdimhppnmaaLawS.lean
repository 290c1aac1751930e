/- The statement MemNone of layer 5: it returns true for all inputs. -/
import Derived.Test.YtnhopdimhppnmaaRows
import Derived.Test.YtnhopdimhppnmaaLawR
import Derived.Deep.Slices
import Derived.Deep.Fields
-- theorem own and theorem laidOut stand in LawR
namespace Go.Proofs.Ytnhopdimhppnmaa
open Go Go.RowKit Go.ChangeShapes Go.WideShapes Go.ChangeAt Go.Deep
set_option linter.unusedVariables false

def actK (j : Nat) : IntKind := if j < 2 then .i64 else .u32
/-- a struct of four numbers and a slice -/
theorem act_of {H : Type} {enc : TypeId × Value → H} {P : Program} {w : World} {r : Reach} {b base : Nat} {spare : Nat → Bool} {held : Bool} {t : TypeId} {v : Value} {d : DataW H} {p : List MemPlace} {fs : Array Field}
    (hs : P.underlying t = some (.struct fs)) (hC : P.cellsOf t = 5) (hsz : fs.size = 5) (hone : oneCellFields P fs = true) (hk : ∀ j f, j < 4 → fs[j]? = some f → P.underlying f.type = some (.int (actK j)))
    (h4 : ∀ f, fs[4]? = some f → ∃ e, P.underlying f.type = some (.slice e)) (hv : Value.okWide P w r b t v) (h : DataW.Trod enc P w base spare held t v d p) :
    ∃ (k s a u : Int) (x : Option Addr) (n c : Nat), v = .agg #[.int .i64 k, .int .i64 s, .int .u32 a, .int .u32 u, .slice x n c] ∧ ((Lit.int .i64 k).wf = true ∧ (Lit.int .i64 s).wf = true ∧ (Lit.int .u32 a).wf = true ∧ (Lit.int .u32 u).wf = true) := by
  obtain ⟨cs, rfl, hcs⟩ := okWide_struct hs hv
  obtain ⟨fuel, hf⟩ := h
  obtain ⟨xs, n', _, _, hlen, hxl, hg⟩ := DataW.trod_struct hs hf
  obtain ⟨l⟩ := cs
  have one : ∀ j, j < 5 → ∃ f y, fs[j]? = some f ∧ DataW.trod enc P w base spare held n' f.type ((l.drop j).take 1) = some y := by
    intro j hj
    have hfj : fs[j]? = some (fs[j]'(by omega)) := Array.getElem?_eq_getElem _
    obtain ⟨ho, hc1⟩ := hone_of hone j _ hfj
    have h1 := hg j _ hfj
    rw [ho, hc1] at h1
    exact ⟨_, _, hfj, by simpa [Value.cells] using h1.trans (List.getElem?_eq_getElem (by omega))⟩
  have each : ∀ j, j < 4 → ∃ z, (l.drop j).take 1 = [.int (actK j) z] ∧ (Lit.int (actK j) z).wf = true := by
    intro j hj
    obtain ⟨f, y, hfj, hy⟩ := one j (by omega)
    obtain ⟨z, hz, _, hw⟩ := DataW.trod_int (hk j f hj hfj) hy
    exact ⟨z, hz, hw⟩
  have last : ∃ x n c, (l.drop 4).take 1 = [.slice x n c] := by
    obtain ⟨f, y, hfj, hy⟩ := one 4 (by omega)
    obtain ⟨e, he⟩ := h4 f hfj
    rcases Go.Deep.open_slice he hy with ⟨h1, _⟩ | ⟨a, len, cap, _, _, _, _, h1, _⟩
    · exact ⟨_, _, _, h1⟩
    · exact ⟨_, _, _, h1⟩
  obtain ⟨z0, e0, w0⟩ := each 0 (by omega)
  obtain ⟨z1, e1, w1⟩ := each 1 (by omega)
  obtain ⟨z2, e2, w2⟩ := each 2 (by omega)
  obtain ⟨z3, e3, w3⟩ := each 3 (by omega)
  obtain ⟨x, n, c, e4⟩ := last
  have hl5 : l.length = 5 := by simpa using hcs.trans hC
  refine ⟨z0, z1, z2, z3, x, n, c, ?_, w0, w1, w2, w3⟩
  match l, hl5, e0, e1, e2, e3, e4 with
  | [v0, v1, v2, v3, v4], _, e0, e1, e2, e3, e4 =>
    simp [actK] at e0 e1 e2 e3 e4
    subst e0 e1 e2 e3 e4
    rfl
theorem act_in {H : Type} {enc : TypeId × Value → H} {w : World} {r : Reach} {b base : Nat} {spare : Nat → Bool} {held : Bool} {v : Value} {d : DataW H} {p : List MemPlace}
    (hv : Value.okWide Try.prog w r b 57 v) (h : DataW.Trod enc Try.prog w base spare held 57 v d p) :
    ∃ (k s a u : Int) (x : Option Addr) (n c : Nat), v = .agg #[.int .i64 k, .int .i64 s, .int .u32 a, .int .u32 u, .slice x n c] ∧ ((Lit.int .i64 k).wf = true ∧ (Lit.int .i64 s).wf = true ∧ (Lit.int .u32 a).wf = true ∧ (Lit.int .u32 u).wf = true) := by
  refine act_of Try.underlying57 (by kernel_rfl) (by rfl) (by kernel_rfl) ?_ ?_ hv h
  · intro j f hj hf
    match j, hj, hf with
    | 0, _, hf => simp at hf; subst hf; exact Try.underlying3
    | 1, _, hf => simp at hf; subst hf; exact Try.underlying3
    | 2, _, hf => simp at hf; subst hf; exact Try.underlying23
    | 3, _, hf => simp at hf; subst hf; exact Try.underlying23
  · intro f hf
    simp at hf
    subst hf
    exact ⟨_, Try.underlying22⟩

set_option maxHeartbeats 400000 in
theorem fetch_nil (a : Int) (w : World) : Calls Try.prog 39 #[.pointer none, .int .u32 a] w fun e w' => e = .returned (.tuple #[.int .u32 0, .int .i64 2]) ∧ w = w' := by
  go_enter Try.func39, Try.ntmps39
  go_wp2
  go_ret2
  exact ⟨rfl, rfl⟩
set_option maxHeartbeats 400000 in
theorem load_nil (a s : Int) (w : World) : Calls Try.prog 40 #[.pointer none, .int .u32 a, .int .i64 s] w fun e w' => e = .returned (.tuple #[.int .u32 0, .int .i64 3]) ∧ w = w' := by
  go_enter Try.func40, Try.ntmps40
  go_wp2
  go_ret2
  exact ⟨rfl, rfl⟩
set_option maxHeartbeats 400000 in
theorem get_nil (a s : Int) (w : World) : Calls Try.prog 41 #[.pointer none, .int .u32 a, .int .i64 s] w fun e w' => e = .returned (.tuple #[.slice none 0 0, .bool false]) ∧ w = w' := by
  go_enter Try.func41, Try.ntmps41
  go_wp2
  go_ret2
  exact ⟨rfl, rfl⟩
set_option maxHeartbeats 400000 in
theorem store_nil (a s u : Int) (w : World) : Calls Try.prog 42 #[.pointer none, .int .u32 a, .int .i64 s, .int .u32 u] w fun e w' => e = .returned (.int .i64 4) ∧ w = w' := by
  go_enter Try.func42, Try.ntmps42
  go_wp2
  go_ret
  exact ⟨rfl, rfl⟩
set_option maxHeartbeats 400000 in
theorem put_nil (a : Int) (x : Option Addr) (n c : Nat) (w : World) : Calls Try.prog 43 #[.pointer none, .int .u32 a, .slice x n c] w fun e w' => e = .returned (.bool false) ∧ w = w' := by
  go_enter Try.func43, Try.ntmps43
  go_wp2
  go_ret
  exact ⟨rfl, rfl⟩
set_option maxHeartbeats 400000 in
theorem target_nil (w : World) : Calls Try.prog 38 #[.pointer none] w fun e w' => e = .returned (.agg #[.int .u32 0, .int .u32 0, .int .u32 0, .int .u32 0]) ∧ w' = w.alloc (.cells #[.int .u32 0, .int .u32 0, .int .u32 0, .int .u32 0] 50) := by
  go_enter Try.func38, Try.ntmps38
  go_wp2
  exact bodyPost_ret (v := .agg #[.int .u32 0, .int .u32 0, .int .u32 0, .int .u32 0]) (by simp [results, Try.results38, go_sem]) rfl ⟨rfl, rfl⟩

set_option maxHeartbeats 1000000 in
theorem walk_MemNone (k s a u : Int) (x : Option Addr) (n c : Nat) (w0 : (Lit.int .i64 k).wf = true ∧ (Lit.int .i64 s).wf = true ∧ (Lit.int .u32 a).wf = true ∧ (Lit.int .u32 u).wf = true) (w : World) :
    Calls Try.prog 13 #[.agg #[.int .i64 k, .int .i64 s, .int .u32 a, .int .u32 u, .slice x n c]] w fun e w' => e = .returned (.bool true) ∧ Below w.heap.size w w' := by
  clear w0
  go_enter Try.func13, Try.ntmps13
  go_wp2_with fail
  refine (fetch_nil _ _).mono ?_
  rintro e w1 ⟨rfl, rfl⟩
  go_wp2_with fail
  refine (load_nil _ _ _).mono ?_
  rintro e w1 ⟨rfl, rfl⟩
  go_wp2_with fail
  refine (get_nil _ _ _).mono ?_
  rintro e w1 ⟨rfl, rfl⟩
  go_wp2_with fail
  refine (target_nil _).mono ?_
  rintro e w1 ⟨rfl, rfl⟩
  go_wp2_with fail
  refine (store_nil _ _ _ _).mono ?_
  rintro e w1 ⟨rfl, rfl⟩
  go_wp2_with fail
  refine (put_nil _ _ _ _ _).mono ?_
  rintro e w1 ⟨rfl, rfl⟩
  go_wp2_with fail
  refine (law5_lives _).mono ?_
  rintro e w1 ⟨rfl, hb⟩
  have HB := Lib.hid (Below.trans (show Below w.heap.size w _ by go_grown) (hb.mono (by simp; omega)))
  clear hb
  go_wp2_with fail
  go_ret
  exact ⟨rfl, HB.out⟩

set_option maxRecDepth 100000 in
theorem lifted_MemNone (os : Os) (started : os.Started) (H : Type) (enc : TypeId × Value → H) :
    ReturnsInHanded {} Try.checked os 13 .any (Rows.memNoneSpec.pre6 enc Try.prog Try.f13 Rows.memNoneRow.domain false) (Rows.memNoneSpec.post enc Try.prog Try.f13 false true false false) := by
  refine returnsInHanded_of_change (C := Try.checked) own started (by kernel_rfl) Try.func13
    (ChangeSpec.witness6 (enc := enc) (C := Try.checked) false ⟨#[], #[.agg #[.int .i64 0, .int .i64 0, .int .u32 0, .int .u32 0, .slice none 0 0]], []⟩ 8 (by kernel_rfl) (by kernel_rfl) (by kernel_rfl) (by kernel_rfl)) ?_
  intro W base args ds gs before hval0 hW hcnd _
  have hval : ∀ (j : Nat) t v, Try.f13.params[j]? = some t → args[j]? = some v → Value.okWide Try.prog W .any base t v := hval0
  have hW' := hW
  obtain ⟨p, q, hA0, hV, rfl, hfz, hnd⟩ := hW
  have hA : DataW.TrodAll enc Try.prog W 0 (fun _ => true) true Try.f13.params.toList args.toList ds p := hA0
  rw [Try.params13] at hA hval
  obtain ⟨v0, vs0, d0, ds0, p0, q0, hargs, rfl, rfl, h0, r0⟩ := trodAll_cons hA
  obtain ⟨rfl, rfl, rfl⟩ := trodAll_nil r0
  obtain rfl : args = #[v0] := by cases args; simp_all
  obtain ⟨rfl, rfl⟩ := trodVars_none hV
  have k0 := h0
  have lt0 : ∀ x ∈ p0, x.block < W.heap.size := by obtain ⟨m, hm⟩ := k0; exact DataW.trod_lt m _ _ _ hm
  obtain ⟨a0_0, a0_1, a0_2, a0_3, a0_4, a0_5, a0_6, rfl, w0⟩ := act_in (hval 0 57 v0 rfl rfl) h0
  clear hA0 hval0
  refine (walk_MemNone a0_0 a0_1 a0_2 a0_3 a0_4 a0_5 a0_6 w0 W).mono fun e W' ⟨he, bel⟩ => ?_
  subst he
  exact ⟨_, rfl, _, _, _, [], _, [], hW', trodAll_mk1 (shut_bool Try.underlying4 _), (trodAll_cons_mk (Below.trod laidOut (by kernel_rfl) (of_decide_eq_true (by kernel_rfl)) k0 bel lt0) trodAll_mk0), rfl, bel.frame _, fun h => by cases h⟩

theorem holds_MemNone : Rows.MemNoneSaid :=
  OpenClaim.holds_of_wide 13 Try.f13 rfl rfl rfl rfl rfl rfl rfl ⟨rfl, rfl, rfl, rfl, rfl⟩ rfl rfl rfl rfl rfl (by kernel_rfl) Try.func13 (by kernel_rfl)
    (of_decide_eq_true (by kernel_rfl)) (by unfold Func.isWrapper; first | (rw [if_pos (by decide +kernel)]; kernel_rfl) | (rw [if_neg (by decide +kernel)]; exact ⟨rfl, rfl⟩))
    (fun os started H enc _ => lifted_MemNone os started H enc)

end Go.Proofs.Ytnhopdimhppnmaa
