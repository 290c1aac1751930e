/- The statement LirVars of layer 15: it returns true for all inputs. -/
import Derived.Test.YtnhopdimhppnmaaRows
import Derived.Test.YtnhopdimhppnmaaVarsR
import Derived.Test.YtnhopdimhppnmaaOpen
namespace Go.Proofs.Ytnhopdimhppnmaa
open Go Go.RowKit Go.ChangeShapes Go.WideShapes Go.ChangeAt
set_option linter.unusedVariables false

theorem lop_in {H : Type} {enc : TypeId × Value → H} {w : World} {r : Reach} {b base : Nat} {spare : Nat → Bool} {held : Bool} {v : Value} {d : DataW H} {p : List MemPlace}
    (hv : Value.okWide Try.prog w r b 38 v) (h : DataW.Trod enc Try.prog w base spare held 38 v d p) : ∃ (a : Option Addr) (c : Nat) (l : List Q5), v = .slice a l.length c ∧ L5In w a l c := by
  refine lops_in Try.underlying38 Try.underlying34 (by kernel_rfl) (by rfl) (by kernel_rfl) ?_ hv h
  intro j f hf
  match j, hf with
  | 0, hf => simp at hf; subst hf; exact Try.underlying3
  | 1, hf => simp at hf; subst hf; exact Try.underlying3
  | 2, hf => simp at hf; subst hf; exact Try.underlying3
  | 3, hf => simp at hf; subst hf; exact Try.underlying3
  | 4, hf => simp at hf; subst hf; exact Try.underlying21
  | j + 5, hf => simp at hf
theorem bt {w a b : World} (h : Below w.heap.size w a) (k : Below a.heap.size a b) : Below w.heap.size w b := h.trans (k.mono h.size)
theorem vars_len (l : List Q5) : (varsS l).length ≤ 1000000000000 := by
  unfold varsS
  rw [List.length_map]
  have := List.length_filter_le (usedT l) (List.range 64)
  simp at this
  omega
theorem wf_take {l t : List Q5} (h : ∀ x ∈ l, x.wf) (ht : t = l.take 60) : ∀ x ∈ t, x.wf := by
  subst ht
  exact fun x hx => h x (List.mem_of_mem_take hx)

set_option maxHeartbeats 400000 in
theorem walk_LirVars (w : World) (a0 : Option Addr) (c0 : Nat) (l0 : List Q5) (w0 : L5In w a0 l0 c0) :
    Calls Try.prog 9 #[.slice a0 l0.length c0] w fun e w' => e = .returned (.bool true) ∧ Below w.heap.size w w' := by
  obtain ⟨t, ht⟩ : ∃ t, t = l0.take 60 := ⟨_, rfl⟩
  have HT := Lib.hid ht
  have WF := Lib.hid (wf_take w0.2.2.1 ht)
  clear ht
  have VL := Lib.hid (vars_len t)
  go_enter Try.func9, Try.ntmps9
  go_wp2_with fail
  refine (fewL_at a0 c0 l0 t w w0 HT.out).mono ?_
  rintro e w1 ⟨a1, c1, rfl, s1, b1⟩
  go_wp2_with fail
  refine (vars_any a1 c1 t w1 s1).mono ?_
  rintro e w2 ⟨v2, rfl, o2, b2⟩
  obtain ⟨a2, c2, rfl, i2⟩ := own_i o2 VL.out
  have s2 := s1.later b2
  clear o2
  go_wp2_with fail
  refine (rvars_any a1 c1 t w2 s2 WF.out).mono ?_
  rintro e w3 ⟨v3, rfl, o3, b3⟩
  obtain ⟨a3, c3, rfl, i3⟩ := own_i o3 VL.out
  replace i2 := i2.later b3
  clear o3
  go_wp2_with fail
  refine (ints_eq a2 a3 c2 c3 _ w3 i2 i3).mono ?_
  rintro e w4 ⟨rfl, b4⟩
  replace b4 := below_draw b4
  go_wp2_with fail
  refine (law15_lives w4).mono ?_
  rintro e w5 ⟨rfl, b5⟩
  go_wp2_with fail
  go_ret
  exact ⟨rfl, bt (bt (bt (bt b1 b2) b3) b4) b5⟩

theorem own : ownKnob Try.prog.godebug = none := by kernel_rfl
theorem laidOut : laidOutB Try.prog = true := by kernel_rfl
set_option maxRecDepth 100000 in
theorem lifted_LirVars (os : Os) (started : os.Started) (H : Type) (enc : TypeId × Value → H) :
    ReturnsInHanded {} Try.checked os 9 .any (Rows.lirVarsSpec.pre6 enc Try.prog Try.f9 Rows.lirVarsRow.domain false) (Rows.lirVarsSpec.post enc Try.prog Try.f9 false true false false) := by
  refine returnsInHanded_of_change (C := Try.checked) own started (by kernel_rfl) Try.func9
    (ChangeSpec.witness6 (enc := enc) (C := Try.checked) false ⟨#[], #[.slice none 0 0], []⟩ 8 (by kernel_rfl) (by kernel_rfl) (by kernel_rfl) (by kernel_rfl)) ?_
  intro W base args ds gs before hval0 hW hcnd _
  have hval : ∀ (j : Nat) t v, Try.f9.params[j]? = some t → args[j]? = some v → Value.okWide Try.prog W .any base t v := hval0
  have hW' := hW
  obtain ⟨p, q, hA0, hV, rfl, hfz, hnd⟩ := hW
  have hA : DataW.TrodAll enc Try.prog W 0 (fun _ => true) true Try.f9.params.toList args.toList ds p := hA0
  rw [Try.params9] at hA hval
  obtain ⟨v0, vs0, d0, ds0, p0, q0, hargs, rfl, rfl, h0, r0⟩ := trodAll_cons hA
  obtain ⟨rfl, rfl, rfl⟩ := trodAll_nil r0
  obtain rfl : args = #[v0] := by cases args; simp_all
  obtain ⟨rfl, rfl⟩ := trodVars_none hV
  have k0 := h0
  have lt0 : ∀ x ∈ p0, x.block < W.heap.size := by obtain ⟨m, hm⟩ := k0; exact DataW.trod_lt m _ _ _ hm
  obtain ⟨a0, c0, l0, rfl, w0⟩ := lop_in (hval 0 38 v0 rfl rfl) h0
  clear hA0 hval0
  refine (walk_LirVars W a0 c0 l0 w0).mono fun e W' ⟨he, bel⟩ => ?_
  subst he
  exact ⟨_, rfl, _, _, _, [], _, [], hW', trodAll_mk1 (shut_bool Try.underlying4 _), (trodAll_cons_mk (Below.trod laidOut (by kernel_rfl) (of_decide_eq_true (by kernel_rfl)) k0 bel lt0) trodAll_mk0), rfl, bel.frame _, fun h => by cases h⟩

theorem holds_LirVars : Rows.LirVarsSaid :=
  OpenClaim.holds_of_wide 9 Try.f9 rfl rfl rfl rfl rfl rfl rfl ⟨rfl, rfl, rfl, rfl, rfl⟩ rfl rfl rfl rfl rfl (by kernel_rfl) Try.func9 (by kernel_rfl)
    (of_decide_eq_true (by kernel_rfl)) (by unfold Func.isWrapper; first | (rw [if_pos (by decide +kernel)]; kernel_rfl) | (rw [if_neg (by decide +kernel)]; exact ⟨rfl, rfl⟩))
    (fun os started H enc _ => lifted_LirVars os started H enc)

end Go.Proofs.Ytnhopdimhppnmaa
