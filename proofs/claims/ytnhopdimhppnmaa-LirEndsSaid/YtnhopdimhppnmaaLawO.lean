/- The statement LirEnds of layer 15: it returns true for all inputs. -/
import Derived.Test.YtnhopdimhppnmaaRows
import Derived.Test.YtnhopdimhppnmaaLirH
import Derived.Test.YtnhopdimhppnmaaLawN
-- theorem own and theorem laidOut stand in LawN
namespace Go.Proofs.Ytnhopdimhppnmaa
open Go Go.RowKit Go.ChangeShapes Go.WideShapes Go.ChangeAt
set_option linter.unusedVariables false

theorem ends_len {l P : _} (h : endsS l = some P) : P.length = l.length := (ends_back h).1

set_option maxRecDepth 100000 in
set_option maxHeartbeats 1000000 in
theorem ends_law_none (w : World) (a0 : Option Addr) (c0 : Nat) (l0 t : List Q5) (w0 : L5In w a0 l0 c0) (ht : t = l0.take 60) (he : endsS t = none) :
    Calls Try.prog 8 #[.slice a0 l0.length c0] w fun e w' => e = .returned (.bool true) ∧ Below w.heap.size w w' := by
  have HT := Lib.hid ht
  have HE := Lib.hid he
  clear ht he
  go_enter Try.func8, Try.ntmps8
  go_wp2_with fail
  refine (fewL_at a0 c0 l0 t w w0 HT.out).mono ?_
  rintro e w1 ⟨a1, c1, rfl, s1, b1⟩
  go_wp2_with fail
  refine (ends_any a1 c1 t w1 s1).mono ?_
  unfold EndsPost
  rw [HE.out]
  rintro e w2 ⟨rfl, b2⟩
  have s2 := s1.later b2
  go_wp2_with fail
  refine (rends_any a1 c1 t w2 s2).mono ?_
  unfold REndsPost
  rw [HE.out]
  rintro e w3 ⟨⟨v3, rfl, o3⟩, b3⟩
  obtain ⟨a3, c3, rfl, i3⟩ := own_i o3 (by simp)
  clear o3
  go_wp2_with fail
  refine (ints_eq none a3 0 c3 [] w3 ⟨by simp, Or.inl rfl⟩ i3).mono ?_
  rintro e w4 ⟨rfl, b4⟩
  replace b4 := below_draw b4
  go_wp2_with fail
  go_loop [7] (fun i => i = .int .i64 0) (fun i => 0)
  case atStart => rfl
  case round =>
    subst hrel
    go_wp2_with fail
    refine (law15_lives w4).mono ?_
    rintro e w5 ⟨rfl, b5⟩
    go_wp2_with fail
    go_ret
    exact ⟨rfl, bt (bt (bt (bt b1 b2) b3) b4) b5⟩

set_option maxRecDepth 100000 in
set_option maxHeartbeats 1000000 in
theorem ends_law_some (w : World) (a0 : Option Addr) (c0 : Nat) (l0 t : List Q5) (P : List Int) (w0 : L5In w a0 l0 c0) (ht : t = l0.take 60) (he : endsS t = some P) :
    Calls Try.prog 8 #[.slice a0 l0.length c0] w fun e w' => e = .returned (.bool true) ∧ Below w.heap.size w w' := by
  obtain ⟨hPt, hback⟩ := ends_back he
  have hP60 : P.length ≤ 60 := by rw [hPt, ht]; simp; omega
  have HBK := Lib.hid hback
  have HT := Lib.hid ht
  have HE := Lib.hid he
  clear ht he hPt hback
  go_enter Try.func8, Try.ntmps8
  go_wp2_with fail
  refine (fewL_at a0 c0 l0 t w w0 HT.out).mono ?_
  rintro e w1 ⟨a1, c1, rfl, s1, b1⟩
  go_wp2_with fail
  refine (ends_any a1 c1 t w1 s1).mono ?_
  unfold EndsPost
  rw [HE.out]
  rintro e w2 ⟨⟨v2, rfl, o2⟩, b2⟩
  obtain ⟨a2, c2, rfl, i2⟩ := own_i o2 (by omega)
  have s2 := s1.later b2
  clear o2
  go_wp2_with fail
  refine (rends_any a1 c1 t w2 s2).mono ?_
  unfold REndsPost
  rw [HE.out]
  rintro e w3 ⟨⟨v3, rfl, o3⟩, b3⟩
  obtain ⟨a3, c3, rfl, i3⟩ := own_i o3 (by omega)
  replace i2 := i2.later b3
  clear o3
  go_wp2_with fail
  refine (ints_eq a2 a3 c2 c3 P w3 i2 i3).mono ?_
  rintro e w4 ⟨rfl, b4⟩
  replace b4 := below_draw b4
  have I4 := Lib.hid (i2.later b4)
  have HB := Lib.hid (bt (bt (bt b1 b2) b3) b4)
  clear i2 i3 s1 s2 b1 b2 b3 b4
  go_wp2_with fail
  go_loop [7] (fun i => ∃ k : Nat, k ≤ P.length ∧ i = .int .i64 k) (fun i => P.length - (intOf i).toNat)
  case atStart => exact ⟨0, Nat.zero_le _, rfl⟩
  case round =>
    obtain ⟨k, hk, rfl⟩ := hrel
    by_cases hlt : k < P.length
    · obtain ⟨z, hz⟩ := lookup hlt
      obtain ⟨_, hnil | ⟨bb, off, rfl, hbb, hc⟩⟩ := I4.out
      · rw [hnil] at hlt; simp at hlt
      have c1' := hc k z hz
      by_cases h0 : 0 ≤ z
      · obtain ⟨K, rfl, hK, hPK⟩ := HBK.out k z hz h0
        have c2' := hc K k hPK
        have tt : ((k : Int) != (k : Int)) = false := by simp
        clear hc hz hPK h0
        go_wp2_with fail
        exact ⟨⟨k + 1, by omega, by go_num⟩, by simp [intOf]; omega⟩
      · clear hc hz
        go_wp2_with fail
        exact ⟨⟨k + 1, by omega, by go_num⟩, by simp [intOf]; omega⟩
    · obtain rfl : k = P.length := by omega
      clear hlt
      go_wp2_with fail
      refine (law15_lives w4).mono ?_
      rintro e w5 ⟨rfl, b5⟩
      have HB5 := Lib.hid (bt HB.out b5)
      clear b5
      go_wp2_with fail
      go_ret
      exact ⟨rfl, HB5.out⟩

theorem walk_LirEnds (w : World) (a0 : Option Addr) (c0 : Nat) (l0 : List Q5) (w0 : L5In w a0 l0 c0) :
    Calls Try.prog 8 #[.slice a0 l0.length c0] w fun e w' => e = .returned (.bool true) ∧ Below w.heap.size w w' := by
  cases he : endsS (l0.take 60) with
  | none => exact ends_law_none w a0 c0 l0 _ w0 rfl he
  | some P => exact ends_law_some w a0 c0 l0 _ P w0 rfl he

set_option maxRecDepth 100000 in
theorem lifted_LirEnds (os : Os) (started : os.Started) (H : Type) (enc : TypeId × Value → H) :
    ReturnsInHanded {} Try.checked os 8 .any (Rows.lirEndsSpec.pre6 enc Try.prog Try.f8 Rows.lirEndsRow.domain false) (Rows.lirEndsSpec.post enc Try.prog Try.f8 false true false false) := by
  refine returnsInHanded_of_change (C := Try.checked) own started (by kernel_rfl) Try.func8
    (ChangeSpec.witness6 (enc := enc) (C := Try.checked) false ⟨#[], #[.slice none 0 0], []⟩ 8 (by kernel_rfl) (by kernel_rfl) (by kernel_rfl) (by kernel_rfl)) ?_
  intro W base args ds gs before hval0 hW hcnd _
  have hval : ∀ (j : Nat) t v, Try.f8.params[j]? = some t → args[j]? = some v → Value.okWide Try.prog W .any base t v := hval0
  have hW' := hW
  obtain ⟨p, q, hA0, hV, rfl, hfz, hnd⟩ := hW
  have hA : DataW.TrodAll enc Try.prog W 0 (fun _ => true) true Try.f8.params.toList args.toList ds p := hA0
  rw [Try.params8] at hA hval
  obtain ⟨v0, vs0, d0, ds0, p0, q0, hargs, rfl, rfl, h0, r0⟩ := trodAll_cons hA
  obtain ⟨rfl, rfl, rfl⟩ := trodAll_nil r0
  obtain rfl : args = #[v0] := by cases args; simp_all
  obtain ⟨rfl, rfl⟩ := trodVars_none hV
  have k0 := h0
  have lt0 : ∀ x ∈ p0, x.block < W.heap.size := by obtain ⟨m, hm⟩ := k0; exact DataW.trod_lt m _ _ _ hm
  obtain ⟨a0, c0, l0, rfl, w0⟩ := lop_in (hval 0 38 v0 rfl rfl) h0
  clear hA0 hval0
  refine (walk_LirEnds W a0 c0 l0 w0).mono fun e W' ⟨he, bel⟩ => ?_
  subst he
  exact ⟨_, rfl, _, _, _, [], _, [], hW', trodAll_mk1 (shut_bool Try.underlying4 _), (trodAll_cons_mk (Below.trod laidOut (by kernel_rfl) (of_decide_eq_true (by kernel_rfl)) k0 bel lt0) trodAll_mk0), rfl, bel.frame _, fun h => by cases h⟩

theorem holds_LirEnds : Rows.LirEndsSaid :=
  OpenClaim.holds_of_wide 8 Try.f8 rfl rfl rfl rfl rfl rfl rfl ⟨rfl, rfl, rfl, rfl, rfl⟩ rfl rfl rfl rfl rfl (by kernel_rfl) Try.func8 (by kernel_rfl)
    (of_decide_eq_true (by kernel_rfl)) (by unfold Func.isWrapper; first | (rw [if_pos (by decide +kernel)]; kernel_rfl) | (rw [if_neg (by decide +kernel)]; exact ⟨rfl, rfl⟩))
    (fun os started H enc _ => lifted_LirEnds os started H enc)

end Go.Proofs.Ytnhopdimhppnmaa
