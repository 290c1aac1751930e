/- The statement of layer 30 on where blocks lie: it returns true for all inputs. -/
import Derived.Test.YtmmhoemddfncmaaBkIn
import Derived.Test.YtmmhoemddfncmaaArF
import Derived.Test.YtmmhoemddfncmaaInts
namespace Go.Proofs.Ytmmhoemddfncmaa
open Go Go.RowKit Go.ChangeShapes Go.WideShapes Go.ChangeAt
set_option linter.unusedVariables false

theorem srow_iat {w : World} {base G c n : Nat} {xs : List Int} (h : SRow w base G c n xs) (hn : n ≤ 1000000000000) : IAt w (some ⟨G, 0, none⟩) xs := by
  refine ⟨by rw [h.1]; exact hn, ?_⟩
  by_cases h0 : xs = []
  · exact .inl h0
  · have hp : 0 < n := by rw [← h.1]; exact List.length_pos_iff.mpr h0
    refine .inr ⟨G, 0, rfl, (h.at hp).2.2, fun k x hx => ?_⟩
    have hk : k < n := by
      rcases Nat.lt_or_ge k n with g | g
      · exact g
      · rw [List.getElem?_eq_none (by rw [h.1]; exact g)] at hx; cases hx
    have := (h.at hk).1
    rw [List.getD_eq_getElem?_getD, hx] at this
    rw [Nat.zero_add]
    exact this
theorem b3_nil (w : World) (H : Nat) : B3 w (some ⟨H, 0, none⟩) [] := ⟨by simp, .inl rfl⟩
theorem bdn {w a : World} {n : Nat} (h : Below w.heap.size w a) : Below w.heap.size w (a.drewN n) := below_dN h ()

set_option maxRecDepth 100000 in
set_option maxHeartbeats 4000000 in
theorem walk_ArenaFits (w : World) (a0 : Option Addr) (c0 : Nat) (l0 : List Q3) (w0 : B3In w a0 l0 c0) :
    Calls Try.prog 3 #[.slice a0 l0.length c0] w fun e w' => e = .returned (.bool true) ∧ Below w.heap.size w w' := by
  obtain ⟨t, ht⟩ : ∃ t, t = l0.take 30 := ⟨_, rfl⟩
  have FB := Lib.hid (show Calls Try.prog 7 #[.slice a0 l0.length c0] w (FewB w t) by rw [ht]; exact fewB_any a0 c0 l0 w w0)
  have hn30 : t.length ≤ 30 := by rw [ht, List.length_take]; omega
  obtain ⟨i0, hi, hz0, hz1, hz2⟩ := info_parts info_bk
  clear ht
  go_enter Try.func3, Try.ntmps3
  go_wp2_with fail
  refine FB.out.mono ?_
  rintro e w1 ⟨v, rfl, own, b1⟩
  have HB1 := Lib.hid b1
  have OW := Lib.hid own
  have L3 := Lib.hid (flat3_len t)
  have LT := Lib.hid hn30
  have OWN0 := Lib.hid (own_emptyB w1)
  have BA := Lib.hid (show Below w1.heap.size w1 (w1.alloc (.cells #[] 33)) from (Below.refl _ _).alloc (Nat.le_refl _) _)
  obtain ⟨_, ⟨hv, hn⟩ | ⟨g1, cap1, cur, hv, hg1, _⟩⟩ := own
  · obtain rfl : t = [] := List.eq_nil_of_length_eq_zero hn
    subst hv
    have HB2 := Lib.hid (bt HB1.out BA.out)
    have S2 := Lib.hid (b3_nil (w1.alloc (.cells #[] 33)) w1.heap.size)
    have T2 := Lib.hid (show B3 (w1.alloc (.cells #[] 33)) none [] from ⟨by simp, .inl rfl⟩)
    have hm : mayL [] = true := rfl
    clear w0 b1 hn
    go_wp2_with fail
    refine (fit_yes _ _ ([] : List Q3) _ S2.out hm).mono ?_
    rintro e w3 ⟨g, rfl, row, b3⟩
    have HB3 := Lib.hid (bt HB2.out b3)
    have T3 := Lib.hid (T2.out.later b3)
    have RW := Lib.hid row
    have MY := rmay_any none 0 ([] : List Q3) w3 T3.out
    rw [hm] at MY
    have MY := Lib.hid MY
    clear b3 row
    go_wp2_with fail
    refine MY.out.mono ?_
    rintro e w4 ⟨rfl, n4, rfl⟩
    have B4 := Lib.hid (show Below w3.heap.size w3 (w3.drewN n4) from below_dN (Below.refl _ _) ())
    have HB4 := Lib.hid (bt HB3.out B4.out)
    have R4 := Lib.hid (srow_later RW.out B4.out)
    have T4 := Lib.hid (T3.out.later B4.out)
    clear MY RW T3 B4
    generalize w3.drewN n4 = w5 at *
    have RF := Lib.hid (rfit_any none 0 ([] : List Q3) w5 T4.out hm)
    go_wp2_with fail
    refine RF.out.mono ?_
    rintro e w6 ⟨g6, c6, rfl, row6, b6⟩
    have HB6 := Lib.hid (bt HB4.out b6)
    have R6 := srow_later R4.out b6
    have IE := ints_eq (some ⟨g, 0, none⟩) (some ⟨g6, 0, none⟩) ([] : List Q3).length c6 (fitP ([] : List Q3)).1 w6 (srow_iat R6 (by have := LT.out; omega)) (srow_iat row6 (by have := LT.out; omega))
    rw [row6.1] at IE
    have IE := Lib.hid IE
    clear RF row6 b6 R6
    generalize (fitP ([] : List Q3)).2.1 = all at *
    go_wp2_with fail
    refine IE.out.mono ?_
    rintro e w7 ⟨rfl, n7, rfl⟩
    have HB7 := Lib.hid (bdn (n := n7) HB6.out)
    clear IE
    generalize w6.drewN n7 = w8 at *
    go_wp2_with fail
    refine (lives30 w8).mono ?_
    rintro e w9 ⟨rfl, b9⟩
    have HB9 := Lib.hid (bt HB7.out b9)
    clear b9
    go_wp2_with fail
    go_ret
    exact ⟨rfl, HB9.out⟩
  · subst hv
    have own := OW.out
    have gl := (own.lt g1 rfl).2
    have NW := Lib.hid (show ∀ j u, (flat3 t)[j]? = some u → (w1.alloc (.cells #[] 33)).cell? ((⟨g1, 0, none⟩ : Addr).add j) = some u from fun j u h => by have := own.cells (g := g1) rfl j u h; rw [add_at] at this ⊢; exact (World.cell?_alloc_past _ _ _ gl).trans this)
    obtain ⟨a1, c1, e1, s1, hc1, hc2⟩ := b3_own own rfl (by omega)
    obtain ⟨rfl, rfl⟩ : some ⟨g1, 0, none⟩ = a1 ∧ cap1 = c1 := by simpa using e1
    have S1 := Lib.hid s1
    have E1 := Lib.hid (show 0 + t.length ≤ maxLen by simp only [maxLen]; omega)
    have E2 := Lib.hid (show (0 + t.length) * 24 ≤ 140737488355328 by omega)
    clear w0 b1 own s1 e1
    go_wp2_with ((at_builtin; refine wpList_append_own (w1.alloc (.cells #[] 33)) rfl (.tmp 11) (.tmp 12) 22 rfl w1.heap.size 33 i0 (.agg #[.int .i64 0, .int .i64 0, .int .i64 0]) 3 24 Try.underlying22 hi hz0 hz1 hz2 rfl (by decide) (.slice (some ⟨w1.heap.size, 0, none⟩) 0 0) 0 [] rfl OWN0.out ⟨g1, 0, none⟩ t.length cap1 (flat3 t) rfl L3.out NW.out (flat3_one _) E1.out E2.out (by simp) ?_; intro v' w2 hown hg hn))
    have b2 := grown_belowB hg
    have HB2 := Lib.hid (bt HB1.out b2)
    have T2 := Lib.hid (S1.out.later b2)
    obtain ⟨a2, c2, rfl, s2, _, _⟩ := b3_own hown (by omega) (by omega)
    have S2 := Lib.hid s2
    clear hown hg hn b2 s2
    cases hm : mayL t with
    | false =>
      refine (fit_no _ _ t _ S2.out hm).mono ?_
      rintro e w3 ⟨rfl, b3⟩
      have HB3 := Lib.hid (bt HB2.out b3)
      have T3 := Lib.hid (T2.out.later b3)
      have MY := rmay_any (some ⟨g1, 0, none⟩) cap1 t w3 T3.out
      rw [hm] at MY
      have MY := Lib.hid MY
      clear b3
      go_wp2_with fail
      refine MY.out.mono ?_
      rintro e w4 ⟨rfl, n4, rfl⟩
      have HB4 := Lib.hid (bdn (n := n4) HB3.out)
      clear MY T3
      generalize w3.drewN n4 = w5 at *
      go_wp2_with fail
      refine (lives30 w5).mono ?_
      rintro e w9 ⟨rfl, b9⟩
      have HB9 := Lib.hid (bt HB4.out b9)
      clear b9
      go_wp2_with fail
      go_ret
      exact ⟨rfl, HB9.out⟩
    | true =>
      refine (fit_yes _ _ t _ S2.out hm).mono ?_
      rintro e w3 ⟨g, rfl, row, b3⟩
      have HB3 := Lib.hid (bt HB2.out b3)
      have T3 := Lib.hid (T2.out.later b3)
      have RW := Lib.hid row
      have MY := rmay_any (some ⟨g1, 0, none⟩) cap1 t w3 T3.out
      rw [hm] at MY
      have MY := Lib.hid MY
      clear b3 row
      go_wp2_with fail
      refine MY.out.mono ?_
      rintro e w4 ⟨rfl, n4, rfl⟩
      have B4 := Lib.hid (show Below w3.heap.size w3 (w3.drewN n4) from below_dN (Below.refl _ _) ())
      have HB4 := Lib.hid (bt HB3.out B4.out)
      have R4 := Lib.hid (srow_later RW.out B4.out)
      have T4 := Lib.hid (T3.out.later B4.out)
      clear MY RW T3 B4
      generalize w3.drewN n4 = w5 at *
      have RF := Lib.hid (rfit_any (some ⟨g1, 0, none⟩) cap1 t w5 T4.out hm)
      go_wp2_with fail
      refine RF.out.mono ?_
      rintro e w6 ⟨g6, c6, rfl, row6, b6⟩
      have HB6 := Lib.hid (bt HB4.out b6)
      have R6 := srow_later R4.out b6
      have IE := ints_eq (some ⟨g, 0, none⟩) (some ⟨g6, 0, none⟩) t.length c6 (fitP t).1 w6 (srow_iat R6 (by have := LT.out; omega)) (srow_iat row6 (by have := LT.out; omega))
      rw [row6.1] at IE
      have IE := Lib.hid IE
      clear RF row6 b6 R6
      generalize (fitP t).2.1 = all at *
      go_wp2_with fail
      refine IE.out.mono ?_
      rintro e w7 ⟨rfl, n7, rfl⟩
      have HB7 := Lib.hid (bdn (n := n7) HB6.out)
      clear IE
      generalize w6.drewN n7 = w8 at *
      go_wp2_with fail
      refine (lives30 w8).mono ?_
      rintro e w9 ⟨rfl, b9⟩
      have HB9 := Lib.hid (bt HB7.out b9)
      clear b9
      go_wp2_with fail
      go_ret
      exact ⟨rfl, HB9.out⟩

theorem own : ownKnob Try.prog.godebug = none := by kernel_rfl
theorem laidOut : laidOutB Try.prog = true := by kernel_rfl
set_option maxRecDepth 100000 in
theorem lifted_ArenaFits (os : Os) (started : os.Started) (H : Type) (enc : TypeId × Value → H) :
    ReturnsInHanded {} Try.checked os 3 .any (Rows.arenaFitsSpec.pre6 enc Try.prog Try.f3 Rows.arenaFitsRow.domain false) (Rows.arenaFitsSpec.post enc Try.prog Try.f3 false true false false) := by
  refine returnsInHanded_of_change (C := Try.checked) own started (by kernel_rfl) Try.func3
    (ChangeSpec.witness6 (enc := enc) (C := Try.checked) false ⟨#[], #[.slice none 0 0], []⟩ 8 (by kernel_rfl) (by kernel_rfl) (by kernel_rfl) (by kernel_rfl)) ?_
  intro W base args ds gs before hval0 hW hcnd _
  have hval : ∀ (j : Nat) t v, Try.f3.params[j]? = some t → args[j]? = some v → Value.okWide Try.prog W .any base t v := hval0
  have hW' := hW
  obtain ⟨p, q, hA0, hV, rfl, hfz, hnd⟩ := hW
  have hA : DataW.TrodAll enc Try.prog W 0 (fun _ => true) true Try.f3.params.toList args.toList ds p := hA0
  rw [Try.params3] at hA hval
  obtain ⟨v0, vs0, d0, ds0, p0, q0, hargs, rfl, rfl, h0, r0⟩ := trodAll_cons hA
  obtain ⟨rfl, rfl, rfl⟩ := trodAll_nil r0
  obtain rfl : args = #[v0] := by cases args; simp_all
  obtain ⟨rfl, rfl⟩ := trodVars_none hV
  have k0 := h0
  have lt0 : ∀ x ∈ p0, x.block < W.heap.size := by obtain ⟨m, hm⟩ := k0; exact DataW.trod_lt m _ _ _ hm
  obtain ⟨a0, c0, l0, rfl, w0⟩ := block_in (hval 0 22 v0 rfl rfl) h0
  clear hA0 hval0
  refine (walk_ArenaFits W a0 c0 l0 w0).mono fun e W' ⟨he, bel⟩ => ?_
  subst he
  exact ⟨_, rfl, _, _, _, [], _, [], hW', trodAll_mk1 (shut_bool Try.underlying4 _), (trodAll_cons_mk (Below.trod laidOut (by kernel_rfl) (of_decide_eq_true (by kernel_rfl)) k0 bel lt0) trodAll_mk0), rfl, bel.frame _, fun h => by cases h⟩

theorem holds_ArenaFits : Rows.ArenaFitsSaid :=
  OpenClaim.holds_of_wide 3 Try.f3 rfl rfl rfl rfl rfl rfl rfl ⟨rfl, rfl, rfl, rfl, rfl⟩ rfl rfl rfl rfl rfl (by kernel_rfl) Try.func3 (by kernel_rfl)
    (of_decide_eq_true (by kernel_rfl)) (by unfold Func.isWrapper; first | (rw [if_pos (by decide +kernel)]; kernel_rfl) | (rw [if_neg (by decide +kernel)]; exact ⟨rfl, rfl⟩))
    (fun os started H enc _ => lifted_ArenaFits os started H enc)

end Go.Proofs.Ytmmhoemddfncmaa
