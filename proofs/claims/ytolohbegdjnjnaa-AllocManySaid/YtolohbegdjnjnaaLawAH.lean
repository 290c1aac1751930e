/- The statement AllocHomes of layer 17: it returns true for all inputs. -/
import Derived.Test.YtolohbegdjnjnaaRows
import Derived.Test.YtolohbegdjnjnaaAhV
import Derived.Test.YtolohbegdjnjnaaLawAW
import Derived.Laws.StructEq
-- theorem own and theorem laidOut stand in LawAW
namespace Go.Proofs.Ytolohbegdjnjnaa
open Go Go.RowKit Go.ChangeShapes Go.WideShapes Go.ChangeAt
set_option linter.unusedVariables false

theorem slots_eq (l : List Q5) : slotsS l = (varsS l).length - 20 := slots_same (weighS l) (varsS_rising l)
set_option maxRecDepth 100000 in
set_option maxHeartbeats 4000000 in
theorem ahs_a (w : World) (a0 : Option Addr) (c0 : Nat) (l0 t : List Q5) (w0 : L5In w a0 l0 c0) (ht : t = l0.take 60) (he : t = []) :
    Calls Try.prog 7 #[.slice a0 l0.length c0] w fun e w' => e = .returned (.bool true) ∧ Below w.heap.size w w' := by
  have HT := Lib.hid ht
  have hll : t.length ≤ 60 := by rw [ht, List.length_take]; omega
  have WF := Lib.hid (wf_take w0.2.2.1 ht)
  have W0 := Lib.hid w0
  have HEM := Lib.hid he
  obtain ⟨i0, hi0, hz0, hz1, hz2⟩ := info_parts info_lopF
  clear ht w0 he
  go_enter Try.func7, Try.ntmps7
  go_wp2_with fail
  refine (fewL_at a0 c0 l0 t w W0.out HT.out).mono ?_
  rintro e w4 ⟨a3, c3, rfl, s3, b3⟩
  have S4 := Lib.hid s3
  have B4 := Lib.hid b3
  clear s3 b3
  have OWN0 := Lib.hid (own_emptyL w4)
  have BL0 := Lib.hid ((Below.refl w4.heap.size w4).alloc (Nat.le_refl _) (.cells #[] 45))
  have HL0 := Lib.hid (show t.length = 0 by rw [HEM.out]; rfl)
  go_wp2_with (at_builtin; refine appendZero rfl (.tmp 13) (.tmp 14) 22 rfl 45 i0 _ Try.underlying22 hi0 hz0 w4.heap.size rfl a3 c3 (show Value.slice a3 t.length c3 = Value.slice a3 0 c3 by rw [HL0.out]) ?_)
  have S7 := Lib.hid (show L5 (w4.alloc (.cells #[] 45)) (some ⟨w4.heap.size, 0, none⟩) t by rw [HEM.out]; exact ⟨by simp, .inl rfl⟩)
  have B47 := Lib.hid BL0.out
  generalize w4.alloc (.cells #[] 45) = w7 at *
  clear OWN0 BL0
  obtain ⟨g5, hg5⟩ : ∃ g5, w4.heap.size = g5 := ⟨_, rfl⟩
  rw [hg5] at S7 ⊢
  obtain ⟨c5, hc5⟩ : ∃ c5, c5 = 0 := ⟨_, rfl⟩
  rw [show (Value.slice (some ⟨g5, 0, none⟩) 0 0) = Value.slice (some ⟨g5, 0, none⟩) t.length c5 by rw [HL0.out, hc5]]
  clear hc5 hg5
  have B7 := Lib.hid (bt17 B4.out B47.out)
  have S37 := Lib.hid (S4.out.later B47.out)
  clear B47
  by_cases hc : checkS t = 0
  · refine (homes_any _ c5 t w7 S7.out hc).mono ?_
    rintro e w8 ⟨g8, rfl, r8, b8⟩
    have R8 := Lib.hid r8
    have B8 := Lib.hid (bt17 B7.out b8)
    have S8 := Lib.hid (S37.out.later b8)
    have SE := slots_eq t
    have HC := Lib.hid hc
    obtain ⟨ns, hns⟩ : ∃ n, n = (varsS t).length - 20 := ⟨_, rfl⟩
    rw [← hns] at SE ⊢
    have RHE := Lib.hid (fun W (h : L5 W a3 t) => rhomes_any a3 c3 t W h WF.out)
    unfold RHomesPost at RHE
    rw [SE] at RHE
    obtain ⟨H, hH⟩ : ∃ H, H = homesS t := ⟨_, rfl⟩
    rw [← hH] at R8 RHE
    clear r8 b8 hns SE hH
    go_wp2_with fail
    refine (rcheck_any a3 c3 t w8 S8.out WF.out).mono ?_
    rw [hc]
    clear hc
    rintro e w9 ⟨rfl, b9⟩
    have R9 := Lib.hid (hrow_later R8.out b9)
    have B9 := Lib.hid (bt17 B8.out b9)
    have S9 := Lib.hid (S8.out.later b9)
    clear b9
    go_wp2_with fail
    refine (RHE.out w9 S9.out).mono ?_
    rintro e wa ⟨ga, rfl, ra, ba⟩
    have RA := Lib.hid ra
    have RB := Lib.hid (hrow_later R9.out ba)
    have BA := Lib.hid (bt17 B9.out ba)
    clear ra ba
    go_wp2_with fail
    go_loopw [9] (fun i wr => ∃ (k : Nat), k ≤ 64 ∧ i = .int .i64 k ∧ Below wa.heap.size wa wr) (fun i _ => 64 - (intOf i).toNat)
    case atStart => exact ⟨0, by omega, rfl, Below.refl _ _⟩
    case round =>
      obtain ⟨k, hk, rfl, hb⟩ := hrel
      have HB := Lib.hid hb
      by_cases hlt : k < 64
      · obtain ⟨p0, _, pl⟩ := RA.out.at (j := k * 2) (by omega)
        obtain ⟨p1, _, _⟩ := RA.out.at (j := k * 2 + 1) (by omega)
        obtain ⟨q0, _, ql⟩ := RB.out.at (j := k * 2) (by omega)
        obtain ⟨q1, _, _⟩ := RB.out.at (j := k * 2 + 1) (by omega)
        obtain ⟨x, hx⟩ : ∃ x, x = H.getD (k * 2) 0 := ⟨_, rfl⟩
        obtain ⟨y, hy⟩ : ∃ x, x = H.getD (k * 2 + 1) 0 := ⟨_, rfl⟩
        rw [← hx] at p0 q0
        rw [← hy] at p1 q1
        have c0 := (hb.cell (p := ⟨ga, k * 2, none⟩) pl).trans p0
        have c1 := (hb.cell (p := ⟨ga, k * 2 + 1, none⟩) pl).trans p1
        have d0 := (hb.cell (p := ⟨g8, k * 2, none⟩) ql).trans q0
        have d1 := (hb.cell (p := ⟨g8, k * 2 + 1, none⟩) ql).trans q1
        have HD := Lib.hid hb.drew
        have tl : decide ((k : Int) < 64) = true := by simp; omega
        clear hx hy p0 p1 q0 q1 hb
        go_wp2_with fail
        go_region
        go_wp2_with fail
        refine ⟨⟨k + 1, by omega, by simp, HD.out⟩, by simp [intOf]; omega⟩
      · obtain rfl : k = 64 := by omega
        have BC := Lib.hid (bt17 BA.out HB.out)
        go_wp2_with fail
        refine (lives17 _).mono ?_
        rintro e wb ⟨rfl, bb⟩
        have BB := Lib.hid (bt17 BC.out bb)
        clear bb
        go_wp2_with fail
        go_ret
        exact ⟨rfl, BB.out⟩
  · refine (homes_bad _ c5 t w7 S7.out hc).mono ?_
    rintro e w8 ⟨rfl, b8⟩
    have B8 := Lib.hid (bt17 B7.out b8)
    have S8 := Lib.hid (S37.out.later b8)
    obtain ⟨q, hq⟩ : ∃ q, q = checkS t := ⟨_, rfl⟩
    have CK := Lib.hid (rcheck_any a3 c3 t w8 S8.out WF.out)
    rw [← hq] at hc CK ⊢
    have tc : (q != 0) = true := by simpa using hc
    have tq : (q == q) = true := by simp
    clear b8 hq
    go_wp2_with fail
    refine CK.out.mono ?_
    rintro e w9 ⟨rfl, b9⟩
    have B9 := Lib.hid (bt17 B8.out b9)
    clear b9
    go_wp2_with fail
    refine (lives17 _).mono ?_
    rintro e wb ⟨rfl, bb⟩
    have BB := Lib.hid (bt17 B9.out bb)
    clear bb
    go_wp2_with fail
    go_ret
    exact ⟨rfl, BB.out⟩

set_option maxRecDepth 100000 in
set_option maxHeartbeats 4000000 in
theorem ahs_b (w : World) (a0 : Option Addr) (c0 : Nat) (l0 t : List Q5) (w0 : L5In w a0 l0 c0) (ht : t = l0.take 60) (he : t ≠ []) :
    Calls Try.prog 7 #[.slice a0 l0.length c0] w fun e w' => e = .returned (.bool true) ∧ Below w.heap.size w w' := by
  have HT := Lib.hid ht
  have hll : t.length ≤ 60 := by rw [ht, List.length_take]; omega
  have WF := Lib.hid (wf_take w0.2.2.1 ht)
  have W0 := Lib.hid w0
  have HEM := Lib.hid he
  obtain ⟨i0, hi0, hz0, hz1, hz2⟩ := info_parts info_lopF
  clear ht w0 he
  go_enter Try.func7, Try.ntmps7
  go_wp2_with fail
  refine (fewL_at a0 c0 l0 t w W0.out HT.out).mono ?_
  rintro e w4 ⟨a3, c3, rfl, s3, b3⟩
  have S4 := Lib.hid s3
  have B4 := Lib.hid b3
  clear s3 b3
  have OWN0 := Lib.hid (own_emptyL w4)
  have BL0 := Lib.hid ((Below.refl w4.heap.size w4).alloc (Nat.le_refl _) (.cells #[] 45))
  obtain ⟨b1, off, rfl, hb1w, hflat⟩ : ∃ b1 off, a3 = some ⟨b1, off, none⟩ ∧ b1 < w4.heap.size ∧ ∀ j u, (flat t)[j]? = some u → w4.cell? ⟨b1, off + j, none⟩ = some u := by
    obtain ⟨_, h | ⟨b1, off, h1, h2, h3⟩⟩ := S4.out
    · exact absurd h HEM.out
    · exact ⟨b1, off, h1, h2, flat_of h3⟩
  have NEWS := Lib.hid (show ∀ j u, (flat t)[j]? = some u → (w4.alloc (.cells #[] 45)).cell? ((⟨b1, off, none⟩ : Addr).add j) = some u from fun j u hj => by
    rw [add_at]
    exact (BL0.out.cell (p := ⟨b1, off + j, none⟩) hb1w).trans (hflat j u hj))
  have LNF := Lib.hid (flat_len t)
  have ONEF := Lib.hid (flat_one t)
  have MX := Lib.hid (show 0 + t.length ≤ maxLen by unfold maxLen; omega)
  have MXB := Lib.hid (show (0 + t.length) * 40 ≤ 140737488355328 by omega)
  have SZ := Lib.hid (show w4.heap.size ≤ (w4.alloc (.cells #[] 45)).heap.size by simp)
  clear hflat
  go_wp2_with (at_builtin; refine wpList_append_own _ rfl (.tmp 13) (.tmp 14) 22 rfl w4.heap.size 45 i0 (.agg #[.int .i64 0, .int .i64 0, .int .i64 0, .int .i64 0, .int .i32 0]) 5 40 Try.underlying22 hi0 hz0 hz1 hz2 rfl (by decide) (.slice (some ⟨w4.heap.size, 0, none⟩) 0 0) 0 [] rfl OWN0.out ⟨b1, off, none⟩ t.length c3 (flat t) rfl LNF.out NEWS.out ONEF.out MX.out MXB.out SZ.out ?_; intro v5 w7 hown hgrow hn7; obtain ⟨g5, c5, rfl, hG5, hL5⟩ := l5_put hown HEM.out (by omega); have S7 := Lib.hid hL5; have B47 := Lib.hid (BL0.out.grown hgrow BL0.out.size (fun k hk => by cases hk; exact Nat.le_refl _)); clear hown hgrow hn7 hL5 hG5)
  clear OWN0 BL0 NEWS SZ
  have B7 := Lib.hid (bt17 B4.out B47.out)
  have S37 := Lib.hid (S4.out.later B47.out)
  clear B47
  by_cases hc : checkS t = 0
  · refine (homes_any _ c5 t w7 S7.out hc).mono ?_
    rintro e w8 ⟨g8, rfl, r8, b8⟩
    have R8 := Lib.hid r8
    have B8 := Lib.hid (bt17 B7.out b8)
    have S8 := Lib.hid (S37.out.later b8)
    have SE := slots_eq t
    have HC := Lib.hid hc
    obtain ⟨ns, hns⟩ : ∃ n, n = (varsS t).length - 20 := ⟨_, rfl⟩
    rw [← hns] at SE ⊢
    have RHE := Lib.hid (fun W (h : L5 W (some ⟨b1, off, none⟩) t) => rhomes_any (some ⟨b1, off, none⟩) c3 t W h WF.out)
    unfold RHomesPost at RHE
    rw [SE] at RHE
    obtain ⟨H, hH⟩ : ∃ H, H = homesS t := ⟨_, rfl⟩
    rw [← hH] at R8 RHE
    clear r8 b8 hns SE hH
    go_wp2_with fail
    refine (rcheck_any (some ⟨b1, off, none⟩) c3 t w8 S8.out WF.out).mono ?_
    rw [hc]
    clear hc
    rintro e w9 ⟨rfl, b9⟩
    have R9 := Lib.hid (hrow_later R8.out b9)
    have B9 := Lib.hid (bt17 B8.out b9)
    have S9 := Lib.hid (S8.out.later b9)
    clear b9
    go_wp2_with fail
    refine (RHE.out w9 S9.out).mono ?_
    rintro e wa ⟨ga, rfl, ra, ba⟩
    have RA := Lib.hid ra
    have RB := Lib.hid (hrow_later R9.out ba)
    have BA := Lib.hid (bt17 B9.out ba)
    clear ra ba
    go_wp2_with fail
    go_loopw [9] (fun i wr => ∃ (k : Nat), k ≤ 64 ∧ i = .int .i64 k ∧ Below wa.heap.size wa wr) (fun i _ => 64 - (intOf i).toNat)
    case atStart => exact ⟨0, by omega, rfl, Below.refl _ _⟩
    case round =>
      obtain ⟨k, hk, rfl, hb⟩ := hrel
      have HB := Lib.hid hb
      by_cases hlt : k < 64
      · obtain ⟨p0, _, pl⟩ := RA.out.at (j := k * 2) (by omega)
        obtain ⟨p1, _, _⟩ := RA.out.at (j := k * 2 + 1) (by omega)
        obtain ⟨q0, _, ql⟩ := RB.out.at (j := k * 2) (by omega)
        obtain ⟨q1, _, _⟩ := RB.out.at (j := k * 2 + 1) (by omega)
        obtain ⟨x, hx⟩ : ∃ x, x = H.getD (k * 2) 0 := ⟨_, rfl⟩
        obtain ⟨y, hy⟩ : ∃ x, x = H.getD (k * 2 + 1) 0 := ⟨_, rfl⟩
        rw [← hx] at p0 q0
        rw [← hy] at p1 q1
        have c0 := (hb.cell (p := ⟨ga, k * 2, none⟩) pl).trans p0
        have c1 := (hb.cell (p := ⟨ga, k * 2 + 1, none⟩) pl).trans p1
        have d0 := (hb.cell (p := ⟨g8, k * 2, none⟩) ql).trans q0
        have d1 := (hb.cell (p := ⟨g8, k * 2 + 1, none⟩) ql).trans q1
        have HD := Lib.hid hb.drew
        have tl : decide ((k : Int) < 64) = true := by simp; omega
        clear hx hy p0 p1 q0 q1 hb
        go_wp2_with fail
        go_region
        go_wp2_with fail
        refine ⟨⟨k + 1, by omega, by simp, HD.out⟩, by simp [intOf]; omega⟩
      · obtain rfl : k = 64 := by omega
        have BC := Lib.hid (bt17 BA.out HB.out)
        go_wp2_with fail
        refine (lives17 _).mono ?_
        rintro e wb ⟨rfl, bb⟩
        have BB := Lib.hid (bt17 BC.out bb)
        clear bb
        go_wp2_with fail
        go_ret
        exact ⟨rfl, BB.out⟩
  · refine (homes_bad _ c5 t w7 S7.out hc).mono ?_
    rintro e w8 ⟨rfl, b8⟩
    have B8 := Lib.hid (bt17 B7.out b8)
    have S8 := Lib.hid (S37.out.later b8)
    obtain ⟨q, hq⟩ : ∃ q, q = checkS t := ⟨_, rfl⟩
    have CK := Lib.hid (rcheck_any (some ⟨b1, off, none⟩) c3 t w8 S8.out WF.out)
    rw [← hq] at hc CK ⊢
    have tc : (q != 0) = true := by simpa using hc
    have tq : (q == q) = true := by simp
    clear b8 hq
    go_wp2_with fail
    refine CK.out.mono ?_
    rintro e w9 ⟨rfl, b9⟩
    have B9 := Lib.hid (bt17 B8.out b9)
    clear b9
    go_wp2_with fail
    refine (lives17 _).mono ?_
    rintro e wb ⟨rfl, bb⟩
    have BB := Lib.hid (bt17 B9.out bb)
    clear bb
    go_wp2_with fail
    go_ret
    exact ⟨rfl, BB.out⟩

theorem walk_AllocHomes (w : World) (a0 : Option Addr) (c0 : Nat) (l0 : List Q5) (w0 : L5In w a0 l0 c0) :
    Calls Try.prog 7 #[.slice a0 l0.length c0] w fun e w' => e = .returned (.bool true) ∧ Below w.heap.size w w' := by
  by_cases h : l0.take 60 = []
  · exact ahs_a w a0 c0 l0 _ w0 rfl h
  · exact ahs_b w a0 c0 l0 _ w0 rfl h

set_option maxRecDepth 100000 in
theorem lifted_AllocHomes (os : Os) (started : os.Started) (H : Type) (enc : TypeId × Value → H) :
    ReturnsInHanded {} Try.checked os 7 .any (Rows.allocHomesSpec.pre6 enc Try.prog Try.f7 Rows.allocHomesRow.domain false) (Rows.allocHomesSpec.post enc Try.prog Try.f7 false true false false) := by
  refine returnsInHanded_of_change (C := Try.checked) own started (by kernel_rfl) Try.func7
    (ChangeSpec.witness6 (enc := enc) (C := Try.checked) false ⟨#[], #[.slice none 0 0], []⟩ 8 (by kernel_rfl) (by kernel_rfl) (by kernel_rfl) (by kernel_rfl)) ?_
  intro W base args ds gs before hval0 hW hcnd _
  have hval : ∀ (j : Nat) t v, Try.f7.params[j]? = some t → args[j]? = some v → Value.okWide Try.prog W .any base t v := hval0
  have hW' := hW
  obtain ⟨p, q, hA0, hV, rfl, hfz, hnd⟩ := hW
  have hA : DataW.TrodAll enc Try.prog W 0 (fun _ => true) true Try.f7.params.toList args.toList ds p := hA0
  rw [Try.params7] at hA hval
  obtain ⟨v0, vs0, d0, ds0, p0, q0, hargs, rfl, rfl, h0, r0⟩ := trodAll_cons hA
  obtain ⟨rfl, rfl, rfl⟩ := trodAll_nil r0
  obtain rfl : args = #[v0] := by cases args; simp_all
  obtain ⟨rfl, rfl⟩ := trodVars_none hV
  have k0 := h0
  have lt0 : ∀ x ∈ p0, x.block < W.heap.size := by obtain ⟨m, hm⟩ := k0; exact DataW.trod_lt m _ _ _ hm
  obtain ⟨a0, c0, l0, rfl, w0⟩ := lop_in (hval 0 22 v0 rfl rfl) h0
  clear hA0 hval0
  refine (walk_AllocHomes W a0 c0 l0 w0).mono fun e W' ⟨he, bel⟩ => ?_
  subst he
  exact ⟨_, rfl, _, _, _, [], _, [], hW', trodAll_mk1 (shut_bool Try.underlying4 _), (trodAll_cons_mk (Below.trod laidOut (by kernel_rfl) (of_decide_eq_true (by kernel_rfl)) k0 bel lt0) trodAll_mk0), rfl, bel.frame _, fun h => by cases h⟩

theorem holds_AllocHomes : Rows.AllocHomesSaid :=
  OpenClaim.holds_of_wide 7 Try.f7 rfl rfl rfl rfl rfl rfl rfl ⟨rfl, rfl, rfl, rfl, rfl⟩ rfl rfl rfl rfl rfl (by kernel_rfl) Try.func7 (by kernel_rfl)
    (of_decide_eq_true (by kernel_rfl)) (by unfold Func.isWrapper; first | (rw [if_pos (by decide +kernel)]; kernel_rfl) | (rw [if_neg (by decide +kernel)]; exact ⟨rfl, rfl⟩))
    (fun os started H enc _ => lifted_AllocHomes os started H enc)

end Go.Proofs.Ytolohbegdjnjnaa
