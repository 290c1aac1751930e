/- The statement AllocOne of layer 17: it returns true for all inputs. -/
import Derived.Test.YtolohbegdjnjnaaRows
import Derived.Test.YtolohbegdjnjnaaLawAH
-- theorem own and theorem laidOut stand in LawAW
namespace Go.Proofs.Ytolohbegdjnjnaa
open Go Go.RowKit Go.ChangeShapes Go.WideShapes Go.ChangeAt
set_option linter.unusedVariables false

theorem home_at (l : List Q5) {D : Nat} (hD : D < 64) (hm : (D : Int) ∈ varsS l) :
    (aheadW (weighS l) (varsS l) D < 20 ∧ (homesS l).getD (D * 2) 0 = 5 + (aheadW (weighS l) (varsS l) D : Int) ∧ (homesS l).getD (D * 2 + 1) 0 = 0) ∨
    (20 ≤ aheadW (weighS l) (varsS l) D ∧ (homesS l).getD (D * 2) 0 = 0 ∧ (homesS l).getD (D * 2 + 1) 0 = (aheadW (weighS l) (varsS l) D : Int) - 20) := by
  obtain ⟨h1, h2⟩ := homesD_reg (weighS l) (varsS l) (varsS l) (List.replicate 128 0) D (by simp; omega) (fun v hv => (varsS_in l v hv).1)
  have z : ∀ j, (List.replicate 128 (0 : Int)).getD j 0 = 0 := by
    intro j
    rw [List.getD_eq_getElem?_getD, List.getElem?_replicate]
    split <;> rfl
  unfold homesS
  rw [h1, h2, z, z]
  by_cases h : aheadW (weighS l) (varsS l) D < 20
  · left; simp [hm, h]
  · right; simp [hm, h]; omega

set_option maxRecDepth 100000 in
set_option maxHeartbeats 4000000 in
theorem aos (w : World) (a0 : Option Addr) (c0 : Nat) (l0 t : List Q5) (w0 : L5In w a0 l0 c0) (ht : t = l0.take 60) :
    Calls Try.prog 8 #[.slice a0 l0.length c0] w fun e w' => e = .returned (.bool true) ∧ Below w.heap.size w w' := by
  have HT := Lib.hid ht
  have hll : t.length ≤ 60 := by rw [ht, List.length_take]; omega
  have WF := Lib.hid (wf_take w0.2.2.1 ht)
  have W0 := Lib.hid w0
  clear ht w0
  go_enter Try.func8, Try.ntmps8
  go_wp2_with fail
  refine (fewL_at a0 c0 l0 t w W0.out HT.out).mono ?_
  rintro e w4 ⟨a3, c3, rfl, s3, b3⟩
  have S4 := Lib.hid s3
  have B4 := Lib.hid b3
  clear s3 b3
  go_wp2_with fail
  by_cases hc : checkS t = 0
  · refine (homes_any a3 c3 t w4 S4.out hc).mono ?_
    rintro e w8 ⟨g8, rfl, r8, b8⟩
    have R8 := Lib.hid r8
    have B8 := Lib.hid (bt17 B4.out b8)
    have S8 := Lib.hid (S4.out.later b8)
    have VI := Lib.hid (varsS_in t)
    have RIS := Lib.hid (varsS_rising t)
    have HA := Lib.hid (fun D hD hm => home_at t (D := D) hD hm)
    have RV := Lib.hid (rvars_any a3 c3 t w8 S8.out WF.out)
    obtain ⟨V, hV⟩ : ∃ V, V = varsS t := ⟨_, rfl⟩
    obtain ⟨H, hH⟩ : ∃ H, H = homesS t := ⟨_, rfl⟩
    obtain ⟨W, hW⟩ : ∃ W, W = weighS t := ⟨_, rfl⟩
    rw [← hV] at VI RIS HA RV ⊢
    rw [← hH] at R8 HA
    rw [← hW] at HA
    obtain ⟨nv, hnv⟩ : ∃ n, n = V.length := ⟨_, rfl⟩
    have HNV := Lib.hid hnv
    rw [← hnv]
    have vl : nv ≤ 64 := by rw [hnv, hV]; exact varsS_le t
    obtain ⟨ns, hns⟩ : ∃ n, n = nv - 20 := ⟨_, rfl⟩
    have HNS := Lib.hid hns
    rw [← hns]
    clear r8 b8 hV hH hW hnv hc hns
    go_wp2_with fail
    refine RV.out.mono ?_
    rintro e w9 ⟨v, rfl, own, b9⟩
    obtain ⟨av, cv, rfl, hI⟩ := own_iC own
    have I9 := Lib.hid hI
    have R9 := Lib.hid (hrow_later R8.out b9)
    have B9 := Lib.hid (bt17 B8.out b9)
    have hs9 := b9.size
    rw [← HNV.out]
    clear own hI b9
    go_wp2_with fail
    go_loopw [7] (fun i wr => ∃ (k : Nat), k ≤ nv ∧ i = .int .i64 k ∧ Below w9.heap.size w9 wr) (fun i _ => nv - (intOf i).toNat)
    case atStart => exact ⟨0, by omega, rfl, Below.refl _ _⟩
    case round =>
      obtain ⟨k, hk, rfl, hb⟩ := hrel
      have HB := Lib.hid hb
      have hbs := hb.size
      by_cases hlt : k < nv
      · have tl : decide ((k : Int) < (nv : Int)) = true := by simp; omega
        obtain ⟨v, hv⟩ : ∃ v, V[k]? = some v := ⟨V[k]'(by have := HNV.out; omega), List.getElem?_eq_getElem _⟩
        have hvm := List.mem_of_getElem? hv
        obtain ⟨hv0, hv1⟩ := VI.out v hvm
        obtain ⟨D, rfl⟩ : ∃ D : Nat, v = (D : Int) := ⟨v.toNat, by omega⟩
        have hD : D < 64 := by omega
        have HVM := Lib.hid hvm
        have HV := Lib.hid hv
        rcases I9.out with hnil | ⟨G, rfl, hG1, hG2, hG3⟩
        · rw [hnil] at hv; simp at hv
        have G3 := Lib.hid hG3
        have cv0 := (hb.cell (p := ⟨G, k, none⟩) hG2).trans (hG3 k _ hv)
        obtain ⟨p0, _, pl⟩ := R9.out.at (j := D * 2) (by omega)
        obtain ⟨p1, _, _⟩ := R9.out.at (j := D * 2 + 1) (by omega)
        have c0 := (hb.cell (p := ⟨g8, D * 2, none⟩) pl).trans p0
        have c1 := (hb.cell (p := ⟨g8, D * 2 + 1, none⟩) pl).trans p1
        have hAlt : aheadW W V (D : Int) < nv := by rw [HNV.out]; exact ahead_lt W hvm
        have HAD := Lib.hid (HA.out D hD hvm)
        obtain ⟨x, hx⟩ : ∃ x, x = H.getD (D * 2) 0 := ⟨_, rfl⟩
        obtain ⟨y, hy⟩ : ∃ x, x = H.getD (D * 2 + 1) 0 := ⟨_, rfl⟩
        obtain ⟨A, hA⟩ : ∃ a, a = aheadW W V (D : Int) := ⟨_, rfl⟩
        rw [← hx] at c0 HAD
        rw [← hy] at c1 HAD
        rw [← hA] at hAlt HAD
        have HAA := Lib.hid hA
        have BX := Lib.hid ((Below.refl wr.heap.size wr).alloc (Nat.le_refl _) (.cells #[.int .i64 x, .int .i64 y] 58))
        have f0 : (wr.alloc (.cells #[.int .i64 x, .int .i64 y] 58)).cell? ⟨wr.heap.size, 0, none⟩ = some (.int .i64 x) := by simp
        have f1 : (wr.alloc (.cells #[.int .i64 x, .int .i64 y] 58)).cell? ⟨wr.heap.size, 1, none⟩ = some (.int .i64 y) := by simp
        have fz : wr.heap.size < (wr.alloc (.cells #[.int .i64 x, .int .i64 y] 58)).heap.size := by simp
        have F0 := Lib.hid f0
        have F1 := Lib.hid f1
        have FZ := Lib.hid fz
        clear f0 f1 fz hx hy hA p0 p1 hvm hv hG3
        rcases HAD.out with ⟨ha, hx, hy⟩ | ⟨ha, hx, hy⟩
        · have t1 : (x != 0) = true := by simp; omega
          have t2 : (x == 0) = false := by simp; omega
          have t3 : decide (x < 5) = false := by simp; omega
          have t4 : decide (24 < x) = false := by simp; omega
          have t5 : (y != 0) = false := by simp; omega
          have HX := Lib.hid hx
          have HY := Lib.hid hy
          clear hx hy
          go_wp2_with fail
          have g0 := F0.out
          have g1 := F1.out
          have gz := FZ.out
          have GB := Lib.hid BX.out
          have GZ := Lib.hid gz
          clear F0 F1 FZ BX
          generalize hwq : wr.alloc (.cells #[.int .i64 x, .int .i64 y] 58) = wq at *
          have hbq := Lib.hid (HB.out.trans (GB.out.mono hbs))
          have G0 := Lib.hid g0
          have G1 := Lib.hid g1
          obtain ⟨bx, hbx⟩ : ∃ b, b = wr.heap.size := ⟨_, rfl⟩
          rw [← hbx] at g0 g1 gz G0 G1 GZ ⊢
          clear hwq hbx
          go_wp2_with fail
          go_loopw [9] (fun i wi => ∃ (j : Nat), j ≤ k ∧ i = .int .i64 j ∧ Below wq.heap.size wq wi) (fun i _ => k - (intOf i).toNat)
          case atStart => exact ⟨0, by omega, rfl, Below.refl _ _⟩
          case round =>
            obtain ⟨j, hj, rfl, hbi⟩ := hrel
            have HBI := Lib.hid hbi
            by_cases hjk : j < k
            · have tl2 : decide ((j : Int) < (k : Int)) = true := by simp; omega
              obtain ⟨v, hv⟩ : ∃ v, V[j]? = some v := ⟨V[j]'(by have := HNV.out; omega), List.getElem?_eq_getElem _⟩
              have hvm := List.mem_of_getElem? hv
              obtain ⟨hv0, hv1⟩ := VI.out v hvm
              obtain ⟨E, rfl⟩ : ∃ D : Nat, v = (D : Int) := ⟨v.toNat, by omega⟩
              have hE : E < 64 := by omega
              have hne : (E : Int) ≠ (D : Int) := by
                have h1 := List.getElem?_eq_some_iff.mp hv
                have h2 := List.getElem?_eq_some_iff.mp HV.out
                obtain ⟨i1, e1⟩ := h1
                obtain ⟨i2, e2⟩ := h2
                have := List.pairwise_iff_getElem.mp RIS.out j k i1 i2 hjk
                rw [e1, e2] at this
                omega
              have hav : aheadW W V (E : Int) ≠ A := by
                rw [HAA.out]
                exact fun h => hne (ahead_inj W RIS.out hvm HVM.out h)
              have HAE := HA.out E hE hvm
              have hq := hbq.out
              have hq2 := hq.trans (hbi.mono hq.size)
              have cvj := (hq2.cell (p := ⟨G, j, none⟩) hG2).trans (G3.out j _ hv)
              obtain ⟨p0, _, pl⟩ := R9.out.at (j := E * 2) (by omega)
              obtain ⟨p1, _, _⟩ := R9.out.at (j := E * 2 + 1) (by omega)
              have c0 := (hq2.cell (p := ⟨g8, E * 2, none⟩) pl).trans p0
              have c1 := (hq2.cell (p := ⟨g8, E * 2 + 1, none⟩) pl).trans p1
              have g0 := (hbi.cell (p := ⟨bx, 0, none⟩) GZ.out).trans G0.out
              have g1 := (hbi.cell (p := ⟨bx, 1, none⟩) GZ.out).trans G1.out
              obtain ⟨x2, hx2⟩ : ∃ x, x = H.getD (E * 2) 0 := ⟨_, rfl⟩
              obtain ⟨y2, hy2⟩ : ∃ x, x = H.getD (E * 2 + 1) 0 := ⟨_, rfl⟩
              rw [← hx2] at c0 HAE
              rw [← hy2] at c1 HAE
              have hd : (x2 == x) = false ∨ ((x2 == x) = true ∧ (y2 == y) = false) := by
                have := HX.out
                have := HY.out
                by_cases h : x2 = x
                · right
                  refine ⟨by simpa using h, ?_⟩
                  simp
                  omega
                · left; simpa using h
              have HBD := Lib.hid hbi.drew
              clear hx2 hy2 p0 p1 hvm hv hbi HAE hav hne hq hq2
              rcases hd with hd | ⟨hd, hd2⟩
              · go_wp2_with fail
                go_region
                go_wp2_with fail
                refine ⟨⟨j + 1, by omega, by simp, HBD.out⟩, by simp [intOf]; omega⟩
              · go_wp2_with fail
                go_region
                go_wp2_with fail
                refine ⟨⟨j + 1, by omega, by simp, HBD.out⟩, by simp [intOf]; omega⟩
            · obtain rfl : j = k := by omega
              have tl2 : decide ((j : Int) < (j : Int)) = false := by simp
              have BN := Lib.hid (hbq.out.trans (HBI.out.mono hbq.out.size))
              go_wp2_with fail
              refine ⟨⟨j + 1, by omega, by simp, BN.out⟩, by simp [intOf]; omega⟩
        · have t1 : (x != 0) = false := by simp; omega
          have t2 : (x == 0) = true := by simp; omega
          have t3 : decide (y < 0) = false := by simp; omega
          have t4 : decide ((ns : Int) ≤ y) = false := by have := HNS.out; simp; omega
          have HX := Lib.hid hx
          have HY := Lib.hid hy
          clear hx hy
          go_wp2_with fail
          have g0 := F0.out
          have g1 := F1.out
          have gz := FZ.out
          have GB := Lib.hid BX.out
          have GZ := Lib.hid gz
          clear F0 F1 FZ BX
          generalize hwq : wr.alloc (.cells #[.int .i64 x, .int .i64 y] 58) = wq at *
          have hbq := Lib.hid (HB.out.trans (GB.out.mono hbs))
          have G0 := Lib.hid g0
          have G1 := Lib.hid g1
          obtain ⟨bx, hbx⟩ : ∃ b, b = wr.heap.size := ⟨_, rfl⟩
          rw [← hbx] at g0 g1 gz G0 G1 GZ ⊢
          clear hwq hbx
          go_wp2_with fail
          go_loopw [9] (fun i wi => ∃ (j : Nat), j ≤ k ∧ i = .int .i64 j ∧ Below wq.heap.size wq wi) (fun i _ => k - (intOf i).toNat)
          case atStart => exact ⟨0, by omega, rfl, Below.refl _ _⟩
          case round =>
            obtain ⟨j, hj, rfl, hbi⟩ := hrel
            have HBI := Lib.hid hbi
            by_cases hjk : j < k
            · have tl2 : decide ((j : Int) < (k : Int)) = true := by simp; omega
              obtain ⟨v, hv⟩ : ∃ v, V[j]? = some v := ⟨V[j]'(by have := HNV.out; omega), List.getElem?_eq_getElem _⟩
              have hvm := List.mem_of_getElem? hv
              obtain ⟨hv0, hv1⟩ := VI.out v hvm
              obtain ⟨E, rfl⟩ : ∃ D : Nat, v = (D : Int) := ⟨v.toNat, by omega⟩
              have hE : E < 64 := by omega
              have hne : (E : Int) ≠ (D : Int) := by
                have h1 := List.getElem?_eq_some_iff.mp hv
                have h2 := List.getElem?_eq_some_iff.mp HV.out
                obtain ⟨i1, e1⟩ := h1
                obtain ⟨i2, e2⟩ := h2
                have := List.pairwise_iff_getElem.mp RIS.out j k i1 i2 hjk
                rw [e1, e2] at this
                omega
              have hav : aheadW W V (E : Int) ≠ A := by
                rw [HAA.out]
                exact fun h => hne (ahead_inj W RIS.out hvm HVM.out h)
              have HAE := HA.out E hE hvm
              have hq := hbq.out
              have hq2 := hq.trans (hbi.mono hq.size)
              have cvj := (hq2.cell (p := ⟨G, j, none⟩) hG2).trans (G3.out j _ hv)
              obtain ⟨p0, _, pl⟩ := R9.out.at (j := E * 2) (by omega)
              obtain ⟨p1, _, _⟩ := R9.out.at (j := E * 2 + 1) (by omega)
              have c0 := (hq2.cell (p := ⟨g8, E * 2, none⟩) pl).trans p0
              have c1 := (hq2.cell (p := ⟨g8, E * 2 + 1, none⟩) pl).trans p1
              have g0 := (hbi.cell (p := ⟨bx, 0, none⟩) GZ.out).trans G0.out
              have g1 := (hbi.cell (p := ⟨bx, 1, none⟩) GZ.out).trans G1.out
              obtain ⟨x2, hx2⟩ : ∃ x, x = H.getD (E * 2) 0 := ⟨_, rfl⟩
              obtain ⟨y2, hy2⟩ : ∃ x, x = H.getD (E * 2 + 1) 0 := ⟨_, rfl⟩
              rw [← hx2] at c0 HAE
              rw [← hy2] at c1 HAE
              have hd : (x2 == x) = false ∨ ((x2 == x) = true ∧ (y2 == y) = false) := by
                have := HX.out
                have := HY.out
                by_cases h : x2 = x
                · right
                  refine ⟨by simpa using h, ?_⟩
                  simp
                  omega
                · left; simpa using h
              have HBD := Lib.hid hbi.drew
              clear hx2 hy2 p0 p1 hvm hv hbi HAE hav hne hq hq2
              rcases hd with hd | ⟨hd, hd2⟩
              · go_wp2_with fail
                go_region
                go_wp2_with fail
                refine ⟨⟨j + 1, by omega, by simp, HBD.out⟩, by simp [intOf]; omega⟩
              · go_wp2_with fail
                go_region
                go_wp2_with fail
                refine ⟨⟨j + 1, by omega, by simp, HBD.out⟩, by simp [intOf]; omega⟩
            · obtain rfl : j = k := by omega
              have tl2 : decide ((j : Int) < (j : Int)) = false := by simp
              have BN := Lib.hid (hbq.out.trans (HBI.out.mono hbq.out.size))
              go_wp2_with fail
              refine ⟨⟨j + 1, by omega, by simp, BN.out⟩, by simp [intOf]; omega⟩
      · obtain rfl : k = nv := by omega
        have tl : decide ((k : Int) < (k : Int)) = false := by simp
        have BC := Lib.hid (bt17 B9.out HB.out)
        go_wp2_with fail
        refine (lives17 _).mono ?_
        rintro e wb ⟨rfl, bb⟩
        have BB := Lib.hid (bt17 BC.out bb)
        clear bb
        go_wp2_with fail
        go_ret
        exact ⟨rfl, BB.out⟩
  · refine (homes_bad a3 c3 t w4 S4.out hc).mono ?_
    rintro e w8 ⟨rfl, b8⟩
    have B8 := Lib.hid (bt17 B4.out b8)
    obtain ⟨q, hq⟩ : ∃ q, q = checkS t := ⟨_, rfl⟩
    rw [← hq] at hc ⊢
    have tc : (q != 0) = true := by simpa using hc
    clear b8 hq
    go_wp2_with fail
    refine (lives17 _).mono ?_
    rintro e wb ⟨rfl, bb⟩
    have BB := Lib.hid (bt17 B8.out bb)
    clear bb
    go_wp2_with fail
    go_ret
    exact ⟨rfl, BB.out⟩

theorem walk_AllocOne (w : World) (a0 : Option Addr) (c0 : Nat) (l0 : List Q5) (w0 : L5In w a0 l0 c0) :
    Calls Try.prog 8 #[.slice a0 l0.length c0] w fun e w' => e = .returned (.bool true) ∧ Below w.heap.size w w' := aos w a0 c0 l0 _ w0 rfl

set_option maxRecDepth 100000 in
theorem lifted_AllocOne (os : Os) (started : os.Started) (H : Type) (enc : TypeId × Value → H) :
    ReturnsInHanded {} Try.checked os 8 .any (Rows.allocOneSpec.pre6 enc Try.prog Try.f8 Rows.allocOneRow.domain false) (Rows.allocOneSpec.post enc Try.prog Try.f8 false true false false) := by
  refine returnsInHanded_of_change (C := Try.checked) own started (by kernel_rfl) Try.func8
    (ChangeSpec.witness6 (enc := enc) (C := Try.checked) false ⟨#[], #[.slice none 0 0], []⟩ 8 (by kernel_rfl) (by kernel_rfl) (by kernel_rfl) (by kernel_rfl)) ?_
  intro W base args ds gs before hval0 hW hcnd _
  have hval : ∀ (j : Nat) t v, Try.f8.params[j]? = some t → args[j]? = some v → Value.okWide Try.prog W .any base t v := hval0
  have hW' := hW
  obtain ⟨p, q, hA0, hV, rfl, hfz, hnd⟩ := hW
  have hA : DataW.TrodAll enc Try.prog W 0 (fun _ => true) true Try.f8.params.toList args.toList ds p := hA0
  rw [Try.params8] at hA hval
  obtain ⟨v0, vs0, d0, ds0, p0, q0, hargs, rfl, rfl, h0, r0⟩ := trodAll_cons hA
  obtain ⟨rfl, rfl, rfl⟩ := trodAll_nil r0
  obtain rfl : args = #[v0] := by cases args; simp_all
  obtain ⟨rfl, rfl⟩ := trodVars_none hV
  have k0 := h0
  have lt0 : ∀ x ∈ p0, x.block < W.heap.size := by obtain ⟨m, hm⟩ := k0; exact DataW.trod_lt m _ _ _ hm
  obtain ⟨a0, c0, l0, rfl, w0⟩ := lop_in (hval 0 22 v0 rfl rfl) h0
  clear hA0 hval0
  refine (walk_AllocOne W a0 c0 l0 w0).mono fun e W' ⟨he, bel⟩ => ?_
  subst he
  exact ⟨_, rfl, _, _, _, [], _, [], hW', trodAll_mk1 (shut_bool Try.underlying4 _), (trodAll_cons_mk (Below.trod laidOut (by kernel_rfl) (of_decide_eq_true (by kernel_rfl)) k0 bel lt0) trodAll_mk0), rfl, bel.frame _, fun h => by cases h⟩

theorem holds_AllocOne : Rows.AllocOneSaid :=
  OpenClaim.holds_of_wide 8 Try.f8 rfl rfl rfl rfl rfl rfl rfl ⟨rfl, rfl, rfl, rfl, rfl⟩ rfl rfl rfl rfl rfl (by kernel_rfl) Try.func8 (by kernel_rfl)
    (of_decide_eq_true (by kernel_rfl)) (by unfold Func.isWrapper; first | (rw [if_pos (by decide +kernel)]; kernel_rfl) | (rw [if_neg (by decide +kernel)]; exact ⟨rfl, rfl⟩))
    (fun os started H enc _ => lifted_AllocOne os started H enc)

end Go.Proofs.Ytolohbegdjnjnaa
