/- The document's Peak. -/
import Derived.Test.YtmifojpmomdmeaaPkB
namespace Go.Proofs.Ytmifojpmomdmeaa
open Go Go.RowKit Go.Maps
set_option linter.unusedVariables false
set_option linter.unusedSimpArgs false
set_option maxRecDepth 100000

theorem dsumK_in (l : List Lg) (p : Int) (n : Nat) : 0 ≤ dsumK l p n ∧ dsumK l p n ≤ 1099511627776 := by
  rw [dsumK_eq]
  exact ⟨cap_nn (sumN_nn (phiK_nn l p) n), cap_max _⟩
theorem dpeakK_in (l : List Lg) : ∀ n, 0 ≤ dpeakK l n ∧ dpeakK l n ≤ 1099511627776
  | 0 => by simp [dpeakK]
  | n + 1 => by
    have := dpeakK_in l n
    have := dsumK_in l (atL l n).f l.length
    unfold dpeakK
    omega
theorem atL_at {l : List Lg} {k : Nat} {x : Lg} (h : l[k]? = some x) : atL l k = x := by unfold atL; rw [List.getD, h]; rfl
/-- a world that has drawn -/
theorem below_drewN1 (w : World) (n : Nat) : Below w.heap.size w (w.drewN n) := ⟨rfl, rfl, rfl, Nat.le_refl _, fun _ _ => rfl⟩
set_option maxHeartbeats 8000000 in
theorem rpeak_any (l : List Lg) (hok : ∀ x ∈ l, x.okay) (at0 : Option Addr) (c : Nat) (w : World) (hA : LgAt w at0 l) (hl : l.length ≤ 1000000) (hc : c ≤ 9223372036854775807) :
    Calls Try.prog 14 #[.slice at0 l.length c] w fun e w' => e = .returned (.int .i64 (peakF l)) ∧ Below w.heap.size w w' := by
  have HA := Lib.hid hA
  have HOK := Lib.hid hok
  have hli : (l.length : Int) ≤ 1000000 := by omega
  obtain ⟨T, hT⟩ : ∃ T, T = peakF l := ⟨_, rfl⟩
  have HT := Lib.hid hT
  rw [← hT]
  clear hA hok hT
  go_enter Try.func14, Try.ntmps14
  go_wp2_with fail
  go_loopw [3, 4] (fun s3 s4 wr => ∃ (i : Nat), i ≤ l.length ∧ s4 = .int .i64 i ∧ s3 = .int .i64 (dpeakK l i) ∧ Below w.heap.size w wr) (fun _ s4 _ => l.length - (intOf s4).toNat)
  case atStart => exact ⟨0, Nat.zero_le _, rfl, rfl, Below.refl _ _⟩
  case round =>
    obtain ⟨i, hi, rfl, rfl, hB⟩ := hrel
    have HB := Lib.hid hB
    have HDP := Lib.hid (dpeakK_in l i)
    obtain ⟨dp, hdp⟩ : ∃ d, d = dpeakK l i := ⟨_, rfl⟩
    rw [← hdp] at HDP ⊢
    have HDE := Lib.hid hdp
    clear hB hdp
    by_cases hil : i < l.length
    · obtain ⟨x, hx⟩ : ∃ x, l[i]? = some x := ⟨_, List.getElem?_eq_getElem hil⟩
      have HXI := Lib.hid hx
      obtain ⟨gi, offi, hat, -⟩ := HA.out i x hx
      subst hat
      have HIL := Lib.hid hil
      have i0 : (0 : Int) ≤ (i : Int) := by omega
      have i1 : (i : Int) < (l.length : Int) := by omega
      obtain ⟨p, hp⟩ : ∃ p, p = x.f := ⟨_, rfl⟩
      have HP := Lib.hid hp
      obtain ⟨wo, rfl⟩ : ∃ wo : World, wo = wr := ⟨_, rfl⟩
      have HIC := Lib.hid (fun (W : World) (hW : Below w.heap.size w W) => show gi < W.heap.size ∧ W.cell? ⟨gi, offi + i * 5 + 3, none⟩ = some (.int .i64 p) by
        obtain ⟨g, off, h0, h1, c0, c1, c2, c3, c4⟩ := (HA.out.later hW) i x hx
        injection h0 with h0; injection h0 with h2 h3; subst h2 h3
        rw [hp]; exact ⟨h1, c3⟩)
      clear hx hil hi hp
      go_wp2_with fail
      go_loopw [5, 6] (fun s5 s6 wr => ∃ (k : Nat), k ≤ l.length ∧ s6 = .int .i64 k ∧ s5 = .int .i64 (dsumK l p k) ∧ Below wo.heap.size wo wr) (fun _ s6 _ => l.length - (intOf s6).toNat)
      case atStart => exact ⟨0, Nat.zero_le _, rfl, rfl, Below.refl _ _⟩
      case round =>
        obtain ⟨k, hk, rfl, rfl, hB⟩ := hrel
        have HB2 := Lib.hid (below_call HB.out hB)
        have HDS := Lib.hid (dsumK_in l p k)
        obtain ⟨ds, hds⟩ : ∃ d, d = dsumK l p k := ⟨_, rfl⟩
        rw [← hds] at HDS ⊢
        have HSE := Lib.hid hds
        have HB0 := Lib.hid hB
        clear hB hds
        by_cases hkl : k < l.length
        · obtain ⟨y, hy⟩ : ∃ y, l[k]? = some y := ⟨_, List.getElem?_eq_getElem hkl⟩
          have HYK := Lib.hid (atL_at hy)
          have HOY := Lib.hid (HOK.out y (List.mem_of_getElem? hy))
          have HKC := Lib.hid (fun (W : World) (hW : Below w.heap.size w W) => show W.cell? ⟨gi, offi + k * 5 + 1, none⟩ = some (.int .i64 y.b) ∧ W.cell? ⟨gi, offi + k * 5 + 2, none⟩ = some (.int .i64 y.s) ∧ W.cell? ⟨gi, offi + k * 5 + 3, none⟩ = some (.int .i64 y.f) ∧ W.cell? ⟨gi, offi + k * 5 + 4, none⟩ = some (.int .i64 y.t) by
            obtain ⟨g, off, h0, h1, c0, c1, c2, c3, c4⟩ := (HA.out.later hW) k y hy
            injection h0 with h0; injection h0 with h2 h3; subst h2 h3
            exact ⟨c1, c2, c3, c4⟩)
          have HKL := Lib.hid hkl
          have k0 : (0 : Int) ≤ (k : Int) := by omega
          have k1 : (k : Int) < (l.length : Int) := by omega
          obtain ⟨yv, yb, ys, yf, yt⟩ := y
          dsimp only at HKC
          obtain ⟨gl, ci⟩ := HIC.out wr HB2.out
          obtain ⟨c1, c2, c3, c4⟩ := HKC.out wr HB2.out
          clear hy hkl hk
          have HOUT := Lib.hid (show outK l p k = (decide (p < yf) || decide (yt < p) || decide (ys < 0)) by unfold outK; rw [HYK.out])
          go_upto_region 9 with fail
          go_cut [54] (fun s54 wx => s54 = .bool (outK l p k) ∧ Below wo.heap.size wo wx)
          case first =>
            by_cases h1 : p < yf
            · have HO1 := Lib.hid (show outK l p k = true by rw [HOUT.out]; simp [h1])
              go_quiet (fail)
              rename_i nq
              go_wp2_with fail
              go_meet
              exact ⟨by rw [HO1.out], below_call HB0.out (below_drewN1 _ _)⟩
            · by_cases h2 : yt < p
              · have HO1 := Lib.hid (show outK l p k = true by rw [HOUT.out]; simp [h2])
                go_quiet (fail)
                rename_i nq
                go_wp2_with fail
                go_meet
                exact ⟨by rw [HO1.out], below_call HB0.out (below_drewN1 _ _)⟩
              · by_cases h3 : ys < 0
                · have HO1 := Lib.hid (show outK l p k = true by rw [HOUT.out]; simp [h3])
                  go_quiet (fail)
                  rename_i nq
                  go_wp2_with fail
                  go_meet
                  exact ⟨by rw [HO1.out], below_call HB0.out (below_drewN1 _ _)⟩
                · have HO1 := Lib.hid (show outK l p k = false by rw [HOUT.out]; simp [h1, h2, h3])
                  go_quiet (fail)
                  rename_i nq
                  go_wp2_with fail
                  go_meet
                  exact ⟨by rw [HO1.out], below_call HB0.out (below_drewN1 _ _)⟩
          case rest =>
            obtain ⟨rfl, hbw⟩ := hcut
            have HB3 := Lib.hid hbw
            have HB4 := Lib.hid (below_call HB.out hbw)
            clear hbw
            clear gl ci c1 c2 c3 c4
            cases hok2 : outK l p k with
            | true =>
              have HNO := Lib.hid (show dsumK l p (k + 1) = ds by unfold dsumK; rw [hok2, if_pos rfl, HSE.out])
              clear hok2
              go_wp2_with fail
              exact ⟨⟨k + 1, HKL.out, rfl, by rw [HNO.out], HB3.out⟩, by have := HKL.out; simp [intOf]; omega⟩
            | false =>
              have hys0 : 0 ≤ ys := by have h := HOUT.out; rw [hok2] at h; simp at h; omega
              have HYES := Lib.hid (show dsumK l p (k + 1) = if firstK l p k l.length then cap (ds + cap ys) else ds by
                show (if outK l p k then _ else _) = _
                rw [hok2, ← HSE.out, HYK.out]; rfl)
              clear hok2
              go_wp2_with fail
              go_loopw [7, 8] (fun s7 s8 wx => ∃ (j : Nat), j ≤ l.length ∧ s8 = .int .i64 j ∧ s7 = .bool (firstK l p k j) ∧ Below wo.heap.size wo wx) (fun _ s8 _ => l.length - (intOf s8).toNat)
              case atStart => exact ⟨0, Nat.zero_le _, rfl, rfl, HB3.out⟩
              case round =>
                obtain ⟨j, hj, rfl, rfl, hB⟩ := hrel
                have HB5 := Lib.hid hB
                have HB6 := Lib.hid (below_call HB.out hB)
                obtain ⟨ft, hft⟩ : ∃ d, d = firstK l p k j := ⟨_, rfl⟩
                rw [← hft]
                have HFE := Lib.hid hft
                clear hB hft
                by_cases hjl : j < l.length
                · obtain ⟨z, hz⟩ : ∃ z, l[j]? = some z := ⟨_, List.getElem?_eq_getElem hjl⟩
                  have HZJ := Lib.hid (atL_at hz)
                  have HJC := Lib.hid (fun (W : World) (hW : Below w.heap.size w W) => show W.cell? ⟨gi, offi + j * 5 + 1, none⟩ = some (.int .i64 z.b) ∧ W.cell? ⟨gi, offi + j * 5 + 2, none⟩ = some (.int .i64 z.s) ∧ W.cell? ⟨gi, offi + j * 5 + 3, none⟩ = some (.int .i64 z.f) ∧ W.cell? ⟨gi, offi + j * 5 + 4, none⟩ = some (.int .i64 z.t) by
                    obtain ⟨g, off, h0, h1, c0, c1, c2, c3, c4⟩ := (HA.out.later hW) j z hz
                    injection h0 with h0; injection h0 with h2 h3; subst h2 h3
                    exact ⟨c1, c2, c3, c4⟩)
                  have HJL := Lib.hid hjl
                  have j0 : (0 : Int) ≤ (j : Int) := by omega
                  have j1 : (j : Int) < (l.length : Int) := by omega
                  obtain ⟨zv, zb, zs, zf, zt⟩ := z
                  dsimp only at HJC
                  obtain ⟨gl, ci⟩ := HIC.out wr HB6.out
                  obtain ⟨c1, c2, c3, c4⟩ := HKC.out wr HB6.out
                  obtain ⟨d1, d2, d3, d4⟩ := HJC.out wr HB6.out
                  have HWO := Lib.hid (show worse l p k j = ((heldB p ⟨zv, zb, zs, zf, zt⟩ && decide (zb = yb)) && (decide (zs > ys) || (decide (zs = ys) && decide (j < k)))) by unfold worse; rw [HZJ.out, HYK.out])
                  have HFN := Lib.hid (show firstK l p k (j + 1) = (ft && !worse l p k j) by rw [HFE.out]; rfl)
                  clear hz hjl hj
                  obtain ⟨hb, hhb⟩ : ∃ b, b = (heldB p ⟨zv, zb, zs, zf, zt⟩ && decide (zb = yb)) := ⟨_, rfl⟩
                  rw [← hhb] at HWO
                  have HHB := Lib.hid hhb
                  clear hhb
                  go_upto_region 14 with fail
                  go_cut [9] (fun s9 wx => s9 = .bool hb ∧ Below wo.heap.size wo wx)
                  case first =>
                    by_cases a1 : zf ≤ p
                    · by_cases a2 : p ≤ zt
                      · by_cases a3 : (zb == yb) = true
                        · have HE1 := Lib.hid (show hb = true by rw [HHB.out]; simp [heldB, a1, a2] at a3 ⊢; exact a3)
                          go_quiet (fail)
                          rename_i nq
                          go_wp2_with fail
                          go_meet
                          exact ⟨by rw [HE1.out], below_call HB5.out (below_drewN1 _ _)⟩
                        · have HE1 := Lib.hid (show hb = false by rw [HHB.out]; simp [heldB, a1, a2] at a3 ⊢; exact a3)
                          go_quiet (fail)
                          rename_i nq
                          go_wp2_with fail
                          go_meet
                          exact ⟨by rw [HE1.out], below_call HB5.out (below_drewN1 _ _)⟩
                      · have HE1 := Lib.hid (show hb = false by rw [HHB.out]; simp [heldB, a1, a2])
                        go_quiet (fail)
                        rename_i nq
                        go_wp2_with fail
                        go_meet
                        exact ⟨by rw [HE1.out], below_call HB5.out (below_drewN1 _ _)⟩
                    · have HE1 := Lib.hid (show hb = false by rw [HHB.out]; simp [heldB, a1])
                      go_quiet (fail)
                      rename_i nq
                      go_wp2_with fail
                      go_meet
                      exact ⟨by rw [HE1.out], below_call HB5.out (below_drewN1 _ _)⟩
                  case rest =>
                    obtain ⟨rfl, hbw⟩ := hcut
                    have HB7 := Lib.hid hbw
                    have HB8 := Lib.hid (below_call HB.out hbw)
                    clear hbw gl ci c1 c2 c3 c4 d1 d2 d3 d4
                    obtain ⟨gl, ci⟩ := HIC.out wc HB8.out
                    obtain ⟨c1, c2, c3, c4⟩ := HKC.out wc HB8.out
                    obtain ⟨d1, d2, d3, d4⟩ := HJC.out wc HB8.out
                    go_upto_region 15 with fail
                    go_cut [129] (fun s129 wx => s129 = .bool (worse l p k j) ∧ Below wo.heap.size wo wx)
                    case first =>
                      cases hb with
                      | false =>
                        have HE1 := Lib.hid (show worse l p k j = false by rw [HWO.out]; rfl)
                        go_quiet (fail)
                        rename_i nq
                        go_wp2_with fail
                        go_meet
                        exact ⟨by rw [HE1.out], below_call HB7.out (below_drewN1 _ _)⟩
                      | true =>
                        by_cases a1 : ys < zs
                        · have HE1 := Lib.hid (show worse l p k j = true by rw [HWO.out]; simp [a1])
                          go_quiet (fail)
                          rename_i nq
                          go_wp2_with fail
                          go_meet
                          exact ⟨by rw [HE1.out], below_call HB7.out (below_drewN1 _ _)⟩
                        · by_cases a2 : (zs == ys) = true
                          · by_cases a3 : j < k
                            · have a4 : (j : Int) < (k : Int) := by omega
                              have HE1 := Lib.hid (show worse l p k j = true by rw [HWO.out]; simp at a2; simp [a1, a2, a3])
                              go_quiet (fail)
                              rename_i nq
                              go_wp2_with fail
                              go_meet
                              exact ⟨by rw [HE1.out], below_call HB7.out (below_drewN1 _ _)⟩
                            · have a4 : ¬ (j : Int) < (k : Int) := by omega
                              have HE1 := Lib.hid (show worse l p k j = false by rw [HWO.out]; simp at a2; simp [a3]; omega)
                              go_quiet (fail)
                              rename_i nq
                              go_wp2_with fail
                              go_meet
                              exact ⟨by rw [HE1.out], below_call HB7.out (below_drewN1 _ _)⟩
                          · have HE1 := Lib.hid (show worse l p k j = false by rw [HWO.out]; simp at a2; simp [a2]; omega)
                            go_quiet (fail)
                            rename_i nq
                            go_wp2_with fail
                            go_meet
                            exact ⟨by rw [HE1.out], below_call HB7.out (below_drewN1 _ _)⟩
                    case rest =>
                      obtain ⟨rfl, hbw⟩ := hcut
                      have HB9 := Lib.hid hbw
                      clear hbw gl ci c1 c2 c3 c4 d1 d2 d3 d4
                      cases hwo : worse l p k j with
                      | true =>
                        have HF := Lib.hid (show firstK l p k (j + 1) = false by rw [HFN.out, hwo]; simp)
                        clear hwo
                        go_wp2_with fail
                        exact ⟨⟨j + 1, HJL.out, rfl, by rw [HF.out], HB9.out⟩, by have := HJL.out; simp [intOf]; omega⟩
                      | false =>
                        have HF := Lib.hid (show firstK l p k (j + 1) = ft by rw [HFN.out, hwo]; simp)
                        clear hwo
                        go_wp2_with fail
                        exact ⟨⟨j + 1, HJL.out, rfl, by rw [HF.out], HB9.out⟩, by have := HJL.out; simp [intOf]; omega⟩
                · obtain rfl : j = l.length := by omega
                  have kx : ¬ ((l.length : Int) < (l.length : Int)) := by omega
                  obtain ⟨gl, ci⟩ := HIC.out wr HB6.out
                  obtain ⟨c1, c2, c3, c4⟩ := HKC.out wr HB6.out
                  have HDS0 := HDS.out.1
                  have HDS1 := HDS.out.2
                  have hys := HOY.out.2.2.1.2
                  clear hjl hj
                  dsimp only at hys
                  cases ft with
                  | false =>
                    have HY := Lib.hid (show dsumK l p (k + 1) = ds by rw [HYES.out, ← HFE.out]; rfl)
                    go_wp2_with fail
                    exact ⟨⟨k + 1, HKL.out, rfl, by rw [HY.out], HB5.out⟩, by have := HKL.out; simp [intOf]; omega⟩
                  | true =>
                    have HY := Lib.hid (show dsumK l p (k + 1) = cap (ds + cap ys) by rw [HYES.out, ← HFE.out]; rfl)
                    go_wp2_with fail
                    all_goals exact ⟨⟨k + 1, HKL.out, rfl, by rw [HY.out]; unfold cap; congr 1; omega, HB5.out⟩, by have := HKL.out; simp [intOf]; omega⟩
        · obtain rfl : k = l.length := by omega
          have kx : ¬ ((l.length : Int) < (l.length : Int)) := by omega
          have HDS0 := HDS.out.1
          have HDS1 := HDS.out.2
          have HDP0 := HDP.out.1
          have HDP1 := HDP.out.2
          have HYE := Lib.hid (show dpeakK l (i + 1) = max dp ds by
            show max (dpeakK l i) (dsumK l (atL l i).f l.length) = _
            rw [atL_at HXI.out, ← HP.out, ← HDE.out, ← HSE.out])
          clear hkl hk
          go_wp2_with fail
          all_goals exact ⟨⟨i + 1, HIL.out, rfl, by rw [HYE.out]; congr 1; omega, HB2.out⟩, by have := HIL.out; simp [intOf]; omega⟩
    · obtain rfl : i = l.length := by omega
      have kx : ¬ ((l.length : Int) < (l.length : Int)) := by omega
      have HE := Lib.hid (show dp = T by rw [HDE.out, HT.out, peak_same])
      clear hil hi
      go_wp2_with fail
      go_returns
      rw [HE.out]
      exact ⟨rfl, HB.out⟩
end Go.Proofs.Ytmifojpmomdmeaa
