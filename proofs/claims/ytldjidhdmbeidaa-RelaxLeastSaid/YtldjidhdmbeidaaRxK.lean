/- RelaxLeast: the walk. -/
import Derived.Test.YtldjidhdmbeidaaRxR
import Derived.Test.YtldjidhdmbeidaaRxU
namespace Go.Proofs.Ytldjidhdmbeidaa
open Go Go.RowKit Go.Maps Pl
set_option linter.unusedVariables false
set_option linter.unusedSimpArgs false
set_option maxRecDepth 100000

set_option maxHeartbeats 16000000 in
theorem walk_least (w : World) (a0 : Option Addr) (c0 : Nat) (l0 : List Sm) (a1 : Option Addr) (c1 : Nat) (l1 : List Bool) (w0 : SmIn w a0 l0 c0) (v0 : BlIn w a1 l1 c1) :
    Calls Try.prog 4 #[.slice a0 l0.length c0, .slice a1 l1.length c1] w fun e w' => e = .returned (.bool true) ∧ Below w.heap.size w w' := by
  have HI := Lib.hid (items_any l0 a0 c0 w w0.cells w0.ok (Nat.le_trans w0.len w0.cap) w0.cap)
  obtain ⟨x, hx⟩ : ∃ x, x = itemsL l0 := ⟨_, rfl⟩
  have HXL := Lib.hid (show x.length ≤ 4000 by rw [hx]; exact itemsL_len l0)
  have HXO := Lib.hid (show ∀ y ∈ x, y.okay by rw [hx]; exact itemsL_ok w0.ok)
  rw [← hx] at HI
  have hxl : (x.length : Int) ≤ 4000 := by have := HXL.out; omega
  have hl1 : (l1.length : Int) ≤ 9223372036854775807 := by have := v0.len; have := v0.cap; omega
  have HLV := Lib.hid (fun W => lives13 W)
  have HV := Lib.hid v0.cells
  have hmk := fun W => run_make_row' (P := Try.prog) 26 4 (.bool false) 1 Try.underlying26 info_boolN rfl .i64 .i64 x.length (by omega) (by omega) W
  clear hx w0 v0
  go_enter Try.func4, Try.ntmps4
  go_wp2_with (go_at_call 5; refine HI.out.mono ?_; rintro e w1 ⟨xa, xc, rfl, hxc, hxi, hb1⟩; have HXI := Lib.hid hxi; have HB1 := Lib.hid hb1; have HXC := Lib.hid hxc; clear hxi hb1)
  have HLY := Lib.hid (layout_any x HXO.out xa xc w1 HXI.out HXL.out HXC.out)
  go_wp2_with (go_at_call 6; refine HLY.out.mono ?_; rintro e w2 ⟨hb2, ⟨b, bf, tg, F, rfl, _, _, h3, h4, h5, h6, h7, h8, h9⟩ | ⟨⟨r, hr, rfl⟩, hn⟩⟩)
  · have HB2 := Lib.hid (below_call HB1.out hb2)
    have HX2 := Lib.hid (HXI.out.later hb2)
    have RF := Lib.hid h4
    have HCA := Lib.hid h5
    have HTG := Lib.hid h6
    have HLE := Lib.hid h8
    clear hb2 h3 h4 h5 h6 h7 h8 h9 HLY HI
    go_upto_region 8 with fail
    have RG := Lib.hid (bR_made w2 x.length)
    have HBa := Lib.hid (Below.alloc (Below.refl w2.heap.size w2) (Nat.le_refl _) (.cells (madeCells #[Value.bool false] x.length) 4))
    have HB3 := Lib.hid (below_call HB2.out HBa.out)
    have HX3 := Lib.hid (HX2.out.later HBa.out)
    have RF3 := Lib.hid (RF.out.over HBa.out)
    obtain ⟨BG, hBG⟩ : ∃ B, B = w2.heap.size := ⟨_, rfl⟩
    rw [← hBG] at RG ⊢
    have HWG := Lib.hid (show w.heap.size ≤ BG by rw [hBG]; exact HB2.out.size)
    have HNF := Lib.hid (show ¬ bf = BG by have := RF.out.lt; omega)
    have HNX := Lib.hid (show ∀ g off, xa = some ⟨g, off, none⟩ → x ≠ [] → ¬ g = BG from fun g off h hne e => by
      obtain ⟨y, hy⟩ : ∃ y, x[0]? = some y := by cases x with | nil => exact absurd rfl hne | cons y r => exact ⟨y, rfl⟩
      obtain ⟨g2, off2, q1, q2, _⟩ := HX2.out 0 y hy
      rw [h] at q1
      injection q1 with q1; injection q1 with q1 q3
      omega)
    clear hmk hBG HX2 RF HBa
    generalize w2.alloc (.cells (madeCells #[Value.bool false] x.length) 4) = W3 at *
    go_wp2_with fail
    go_loopw [10, 11] (fun s10 s11 wr => ∃ (k n : Nat) (G : Nat → Bool), k ≤ x.length ∧ s11 = .int .i64 k ∧ n ≤ k ∧ s10 = .int .i64 n ∧ RowAt wr BG (bR x.length G) ∧ Out (fun j => j = BG) W3 wr) (fun _ s11 _ => x.length - (intOf s11).toNat)
    case atStart => exact ⟨0, 0, fun _ => false, Nat.zero_le _, rfl, Nat.zero_le _, rfl, RG.out, Out.refl _ _⟩
    case round =>
      obtain ⟨k, n, G, hk, rfl, hnk, rfl, hRG, hO⟩ := hrel
      have HR := Lib.hid hRG
      have HO := Lib.hid hO
      have HBr := Lib.hid (hO.below HB3.out (Nat.le_refl _) (fun j hj => by subst hj; exact HWG.out))
      have HXR := Lib.hid (HX3.out.out hO (fun g off h1 h2 h3 h4 => HNX.out g off h1 h2 h4))
      clear hRG hO
      by_cases hkl : k < x.length
      · obtain ⟨z, hz⟩ : ∃ z, x[k]? = some z := ⟨_, List.getElem?_eq_getElem hkl⟩
        obtain ⟨g, off, hat, hg, c0', -⟩ := HXR.out k z hz
        subst hat
        have HKL := Lib.hid hkl
        have HNK := Lib.hid hnk
        have k0 : (0 : Int) ≤ (k : Int) := by omega
        have k1 : (k : Int) < (x.length : Int) := by omega
        have n0 : (0 : Int) ≤ (n : Int) := by omega
        have n1 : (n : Int) ≤ 4000 := by omega
        have g0 := HR.out.cell k _ (bR_at G hkl)
        have gf := HR.out.fr k
        have gl := HR.out.lt
        obtain ⟨wo, hwo⟩ : ∃ W : World, W = wr := ⟨_, rfl⟩
        rw [← hwo] at HBr HXR HR HO c0' hg g0 gf gl ⊢
        clear hwo hz hkl hk
        by_cases h3 : z.kd = 3
        · have t3 : (z.kd == 3) = true := by simp [h3]
          clear h3
          by_cases hnl : n < l1.length
          · obtain ⟨cb, hcb⟩ : ∃ b, l1[n]? = some b := ⟨_, List.getElem?_eq_getElem hnl⟩
            obtain ⟨q, qo, hqa, hql, qc⟩ := (HV.out.later HBr.out) n cb hcb
            subst hqa
            have n2 : (n : Int) < (l1.length : Int) := by omega
            clear hnk hnl hcb
            go_wp2_with fail
            exact ⟨⟨k + 1, n + 1, fun j => if j = k then cb else G j, HKL.out, rfl, by have := HNK.out; omega, rfl, bR_row HR.out HKL.out (fun j _ => rfl), HO.out.trans (out_setB wo BG k (.bool cb))⟩, by have := HKL.out; simp [intOf]; omega⟩
          · have n2 : ¬ (n : Int) < (l1.length : Int) := by omega
            clear hnk hnl
            go_wp2_with fail
            exact ⟨⟨k + 1, n + 1, fun j => if j = k then false else G j, HKL.out, rfl, by have := HNK.out; omega, rfl, bR_row HR.out HKL.out (fun j _ => rfl), HO.out.trans (out_setB wo BG k (.bool false))⟩, by have := HKL.out; simp [intOf]; omega⟩
        · have t3 : (z.kd == 3) = false := by simp [h3]
          clear h3 hnk
          go_wp2_with fail
          exact ⟨⟨k + 1, n, G, HKL.out, rfl, by have := HNK.out; omega, rfl, HR.out, HO.out⟩, by have := HKL.out; simp [intOf]; omega⟩
      · obtain rfl : k = x.length := by omega
        have kx : ¬ ((x.length : Int) < (x.length : Int)) := by omega
        have RF4 := Lib.hid (RF3.out.outN HO.out HNF.out)
        have HPL := Lib.hid (places_any x HXO.out HCA.out xa xc wr HXR.out HXL.out HXC.out BG x.length G HR.out (by have := HXL.out; omega))
        clear hkl hk hnk
        go_wp2_with (go_at_call 9; refine HPL.out.mono ?_; rintro e w5 ⟨P, pc, rfl, hpc, hrp, hb5⟩; have RP := Lib.hid hrp; have HB5 := Lib.hid (below_call HBr.out hb5); have RF5 := Lib.hid (RF4.out.over hb5); have RG5 := Lib.hid (HR.out.over hb5); have HX5 := Lib.hid (HXR.out.later hb5); have HPC := Lib.hid hpc; clear hrp hb5 HPL RF4 HR HXR HBr HO)
        go_loopw [13] (fun s13 wr => ∃ k : Nat, k ≤ x.length ∧ s13 = .int .i64 k ∧ (∀ i, i < k → brL x i = true → G i = false → nearR ((rxM x tg).pl G ((rxM x tg).to i) - (rxM x tg).pl G i) = true) ∧ Below w5.heap.size w5 wr) (fun s13 _ => x.length - (intOf s13).toNat)
        case atStart => exact ⟨0, Nat.zero_le _, rfl, fun i h => by omega, Below.refl _ _⟩
        case round =>
          obtain ⟨k, hk, rfl, hcl, hB⟩ := hrel
          have HCL := Lib.hid hcl
          have HB := Lib.hid hB
          clear hcl hB
          by_cases hkl : k < x.length
          · obtain ⟨z, hz⟩ : ∃ z, x[k]? = some z := ⟨_, List.getElem?_eq_getElem hkl⟩
            have HXR := Lib.hid (HX5.out.later HB.out)
            obtain ⟨g, off, hat, hg, c0', -⟩ := HXR.out k z hz
            subst hat
            have HZ := Lib.hid hz
            have HKL := Lib.hid hkl
            have HBR := Lib.hid (brL_at hz)
            have k0 : (0 : Int) ≤ (k : Int) := by omega
            have k1 : (k : Int) < (x.length : Int) := by omega
            have f0 := (RG5.out.over HB.out).cell k _ (bR_at G hkl)
            have fl := (RG5.out.over HB.out).lt
            have HNX2 := Lib.hid (fun (h : brL x k = true → G k = false → nearR ((rxM x tg).pl G ((rxM x tg).to k) - (rxM x tg).pl G k) = true) => show ∀ i, i < k + 1 → brL x i = true → G i = false → nearR ((rxM x tg).pl G ((rxM x tg).to i) - (rxM x tg).pl G i) = true from fun i hi h1 h2 => by
              by_cases e : i = k
              · subst e; exact h h1 h2
              · exact HCL.out i (by omega) h1 h2)
            obtain ⟨wo, hwo⟩ : ∃ W : World, W = wr := ⟨_, rfl⟩
            rw [← hwo] at HB HXR c0' hg f0 fl ⊢
            clear hwo hz hkl hk
            by_cases h3 : z.kd = 3
            · have t3 : (z.kd == 3) = true := by simp [h3]
              cases hG : G k with
              | true =>
                rw [hG] at f0
                have HNN := Lib.hid (HNX2.out (fun _ h => by rw [hG] at h; cases h))
                clear h3 hG HNX2
                go_wp2_with fail
                exact ⟨⟨k + 1, HKL.out, rfl, HNN.out, HB.out⟩, by have := HKL.out; simp [intOf]; omega⟩
              | false =>
                rw [hG] at f0
                obtain ⟨t, y, ht1, ht2, ht3, ht4, ht5⟩ := HTG.out.t k z HZ.out (.inl h3)
                have hto : (rxM x tg).to k = t := by show (tg k).toNat = t; rw [ht1]; rfl
                have HBY := Lib.hid (fun (W : World) (hW : Below wo.heap.size wo W) => by_any x (some ⟨g, off, none⟩) xc W (HXR.out.later hW) HXL.out HXC.out HTG.out.u k t z y HZ.out ht3 ht4 ht5 P pc ((rxM x tg).pl G) (pl_bd (rxM_ok HTG.out) G) ((RP.out.over HB.out).over hW) HPC.out)
                have e1 := pl_bd (rxM_ok HTG.out) G t
                have e2 := pl_bd (rxM_ok HTG.out) G k
                obtain ⟨d, hd⟩ : ∃ d, d = (rxM x tg).pl G t - (rxM x tg).pl G k := ⟨_, rfl⟩
                have HNE := Lib.hid (show nearR d = true → ∀ i, i < k + 1 → brL x i = true → G i = false → nearR ((rxM x tg).pl G ((rxM x tg).to i) - (rxM x tg).pl G i) = true from fun h => HNX2.out (fun _ _ => by rw [hto, ← hd]; exact h))
                rw [← hd] at HBY
                clear ht1 ht2 ht3 ht4 ht5 hto hd h3 hG HNX2 e1 e2
                by_cases d1 : d < -4096
                · go_wp2_with (first | (go_at_call 8; refine (HBY.out _ (Below.refl _ _)).mono ?_; rintro e w6 ⟨rfl, hb6⟩; have HB6 := Lib.hid (below_call HB5.out (below_call HB.out hb6)); clear hb6) | (go_at_call 7; refine (HLV.out _).mono ?_; rintro e w7 ⟨rfl, hb7⟩; have HB7 := Lib.hid (below_call HB6.out hb7); clear hb7))
                  go_ret
                  exact ⟨rfl, HB7.out⟩
                · by_cases d2 : d > 4094
                  · go_wp2_with (first | (go_at_call 8; refine (HBY.out _ (by first | (with_reducible exact Below.refl _ _) | (with_reducible exact hc6))).mono ?_; rintro e w6 ⟨rfl, hb6⟩; have hc6 : Below wo.heap.size wo w6 := (by first | (with_reducible exact hb6) | exact below_call hc6 hb6); have HB6 := Lib.hid (below_call HB5.out (below_call HB.out hc6)); clear hb6) | (go_at_call 7; refine (HLV.out _).mono ?_; rintro e w7 ⟨rfl, hb7⟩; have HB7 := Lib.hid (below_call HB6.out hb7); clear hb7))
                    go_ret
                    exact ⟨rfl, HB7.out⟩
                  · have HNN := Lib.hid (HNE.out (by unfold nearR; simp; omega))
                    go_wp2_with (go_at_call 8; refine (HBY.out _ (by first | (with_reducible exact Below.refl _ _) | (with_reducible exact hc6))).mono ?_; rintro e w6 ⟨rfl, hb6⟩; have hc6 : Below wo.heap.size wo w6 := (by first | (with_reducible exact hb6) | exact below_call hc6 hb6); clear hb6)
                    exact ⟨⟨k + 1, HKL.out, rfl, HNN.out, below_call HB.out hc6⟩, by have := HKL.out; simp [intOf]; omega⟩
            · have t3 : (z.kd == 3) = false := by simp [h3]
              have HNN := Lib.hid (HNX2.out (fun h _ => by rw [HBR.out, t3] at h; cases h))
              clear h3 HNX2
              go_wp2_with fail
              exact ⟨⟨k + 1, HKL.out, rfl, HNN.out, HB.out⟩, by have := HKL.out; simp [intOf]; omega⟩
          · obtain rfl : k = x.length := by omega
            have kx : ¬ ((x.length : Int) < (x.length : Int)) := by omega
            have HFG := Lib.hid (HLE.out G (fun i hi hb hG => HCL.out i hi hb hG))
            have HBz := Lib.hid (below_call HB5.out HB.out)
            have RFz := Lib.hid (RF5.out.over HB.out)
            have RGz := Lib.hid (RG5.out.over HB.out)
            clear hkl hk HCL
            obtain ⟨wz, hwz⟩ : ∃ W : World, W = wr := ⟨_, rfl⟩
            rw [← hwz] at HBz RFz RGz ⊢
            clear hwz HB
            go_wp2_with fail
            go_loopw [14] (fun s14 wr => ∃ k : Nat, k ≤ x.length ∧ s14 = .int .i64 k ∧ wr = wz) (fun s14 _ => x.length - (intOf s14).toNat)
            case atStart => exact ⟨0, Nat.zero_le _, rfl, rfl⟩
            case round =>
              obtain ⟨k, hk, rfl, rfl⟩ := hrel
              by_cases hkl : k < x.length
              · have HKL := Lib.hid hkl
                have k0 : (0 : Int) ≤ (k : Int) := by omega
                have k1 : (k : Int) < (x.length : Int) := by omega
                have f0 := RFz.out.cell k _ (bR_at F hkl)
                have fl := RFz.out.lt
                have g0 := RGz.out.cell k _ (bR_at G hkl)
                have gl := RGz.out.lt
                cases hF : F k with
                | true =>
                  rw [hF] at f0
                  rw [HFG.out k hF] at g0
                  clear hF hkl hk
                  go_wp2_with fail
                  exact ⟨⟨k + 1, HKL.out, rfl, by first | rfl | trivial⟩, by have := HKL.out; simp [intOf]; omega⟩
                | false =>
                  rw [hF] at f0
                  clear hF hkl hk g0
                  go_wp2_with fail
                  exact ⟨⟨k + 1, HKL.out, rfl, by first | rfl | trivial⟩, by have := HKL.out; simp [intOf]; omega⟩
              · obtain rfl : k = x.length := by omega
                have kx : ¬ ((x.length : Int) < (x.length : Int)) := by omega
                clear hkl hk
                go_wp2_with (go_at_call 7; refine (HLV.out _).mono ?_; rintro e w7 ⟨rfl, hb7⟩; have HB7 := Lib.hid (below_call HBz.out hb7); clear hb7)
                go_ret
                exact ⟨rfl, HB7.out⟩
  · have HB2 := Lib.hid (below_call HB1.out hb2)
    have t1 : (r != 0) = true := by simp [hr]
    clear hb2 hn HLY HI hr
    go_wp2_with (go_at_call 7; refine (HLV.out _).mono ?_; rintro e w3 ⟨rfl, hb3⟩; have HB3 := Lib.hid (below_call HB2.out hb3); clear hb3)
    go_ret
    exact ⟨rfl, HB3.out⟩
end Go.Proofs.Ytldjidhdmbeidaa
