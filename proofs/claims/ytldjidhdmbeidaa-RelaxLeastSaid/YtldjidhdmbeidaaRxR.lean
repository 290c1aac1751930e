/- RelaxReach: the walk. -/
import Derived.Test.YtldjidhdmbeidaaRxS
namespace Go.Proofs.Ytldjidhdmbeidaa
open Go Go.RowKit Go.Maps Pl
set_option linter.unusedVariables false
set_option linter.unusedSimpArgs false
set_option maxRecDepth 100000

theorem itemsL_len (l : List Sm) : (itemsL l).length ≤ 4000 := itemsK_len l 24
theorem itemsL_ok {l : List Sm} (hl : ∀ s ∈ l, s.okay) : ∀ x ∈ itemsL l, x.okay := itemsK_ok hl 24
set_option maxHeartbeats 16000000 in
theorem walk_reach (w : World) (a0 : Option Addr) (c0 : Nat) (l0 : List Sm) (w0 : SmIn w a0 l0 c0) :
    Calls Try.prog 3 #[.slice a0 l0.length c0] w fun e w' => e = .returned (.bool true) ∧ Below w.heap.size w w' := by
  have HI := Lib.hid (items_any l0 a0 c0 w w0.cells w0.ok (Nat.le_trans w0.len w0.cap) w0.cap)
  obtain ⟨x, hx⟩ : ∃ x, x = itemsL l0 := ⟨_, rfl⟩
  have HXL := Lib.hid (show x.length ≤ 4000 by rw [hx]; exact itemsL_len l0)
  have HXO := Lib.hid (show ∀ y ∈ x, y.okay by rw [hx]; exact itemsL_ok w0.ok)
  rw [← hx] at HI
  have hxl : (x.length : Int) ≤ 4000 := by have := HXL.out; omega
  have HLV := Lib.hid (fun W => lives13 W)
  clear hx w0
  go_enter Try.func3, Try.ntmps3
  go_wp2_with (go_at_call 5; refine HI.out.mono ?_; rintro e w1 ⟨xa, xc, rfl, hxc, hxi, hb1⟩; have HXI := Lib.hid hxi; have HB1 := Lib.hid hb1; have HXC := Lib.hid hxc; clear hxi hb1)
  have HLY := Lib.hid (layout_any x HXO.out xa xc w1 HXI.out HXL.out HXC.out)
  go_wp2_with (go_at_call 6; refine HLY.out.mono ?_; rintro e w2 ⟨hb2, ⟨b, bf, tg, F, rfl, _, _, h3, h4, h5, h6, h7, h8, h9⟩ | ⟨⟨r, hr, rfl⟩, hn⟩⟩)
  · have HB2 := Lib.hid (below_call HB1.out hb2)
    have HX2 := Lib.hid (HXI.out.later hb2)
    have RP := Lib.hid h3
    have RF := Lib.hid h4
    have HTG := Lib.hid h6
    have HCL := Lib.hid h7
    clear hb2 h3 h4 h5 h6 h7 h8 h9 HLY HI
    go_wp2_with fail
    go_loopw [7] (fun s7 wr => ∃ k : Nat, k ≤ x.length ∧ s7 = .int .i64 k ∧ Below w2.heap.size w2 wr) (fun s7 _ => x.length - (intOf s7).toNat)
    case atStart => exact ⟨0, Nat.zero_le _, rfl, Below.refl _ _⟩
    case round =>
      obtain ⟨k, hk, rfl, hB⟩ := hrel
      have HB := Lib.hid hB
      clear hB
      by_cases hkl : k < x.length
      · obtain ⟨z, hz⟩ : ∃ z, x[k]? = some z := ⟨_, List.getElem?_eq_getElem hkl⟩
        have HXR := Lib.hid (HX2.out.later HB.out)
        obtain ⟨g, off, hat, hg, c0, -⟩ := HXR.out k z hz
        subst hat
        have HZ := Lib.hid hz
        have HKL := Lib.hid hkl
        have HBR := Lib.hid (brL_at hz)
        have k0 : (0 : Int) ≤ (k : Int) := by omega
        have k1 : (k : Int) < (x.length : Int) := by omega
        have f0 := (RF.out.over HB.out).cell k _ (bR_at F hkl)
        have fl := (RF.out.over HB.out).lt
        obtain ⟨wo, hwo⟩ : ∃ W : World, W = wr := ⟨_, rfl⟩
        rw [← hwo] at HB HXR c0 hg f0 fl ⊢
        clear hwo hz hkl hk
        by_cases h3 : z.kd = 3
        · have t3 : (z.kd == 3) = true := by simp [h3]
          cases hF : F k with
          | true =>
            rw [hF] at f0
            clear h3 hF
            go_wp2_with fail
            exact ⟨⟨k + 1, HKL.out, rfl, HB.out⟩, by have := HKL.out; simp [intOf]; omega⟩
          | false =>
            rw [hF] at f0
            obtain ⟨t, y, ht1, ht2, ht3, ht4, ht5⟩ := HTG.out.t k z HZ.out (.inl h3)
            have hto : (rxM x tg).to k = t := by show (tg k).toNat = t; rw [ht1]; rfl
            have hnr := HCL.out k HKL.out (by show brL x k = true; rw [HBR.out]; exact t3) hF
            rw [hto] at hnr
            unfold nearR at hnr
            simp only [Bool.and_eq_true, decide_eq_true_eq] at hnr
            have HBY := Lib.hid (by_any x (some ⟨g, off, none⟩) xc wo HXR.out HXL.out HXC.out HTG.out.u k t z y HZ.out ht3 ht4 ht5 b (x.length + 1) ((rxM x tg).pl F) (pl_bd (rxM_ok HTG.out) F) (RP.out.over HB.out) (by omega))
            obtain ⟨d, hd⟩ : ∃ d, d = (rxM x tg).pl F t - (rxM x tg).pl F k := ⟨_, rfl⟩
            rw [← hd] at hnr HBY
            have d1 : ¬ d < -4096 := by omega
            have d2 : ¬ d > 4094 := by omega
            have d3 : -4096 ≤ d := hnr.1
            have d4 : d ≤ 4094 := hnr.2
            clear ht1 ht2 ht3 ht4 ht5 hto hnr hd h3 hF
            go_wp2_with (go_at_call 8; refine HBY.out.mono ?_; rintro e w5 ⟨rfl, hb5⟩; have HB5 := Lib.hid (below_call HB.out hb5); clear hb5)
            exact ⟨⟨k + 1, HKL.out, rfl, HB5.out⟩, by have := HKL.out; simp [intOf]; omega⟩
        · have t3 : (z.kd == 3) = false := by simp [h3]
          clear h3
          go_wp2_with fail
          exact ⟨⟨k + 1, HKL.out, rfl, HB.out⟩, by have := HKL.out; simp [intOf]; omega⟩
      · obtain rfl : k = x.length := by omega
        have kx : ¬ ((x.length : Int) < (x.length : Int)) := by omega
        have HBz := Lib.hid (below_call HB2.out HB.out)
        clear hkl hk
        go_wp2_with (go_at_call 7; refine (HLV.out _).mono ?_; rintro e w3 ⟨rfl, hb3⟩; have HB3 := Lib.hid (below_call HBz.out hb3); clear hb3)
        go_ret
        exact ⟨rfl, HB3.out⟩
  · have HB2 := Lib.hid (below_call HB1.out hb2)
    have t1 : (r != 0) = true := by simp [hr]
    clear hb2 hn HLY HI hr
    go_wp2_with (go_at_call 7; refine (HLV.out _).mono ?_; rintro e w3 ⟨rfl, hb3⟩; have HB3 := Lib.hid (below_call HB2.out hb3); clear hb3)
    go_ret
    exact ⟨rfl, HB3.out⟩
end Go.Proofs.Ytldjidhdmbeidaa
