/- AsmAll: the walk. -/
import Derived.Test.YtipecnofjdhobaaDoorGD
import Derived.Test.YtipecnofjdhobaaDoorGA
import Derived.Test.YtipecnofjdhobaaDoorAsD
import Derived.Test.YtipecnofjdhobaaDoorGB
namespace Go.Proofs.YtipecnofjdhobaaDoor
open Go Go.RowKit Go.Maps Pl
set_option linter.unusedVariables false
set_option linter.unusedSimpArgs false
set_option maxRecDepth 100000

theorem own_at {w W : World} {B : Nat} {va : Option Addr} {vn vc : Nat} {l : List Int} (h : OwnU w B (.slice va vn vc) l) {j : Nat} {z : Int} (hz : l[j]? = some z) (hb : Below w.heap.size w W) : ∃ g, va = some ⟨g, 0, none⟩ ∧ g < W.heap.size ∧ W.cell? ⟨g, j, none⟩ = some (.int .u32 z) := by
  obtain ⟨g, c, e, _, hg, hc⟩ := own_cellU h hz
  injection e with e
  exact ⟨g, e, Nat.lt_of_lt_of_le hg hb.size, (hb.cell (p := ⟨g, j, none⟩) hg).trans hc⟩
theorem itemsL_len (l : List Sm) : (itemsL l).length ≤ 4000 := itemsK_len l 24
theorem itemsL_ok {l : List Sm} (hl : ∀ s ∈ l, s.okay) : ∀ x ∈ itemsL l, x.okay := itemsK_ok hl 24
set_option maxHeartbeats 16000000 in
theorem walk_all (w : World) (a0 : Option Addr) (c0 : Nat) (l0 : List Sm) (w0 : SmIn w a0 l0 c0) (ht : T3 w) :
    Calls Tryd.prog 3 #[.slice a0 l0.length c0] w fun e w' => e = .returned (.bool true) ∧ Below w.heap.size w w' := by
  have HI := Lib.hid (items_any l0 a0 c0 w w0.cells w0.ok (Nat.le_trans w0.len w0.cap) w0.cap)
  obtain ⟨x, hx⟩ : ∃ x, x = itemsL l0 := ⟨_, rfl⟩
  have HXL := Lib.hid (show x.length ≤ 4000 by rw [hx]; exact itemsL_len l0)
  have HXO := Lib.hid (show ∀ y ∈ x, y.okay by rw [hx]; exact itemsL_ok w0.ok)
  rw [← hx] at HI
  have hxl : (x.length : Int) ≤ 4000 := by have := HXL.out; omega
  have HT := Lib.hid ht
  have HLV := Lib.hid (fun W (hb : Below w.heap.size w W) => lives14 W (HT.out.later hb))
  clear hx w0 ht
  go_enter Tryd.func3, Tryd.ntmps3
  go_wp2_with (go_at_call 5; refine HI.out.mono ?_; rintro e w1 ⟨xa, xc, rfl, hxc, hxi, hb1⟩; have HXI := Lib.hid hxi; have HB1 := Lib.hid hb1; have HXC := Lib.hid hxc; clear hxi hb1)
  have HWD := Lib.hid (words_any x HXO.out 0 xa xc w1 (HT.out.later HB1.out) HXI.out HXL.out HXC.out (by omega) (by omega))
  go_wp2_with (go_at_call 6; refine HWD.out.mono ?_; rintro e w2 ⟨hb2, ⟨wv, K, f, tg, F, rfl, _, h1, h3, h4, h5, h6, h7, h8⟩ | ⟨⟨r, hr, rfl⟩, hn⟩⟩)
  · obtain ⟨va, vc, rfl, _⟩ := own_slU h1
    have HLE := Lib.hid (wordsK_len h4 h8 (offL x f ((rxM x tg).pl F)) x.length (Nat.le_refl _))
    have HWC := Lib.hid (wordsK_can HXO.out h4 HXL.out h5 h6 (off := offL x f ((rxM x tg).pl F)) (fun i y hy hk => off_to h5 h3 i y hy hk) x.length)
    have HPB := pl_bd (rxM_ok h5) F x.length
    obtain ⟨ws, hws⟩ : ∃ ws, ws = wordsK x F (offL x f ((rxM x tg).pl F)) x.length := ⟨_, rfl⟩
    rw [← hws] at HLE HWC h1
    have hwl : (ws.length : Int) ≤ 8000 := by have h := HLE.out; have h2 := HPB.2; have h3 : (rxM x tg).pl F x.length = plR (szR (szL x) F) x.length := rfl; omega
    rw [← hws]
    have HOW := Lib.hid h1
    have HB2 := Lib.hid (below_call HB1.out hb2)
    have HLY := Lib.hid (rlayout_yes x HXO.out h4 tg h5 xa xc w2 (HXI.out.later hb2) HXL.out HXC.out)
    have HCA := Lib.hid h4
    have HTG := Lib.hid h5
    have HCL := Lib.hid h6
    have HLS := Lib.hid h7
    clear h1 h3 h4 h5 h6 h7 h8 hb2 HI HWD HPB hws
    go_wp2_with (go_at_call 8; refine HLY.out.mono ?_; rintro e w3 ⟨hb3, b, pc, bf, fc, F2, rfl, g3, g4, g7, g8⟩; have HFE := far_one HTG.out HTG.out HCL.out g7 HLS.out g8; subst HFE; have HB3 := Lib.hid (below_call HB2.out hb3); have q0 := g3.cell x.length _ (iR_at (n := x.length + 1) _ (by omega)); have ql := g3.lt; rw [← HLE.out] at q0; have HCE := Lib.hid (fun (W : World) (hW : Below w3.heap.size w3 W) (j : Nat) (z : Int) (hz : ws[j]? = some z) => own_at HOW.out hz (hb3.trans (hW.mono hb3.size))); clear g3 g4 g7 g8 HLE HTG HCL HLS HCA HLY hb3 HOW)
    go_loopw [9] (fun s9 wr => ∃ k : Nat, k ≤ ws.length ∧ s9 = .int .i64 k ∧ Below w3.heap.size w3 wr) (fun s9 _ => ws.length - (intOf s9).toNat)
    case atStart => exact ⟨0, Nat.zero_le _, rfl, Below.refl _ _⟩
    case round =>
      obtain ⟨k, hk, rfl, hB⟩ := hrel
      have HB := Lib.hid hB
      clear hB
      by_cases hkl : k < ws.length
      · obtain ⟨z, hz⟩ : ∃ z, ws[k]? = some z := ⟨_, List.getElem?_eq_getElem hkl⟩
        obtain ⟨q, hq, hzq⟩ := HWC.out z (List.mem_of_getElem? hz)
        obtain ⟨g, hga, hgl, hgc⟩ := HCE.out wr HB.out k z hz
        subst hga
        have HDE := Lib.hid (fun W => rdec_yes q hq W)
        rw [← hzq] at HDE
        have HKL := Lib.hid hkl
        have k0 : (0 : Int) ≤ (k : Int) := by omega
        have k1 : (k : Int) < (ws.length : Int) := by omega
        obtain ⟨qo, qd, qa, qb, qi⟩ := q
        dsimp only at HDE
        clear hz hq hzq hkl hk
        go_wp2_with (go_at_call 9; refine (HDE.out _).mono ?_; rintro e w5 ⟨rfl, hb5⟩; have HB5 := Lib.hid hb5; clear hb5)
        refine ⟨⟨_, _, _, _, _, _, _, _, _, _, _, _, _, _, _, _, _, _, _, _, ⟨k + 1, HKL.out, rfl, below_call HB.out (below_call HB5.out (Below.alloc (Below.refl _ _) (Nat.le_refl _) _))⟩, rfl⟩, by have := HKL.out; simp [intOf]; omega⟩
      · obtain rfl : k = ws.length := by omega
        have kx : ¬ ((ws.length : Int) < (ws.length : Int)) := by omega
        have HBz := Lib.hid (below_call HB3.out HB.out)
        clear hkl hk
        go_wp2_with (go_at_call 7; refine (HLV.out _ HBz.out).mono ?_; rintro e w7 ⟨rfl, hb7⟩; have HB7 := Lib.hid (below_call HBz.out hb7); clear hb7)
        go_ret
        exact ⟨rfl, HB7.out⟩
  · have HB2 := Lib.hid (below_call HB1.out hb2)
    have t1 : (r != 0) = true := by simp [hr]
    clear hb2 hn HI hr HWD
    go_wp2_with (go_at_call 7; refine (HLV.out _ HB2.out).mono ?_; rintro e w3 ⟨rfl, hb3⟩; have HB3 := Lib.hid (below_call HB2.out hb3); clear hb3)
    go_ret
    exact ⟨rfl, HB3.out⟩
end Go.Proofs.YtipecnofjdhobaaDoor
