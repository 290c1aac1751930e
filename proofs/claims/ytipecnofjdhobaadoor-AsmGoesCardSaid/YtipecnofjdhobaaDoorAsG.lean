/- AsmGoes: the walk. -/
import Derived.Test.YtipecnofjdhobaaDoorAsR
import Derived.Test.YtipecnofjdhobaaDoorGA
namespace Go.Proofs.YtipecnofjdhobaaDoor
open Go Go.RowKit Go.Maps Pl
set_option linter.unusedVariables false
set_option linter.unusedSimpArgs false
set_option maxRecDepth 100000

set_option maxHeartbeats 16000000 in
theorem walk_goes (w : World) (a0 : Option Addr) (c0 : Nat) (l0 : List Sm) (w0 : SmIn w a0 l0 c0) (ht : T3 w) :
    Calls Tryd.prog 4 #[.slice a0 l0.length c0] w fun e w' => e = .returned (.bool true) ∧ Below w.heap.size w w' := by
  have HI := Lib.hid (items_any l0 a0 c0 w w0.cells w0.ok (Nat.le_trans w0.len w0.cap) w0.cap)
  obtain ⟨x, hx⟩ : ∃ x, x = itemsL l0 := ⟨_, rfl⟩
  have HXL := Lib.hid (show x.length ≤ 4000 by rw [hx]; exact itemsL_len l0)
  have HXO := Lib.hid (show ∀ y ∈ x, y.okay by rw [hx]; exact itemsL_ok w0.ok)
  rw [← hx] at HI
  have hxl : (x.length : Int) ≤ 4000 := by have := HXL.out; omega
  have HT := Lib.hid ht
  have HLV := Lib.hid (fun W (hb : Below w.heap.size w W) => lives14 W (HT.out.later hb))
  clear hx w0 ht
  go_enter Tryd.func4, Tryd.ntmps4
  go_wp2_with (go_at_call 5; refine HI.out.mono ?_; rintro e w1 ⟨xa, xc, rfl, hxc, hxi, hb1⟩; have HXI := Lib.hid hxi; have HB1 := Lib.hid hb1; have HXC := Lib.hid hxc; clear hxi hb1)
  have HWD := Lib.hid (words_any x HXO.out 4096 xa xc w1 (HT.out.later HB1.out) HXI.out HXL.out HXC.out (by omega) (by omega))
  go_wp2_with (go_at_call 6; refine HWD.out.mono ?_; rintro e w2 ⟨hb2, ⟨wv, K, f, tg, F, rfl, _, h1, h3, h4, h5, h6, h7, h8⟩ | ⟨⟨r, hr, rfl⟩, hn⟩⟩)
  · obtain ⟨va, vc, rfl, _⟩ := own_slU h1
    obtain ⟨OF, hOF⟩ : ∃ o, o = offL x f ((rxM x tg).pl F) := ⟨_, rfl⟩
    have HOT := Lib.hid (show ∀ (i : Nat) (y : It), x[i]? = some y → y.kd = 3 ∨ y.kd = 4 → OF i = (rxM x tg).pl F ((rxM x tg).to i) - (rxM x tg).pl F i by rw [hOF]; exact fun i y hy hk => off_to h5 h3 i y hy hk)
    rw [← hOF] at h1 ⊢
    have HGN := Lib.hid (fun (k : Nat) (y : It) (hy : x[k]? = some y) (hk : y.kd = 3 ∨ y.kd = 4) (hf : F k = false) => goes_n HXO.out h4 HXL.out h5 h6 h8 HOT.out hy hk hf)
    have HGF := Lib.hid (fun (k : Nat) (y : It) (hy : x[k]? = some y) (hf : F k = true) => goes_f HXO.out h4 HXL.out h5 h6 h8 HOT.out hy hf)
    have HLE := Lib.hid (wordsK_len h4 h8 OF x.length (Nat.le_refl _))
    have HPB := Lib.hid (pl_bd (rxM_ok h5) F)
    obtain ⟨ws, hws⟩ : ∃ ws, ws = wordsK x F OF x.length := ⟨_, rfl⟩
    rw [← hws] at HLE h1 HGN HGF
    have hwl : (ws.length : Int) ≤ 8000 := by have h := HLE.out; have h2 := (HPB.out x.length).2; have h3 : (rxM x tg).pl F x.length = plR (szR (szL x) F) x.length := rfl; omega
    rw [← hws]
    have HOW := Lib.hid h1
    have HB2 := Lib.hid (below_call HB1.out hb2)
    have HX2 := Lib.hid (HXI.out.later hb2)
    have HLY := Lib.hid (rlayout_yes x HXO.out h4 tg h5 xa xc w2 (HXI.out.later hb2) HXL.out HXC.out)
    have HCA := Lib.hid h4
    have HTG := Lib.hid h5
    have HCL := Lib.hid h6
    have HLS := Lib.hid h7
    have HFB := Lib.hid h8
    clear h1 h3 h4 h5 h6 h7 h8 hb2 HI HWD hws hOF
    go_wp2_with (go_at_call 8; refine HLY.out.mono ?_; rintro e w3 ⟨hb3, b, pc, bf, fc, F2, rfl, g3, g4, g7, g8⟩; have HFE := far_one HTG.out HTG.out HCL.out g7 HLS.out g8; subst HFE; have HB3 := Lib.hid (below_call HB2.out hb3); have RP := Lib.hid g3; have RF := Lib.hid g4; have HX3 := Lib.hid (HX2.out.later hb3); have HCE := Lib.hid (fun (W : World) (hW : Below w3.heap.size w3 W) (j : Nat) (z : Int) (hz : ws[j]? = some z) => own_at HOW.out hz (hb3.trans (hW.mono hb3.size))); clear g3 g4 g7 g8 HLE HLY hb3 HOW)
    go_loopw [9] (fun s9 wr => ∃ k : Nat, k ≤ x.length ∧ s9 = .int .i64 k ∧ Below w3.heap.size w3 wr) (fun s9 _ => x.length - (intOf s9).toNat)
    case atStart => exact ⟨0, Nat.zero_le _, rfl, Below.refl _ _⟩
    case round =>
      obtain ⟨k, hk, rfl, hB⟩ := hrel
      have HB := Lib.hid hB
      clear hB
      obtain ⟨wo, hwo⟩ : ∃ W : World, W = wr := ⟨_, rfl⟩
      rw [← hwo] at HB ⊢
      clear hwo
      by_cases hkl : k < x.length
      · obtain ⟨z, hz⟩ : ∃ z, x[k]? = some z := ⟨_, List.getElem?_eq_getElem hkl⟩
        have HXR := Lib.hid (HX3.out.later HB.out)
        obtain ⟨g, off, hat, hg, c0, c1, c2, c3, c4, c5, c6⟩ := HXR.out k z hz
        subst hat
        have HKL := Lib.hid hkl
        have HZ := Lib.hid hz
        have HZO := Lib.hid (HXO.out z (List.mem_of_getElem? hz))
        have k0 : (0 : Int) ≤ (k : Int) := by omega
        have k1 : (k : Int) < (x.length : Int) := by omega
        have k2 : (k : Int) < (x.length : Int) + 1 := by omega
        have k4 : (k : Int) < ((x.length + 1 : Nat) : Int) := by omega
        clear hz hkl hk
        by_cases h34 : z.kd = 3 ∨ z.kd = 4
        · have RPk := Lib.hid (RP.out.over HB.out)
          have RFk := Lib.hid (RF.out.over HB.out)
          obtain ⟨t, y, ht1, ht2, ht3, ht4, ht5⟩ := HTG.out.t k z HZ.out h34
          have hto : (rxM x tg).to k = t := by show (tg k).toNat = t; rw [ht1]; rfl
          have HWH := Lib.hid (fun (W : World) (hW : Below wo.heap.size wo W) => where_any x HXO.out 4096 (some ⟨g, off, none⟩) xc W (HT.out.later (below_call (below_call HB3.out HB.out) hW)) (HXR.out.later hW) HXL.out HXC.out (by omega) (by omega) (by decide) HCA.out HTG.out HCL.out HLS.out t y ht3 ht4 z.lb ht5.symm HZO.out.2.2.2.2.2.2)
          have hoff := HOT.out k z HZ.out h34
          rw [hto] at hoff
          have q0 := RPk.out.cell k _ (iR_at (n := x.length + 1) _ (by have := HKL.out; omega))
          have ql := RPk.out.lt
          have f0 := RFk.out.cell k _ (bR_at F HKL.out)
          have fl := RFk.out.lt
          have hp0 := HPB.out k
          have hp1 := HPB.out t
          have htl := (List.getElem?_eq_some_iff.1 ht3).1
          obtain ⟨pt, hpt⟩ : ∃ p, p = plR (szR (szL x) F) t := ⟨_, rfl⟩
          obtain ⟨pk, hpk⟩ : ∃ p, p = plR (szR (szL x) F) k := ⟨_, rfl⟩
          rw [show (rxM x tg).pl F t = pt from hpt.symm] at hoff hp1
          rw [show (rxM x tg).pl F k = pk from hpk.symm] at hoff hp0
          rw [← hpt] at HWH
          rw [← hpk] at q0
          have e1 : 0 ≤ pt ∧ pt ≤ 32000 := by have := HXL.out; omega
          have e2 : 0 ≤ pk ∧ pk ≤ 32000 := by have := HXL.out; have := HKL.out; omega
          have t34 : (z.kd != 3) = false ∨ ((z.kd != 3) = true ∧ (z.kd != 4) = false) := by rcases h34 with h | h <;> simp [h]
          cases hF : F k with
          | true =>
            obtain ⟨m, q, r, hG⟩ := HGF.out k z HZ.out hF
            have h3 : z.kd = 3 := by have h := (HFB.out k hF).2; rw [brL_at HZ.out] at h; simpa using h
            have t3 : (z.kd != 3) = false := by simp [h3]
            have hpm := hG.pm
            rw [show (rxM x tg).pl F k = pk from hpk.symm] at hpm
            have HQ := Lib.hid (fun W => rdec_yes q hG.can W)
            have HR := Lib.hid (fun W => rdec_yes r hG.can2 W)
            have HGG := Lib.hid hG
            have HM1 := Lib.hid (List.getElem?_eq_some_iff.1 hG.at2).1
            have m1 : (m : Int) + 1 < (ws.length : Int) := by have := HM1.out; omega
            have m0 : (0 : Int) ≤ (m : Int) := by omega
            rw [hF] at f0
            rw [hpm] at q0
            obtain ⟨ga, hga, hgl, hgc⟩ := HCE.out wo HB.out m _ hG.at_
            subst hga
            obtain ⟨ga2, hga, _, hgc2⟩ := HCE.out wo HB.out (m + 1) _ hG.at2
            injection hga with hga; injection hga with hga
            subst hga
            have hs : ((4096 + (4 * (m : Int) + 4) + r.i) % 4294967296 != 4096 + pt) = false := by
              have h := hG.im2
              simp
              omega
            clear hpk hpt hto ht1 ht2 ht3 ht4 ht5 h34 hp0 hp1 t34 hF hG h3 hoff e1 e2 htl hpm
            obtain ⟨zq, hzq⟩ : ∃ n, n = wordI q := ⟨_, rfl⟩
            obtain ⟨zr, hzr⟩ : ∃ n, n = wordI r := ⟨_, rfl⟩
            rw [← hzq] at hgc HQ
            rw [← hzr] at hgc2 HR
            clear hzq hzr
            obtain ⟨m2, hm2⟩ : ∃ n : Nat, n = m + 1 := ⟨_, rfl⟩
            rw [← hm2] at hgc2
            have hd : (4 * (m : Int) + 4) / 4 = (m2 : Int) := by omega
            have hd0 : (4 * (m : Int)) / 4 = (m : Int) := by omega
            have m3 : (m2 : Int) < (ws.length : Int) := by omega
            have m4 : (0 : Int) ≤ (m2 : Int) := by omega
            have HM2 := Lib.hid hm2
            clear hm2
            go_upto_region 16 with (go_at_call 9; refine (HR.out _).mono ?_; rintro e w5 ⟨rfl, hb5⟩; have HB5 := Lib.hid hb5; clear hb5)
            have RB := Lib.hid (RowAt.new w5 [.int .i64 r.o, .int .i64 r.d, .int .i64 r.a, .int .i64 r.b, .int .i32 r.i] 36)
            have HBa := Lib.hid (below_call HB5.out (Below.alloc (Below.refl w5.heap.size w5) (Nat.le_refl _) (.cells #[.int .i64 r.o, .int .i64 r.d, .int .i64 r.a, .int .i64 r.b, .int .i32 r.i] 36)))
            obtain ⟨A, hA⟩ : ∃ A, A = w5.heap.size := ⟨_, rfl⟩
            rw [← hA] at RB ⊢
            obtain ⟨W5, hW5⟩ : ∃ W, W = w5.alloc (.cells #[.int .i64 r.o, .int .i64 r.d, .int .i64 r.a, .int .i64 r.b, .int .i32 r.i] 36) := ⟨_, rfl⟩
            have hE : w5.alloc (.cells [.int .i64 r.o, .int .i64 r.d, .int .i64 r.a, .int .i64 r.b, .int .i32 r.i].toArray 36) = W5 := by rw [hW5]
            rw [hE] at RB
            rw [← hW5] at HBa ⊢
            clear hE hW5 hA HB5
            have z6 := (HBa.out.cell (p := ⟨g, _, none⟩) hg).trans c6
            have zl : g < W5.heap.size := Nat.lt_of_lt_of_le hg HBa.out.size
            go_upto_region 17 with (go_at_call 10; refine (HWH.out _ HBa.out).mono ?_; unfold WhP; rintro e w6 ⟨rfl, hb6⟩; have HB6 := Lib.hid (below_call HBa.out hb6); have RB6 := Lib.hid (RB.out.over hb6); clear hb6)
            have b0 := RB6.out.cell 0 _ rfl
            have b1 := RB6.out.cell 1 _ rfl
            have b4 := RB6.out.cell 4 _ rfl
            have bl := RB6.out.lt
            have q6 := (HB6.out.cell (p := ⟨b, _, none⟩) ql).trans q0
            have ql6 : b < w6.heap.size := Nat.lt_of_lt_of_le ql HB6.out.size
            have hgc6 := (HB6.out.cell (p := ⟨ga, _, none⟩) hgl).trans hgc
            have hgl6 : ga < w6.heap.size := Nat.lt_of_lt_of_le hgl HB6.out.size
            clear hgc2 z6 zl
            go_upto_region 20 with (go_at_call 9; refine (HQ.out _).mono ?_; rintro e w7 ⟨rfl, hb7⟩; have HB7 := Lib.hid hb7; clear hb7)
            have RC := Lib.hid (RowAt.new w7 [.int .i64 q.o, .int .i64 q.d, .int .i64 q.a, .int .i64 q.b, .int .i32 q.i] 36)
            have HBc := Lib.hid (below_call HB7.out (Below.alloc (Below.refl w7.heap.size w7) (Nat.le_refl _) (.cells #[.int .i64 q.o, .int .i64 q.d, .int .i64 q.a, .int .i64 q.b, .int .i32 q.i] 36)))
            obtain ⟨C, hC⟩ : ∃ A, A = w7.heap.size := ⟨_, rfl⟩
            rw [← hC] at RC ⊢
            obtain ⟨W7, hW7⟩ : ∃ W, W = w7.alloc (.cells #[.int .i64 q.o, .int .i64 q.d, .int .i64 q.a, .int .i64 q.b, .int .i32 q.i] 36) := ⟨_, rfl⟩
            have hE : w7.alloc (.cells [.int .i64 q.o, .int .i64 q.d, .int .i64 q.a, .int .i64 q.b, .int .i32 q.i].toArray 36) = W7 := by rw [hW7]
            rw [hE] at RC
            rw [← hW7] at HBc ⊢
            clear hE hW7 hC HB7
            have HBD := Lib.hid (below_call HB6.out HBc.out)
            have n0 := RC.out.cell 0 _ rfl
            have n2 := RC.out.cell 2 _ rfl
            have n4 := RC.out.cell 4 _ rfl
            have nl := RC.out.lt
            have r0 := (RB6.out.over HBc.out).cell 0 _ rfl
            have r1 := (RB6.out.over HBc.out).cell 1 _ rfl
            have rl := (RB6.out.over HBc.out).lt
            have z1 := (HBD.out.cell (p := ⟨g, _, none⟩) hg).trans c1
            have z3 := (HBD.out.cell (p := ⟨g, _, none⟩) hg).trans c3
            have zl : g < W7.heap.size := Nat.lt_of_lt_of_le hg HBD.out.size
            have zf := (HBD.out.cell (p := ⟨bf, _, none⟩) fl).trans f0
            have zfl : bf < W7.heap.size := Nat.lt_of_lt_of_le fl HBD.out.size
            clear b0 b1 b4 bl q6 ql6 hgc6 hgl6 hgc c0 c1 c2 c3 c4 c5 c6 q0 f0 hs
            have x1 : (q.i != 8) = false := by simp [HGG.out.im]
            have x2 : (q.o == z.op) = false := by simp [HGG.out.op]
            have x3 : (q.a != z.ra) = false := by simp [HGG.out.ra]
            have x4 : (r.o != 44) = false := by simp [HGG.out.jl]
            have x5 : (r.d != 0) = false := by simp [HGG.out.rd]
            go_region
            go_wp2_with fail
            exact ⟨⟨k + 1, HKL.out, rfl, below_call HB.out HBD.out.drew⟩, by have := HKL.out; simp [intOf]; omega⟩
          | false =>
            obtain ⟨m, q, hG⟩ := HGN.out k z HZ.out h34 hF
            have hpm := hG.pm
            rw [show (rxM x tg).pl F k = pk from hpk.symm] at hpm
            have HQ := Lib.hid (fun W => rdec_yes q hG.can W)
            have HM1 := Lib.hid (List.getElem?_eq_some_iff.1 hG.at_).1
            have m3 : (m : Int) < (ws.length : Int) := by have := HM1.out; omega
            have m0 : (0 : Int) ≤ (m : Int) := by omega
            rw [hF] at f0
            rw [hpm] at q0
            obtain ⟨ga, hga, hgl, hgc⟩ := HCE.out wo HB.out m _ hG.at_
            subst hga
            have hs : ((4096 + 4 * (m : Int) + q.i) % 4294967296 != 4096 + pt) = false := by
              have h := hG.im
              simp
              omega
            clear hpk hpt hto ht1 ht2 ht3 ht4 ht5 h34 hp0 hp1 hF hG hoff e1 e2 htl hpm
            obtain ⟨zq, hzq⟩ : ∃ n, n = wordI q := ⟨_, rfl⟩
            rw [← hzq] at hgc HQ
            clear hzq
            have hd0 : (4 * (m : Int)) / 4 = (m : Int) := by omega
            rcases t34 with t3 | ⟨t3, t4⟩
            · go_upto_region 16 with (go_at_call 9; refine (HQ.out _).mono ?_; rintro e w5 ⟨rfl, hb5⟩; have HB5 := Lib.hid hb5; clear hb5)
              have RB := Lib.hid (RowAt.new w5 [.int .i64 q.o, .int .i64 q.d, .int .i64 q.a, .int .i64 q.b, .int .i32 q.i] 36)
              have HBa := Lib.hid (below_call HB5.out (Below.alloc (Below.refl w5.heap.size w5) (Nat.le_refl _) (.cells #[.int .i64 q.o, .int .i64 q.d, .int .i64 q.a, .int .i64 q.b, .int .i32 q.i] 36)))
              obtain ⟨A, hA⟩ : ∃ A, A = w5.heap.size := ⟨_, rfl⟩
              rw [← hA] at RB ⊢
              obtain ⟨W5, hW5⟩ : ∃ W, W = w5.alloc (.cells #[.int .i64 q.o, .int .i64 q.d, .int .i64 q.a, .int .i64 q.b, .int .i32 q.i] 36) := ⟨_, rfl⟩
              have hE : w5.alloc (.cells [.int .i64 q.o, .int .i64 q.d, .int .i64 q.a, .int .i64 q.b, .int .i32 q.i].toArray 36) = W5 := by rw [hW5]
              rw [hE] at RB
              rw [← hW5] at HBa ⊢
              clear hE hW5 hA HB5
              have z6 := (HBa.out.cell (p := ⟨g, _, none⟩) hg).trans c6
              have zl : g < W5.heap.size := Nat.lt_of_lt_of_le hg HBa.out.size
              go_upto_region 17 with (go_at_call 10; refine (HWH.out _ HBa.out).mono ?_; unfold WhP; rintro e w6 ⟨rfl, hb6⟩; have HB6 := Lib.hid (below_call HBa.out hb6); have RB6 := Lib.hid (RB.out.over hb6); clear hb6)
              have b4 := RB6.out.cell 4 _ rfl
              have bl := RB6.out.lt
              have q6 := (HB6.out.cell (p := ⟨b, _, none⟩) ql).trans q0
              have ql6 : b < w6.heap.size := Nat.lt_of_lt_of_le ql HB6.out.size
              have hgc6 := (HB6.out.cell (p := ⟨ga, _, none⟩) hgl).trans hgc
              have hgl6 : ga < w6.heap.size := Nat.lt_of_lt_of_le hgl HB6.out.size
              clear z6 zl
              go_upto_region 20 with (go_at_call 9; refine (HQ.out _).mono ?_; rintro e w7 ⟨rfl, hb7⟩; have HB7 := Lib.hid hb7; clear hb7)
              have HBc := Lib.hid (below_call HB7.out (Below.alloc (Below.refl w7.heap.size w7) (Nat.le_refl _) (.cells #[.int .i64 q.o, .int .i64 q.d, .int .i64 q.a, .int .i64 q.b, .int .i32 q.i] 36)))
              obtain ⟨C, hC⟩ : ∃ A, A = w7.heap.size := ⟨_, rfl⟩
              rw [← hC]
              generalize w7.alloc (.cells #[.int .i64 q.o, .int .i64 q.d, .int .i64 q.a, .int .i64 q.b, .int .i32 q.i] 36) = W7 at *
              clear hC HB7
              have HBD := Lib.hid (below_call HB6.out HBc.out)
              have zf := (HBD.out.cell (p := ⟨bf, _, none⟩) fl).trans f0
              have zfl : bf < W7.heap.size := Nat.lt_of_lt_of_le fl HBD.out.size
              clear b4 bl q6 ql6 hgc6 hgl6 hgc c0 c1 c2 c3 c4 c5 c6 q0 f0 hs
              go_region
              go_wp2_with fail
              exact ⟨⟨k + 1, HKL.out, rfl, below_call HB.out HBD.out.drew⟩, by have := HKL.out; simp [intOf]; omega⟩
            · go_upto_region 16 with (go_at_call 9; refine (HQ.out _).mono ?_; rintro e w5 ⟨rfl, hb5⟩; have HB5 := Lib.hid hb5; clear hb5)
              have RB := Lib.hid (RowAt.new w5 [.int .i64 q.o, .int .i64 q.d, .int .i64 q.a, .int .i64 q.b, .int .i32 q.i] 36)
              have HBa := Lib.hid (below_call HB5.out (Below.alloc (Below.refl w5.heap.size w5) (Nat.le_refl _) (.cells #[.int .i64 q.o, .int .i64 q.d, .int .i64 q.a, .int .i64 q.b, .int .i32 q.i] 36)))
              obtain ⟨A, hA⟩ : ∃ A, A = w5.heap.size := ⟨_, rfl⟩
              rw [← hA] at RB ⊢
              obtain ⟨W5, hW5⟩ : ∃ W, W = w5.alloc (.cells #[.int .i64 q.o, .int .i64 q.d, .int .i64 q.a, .int .i64 q.b, .int .i32 q.i] 36) := ⟨_, rfl⟩
              have hE : w5.alloc (.cells [.int .i64 q.o, .int .i64 q.d, .int .i64 q.a, .int .i64 q.b, .int .i32 q.i].toArray 36) = W5 := by rw [hW5]
              rw [hE] at RB
              rw [← hW5] at HBa ⊢
              clear hE hW5 hA HB5
              have z6 := (HBa.out.cell (p := ⟨g, _, none⟩) hg).trans c6
              have zl : g < W5.heap.size := Nat.lt_of_lt_of_le hg HBa.out.size
              go_upto_region 17 with (go_at_call 10; refine (HWH.out _ HBa.out).mono ?_; unfold WhP; rintro e w6 ⟨rfl, hb6⟩; have HB6 := Lib.hid (below_call HBa.out hb6); have RB6 := Lib.hid (RB.out.over hb6); clear hb6)
              have b4 := RB6.out.cell 4 _ rfl
              have bl := RB6.out.lt
              have q6 := (HB6.out.cell (p := ⟨b, _, none⟩) ql).trans q0
              have ql6 : b < w6.heap.size := Nat.lt_of_lt_of_le ql HB6.out.size
              have hgc6 := (HB6.out.cell (p := ⟨ga, _, none⟩) hgl).trans hgc
              have hgl6 : ga < w6.heap.size := Nat.lt_of_lt_of_le hgl HB6.out.size
              clear z6 zl
              go_upto_region 20 with (go_at_call 9; refine (HQ.out _).mono ?_; rintro e w7 ⟨rfl, hb7⟩; have HB7 := Lib.hid hb7; clear hb7)
              have HBc := Lib.hid (below_call HB7.out (Below.alloc (Below.refl w7.heap.size w7) (Nat.le_refl _) (.cells #[.int .i64 q.o, .int .i64 q.d, .int .i64 q.a, .int .i64 q.b, .int .i32 q.i] 36)))
              obtain ⟨C, hC⟩ : ∃ A, A = w7.heap.size := ⟨_, rfl⟩
              rw [← hC]
              generalize w7.alloc (.cells #[.int .i64 q.o, .int .i64 q.d, .int .i64 q.a, .int .i64 q.b, .int .i32 q.i] 36) = W7 at *
              clear hC HB7
              have HBD := Lib.hid (below_call HB6.out HBc.out)
              have zf := (HBD.out.cell (p := ⟨bf, _, none⟩) fl).trans f0
              have zfl : bf < W7.heap.size := Nat.lt_of_lt_of_le fl HBD.out.size
              clear b4 bl q6 ql6 hgc6 hgl6 hgc c0 c1 c2 c3 c4 c5 c6 q0 f0 hs
              go_region
              go_wp2_with fail
              exact ⟨⟨k + 1, HKL.out, rfl, below_call HB.out HBD.out.drew⟩, by have := HKL.out; simp [intOf]; omega⟩
        · have t3 : (z.kd != 3) = true := by simp; exact fun h => h34 (.inl h)
          have t4 : (z.kd != 4) = true := by simp; exact fun h => h34 (.inr h)
          clear h34
          go_wp2_with fail
          exact ⟨⟨k + 1, HKL.out, rfl, HB.out⟩, by have := HKL.out; simp [intOf]; omega⟩
      · obtain rfl : k = x.length := by omega
        have kx : ¬ ((x.length : Int) < (x.length : Int)) := by omega
        have HBz := Lib.hid (below_call HB3.out HB.out)
        clear hkl hk
        go_wp2_with (go_at_call 7; refine (HLV.out _ HBz.out).mono ?_; rintro e w7 ⟨rfl, hb7⟩; have HB7 := Lib.hid (below_call HBz.out hb7); clear hb7)
        go_ret
        exact ⟨rfl, HB7.out⟩
  · have HB2 := Lib.hid (below_call HB1.out hb2)
    have t1 : (r != 0) = true := by simp [hr]
    clear hb2 hn HI hr HWD
    go_wp2_with (go_at_call 7; refine (HLV.out _ HB2.out).mono ?_; rintro e w3 ⟨rfl, hb3⟩; have HB3 := Lib.hid (below_call HB2.out hb3); clear hb3)
    go_ret
    exact ⟨rfl, HB3.out⟩
end Go.Proofs.YtipecnofjdhobaaDoor
