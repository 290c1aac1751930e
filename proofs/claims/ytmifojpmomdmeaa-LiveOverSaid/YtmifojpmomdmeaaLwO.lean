/- LiveOver: the walk. -/
import Derived.Test.YtmifojpmomdmeaaLwA
import Derived.Test.YtmifojpmomdmeaaNY
import Derived.Handy
namespace Go.Proofs.Ytmifojpmomdmeaa
open Go Go.RowKit Go.Maps
set_option linter.unusedVariables false
set_option linter.unusedSimpArgs false
set_option maxRecDepth 100000

set_option maxHeartbeats 8000000 in
theorem walk_liveOver (FW : FwC) (w : World) (g : GrQ) (hg : g.ok w) :
    Calls Try.prog 6 #[g.val] w fun e w' => e = .returned (.bool true) ∧ Below w.heap.size w w' := by
  obtain ⟨gx, gy, gz, ca, cc, C, na, nc, ns, go⟩ := g
  have FX := Lib.hid (fun W (hW : Below w.heap.size w W) => FW ⟨gx, gy, gz, ca, cc, C, na, nc, ns, go⟩ W ⟨hg.1, hg.2.1.later hW, FlatIn.later hg.2.2.1 hW, hg.2.2.2⟩)
  have LV := Lib.hid lives29
  clear FW hg
  unfold GrQ.val at FX ⊢
  dsimp only at FX ⊢
  go_enter Try.func6, Try.ntmps6
  have RB := Lib.hid (RowAt.new w [.int .i64 gx, .int .i64 gy, .int .i64 gz, .slice ca C.length cc, .slice na ns.length nc, .int .i64 go] 26)
  have BB : Below w.heap.size w (w.alloc (.cells #[.int .i64 gx, .int .i64 gy, .int .i64 gz, .slice ca C.length cc, .slice na ns.length nc, .int .i64 go] 26)) := Below.alloc (Below.refl _ _) (Nat.le_refl _) _
  have FY := Lib.hid (FX.out _ BB)
  have BW := Lib.hid BB
  clear BB FX
  have hs0 : (w.alloc (.cells #[.int .i64 gx, .int .i64 gy, .int .i64 gz, .slice ca C.length cc, .slice na ns.length nc, .int .i64 go] 26)).heap.size = w.heap.size + 1 := by simp
  have HS0 := Lib.hid hs0
  clear hs0
  go_upto_region 2 with (go_at_call 8; (with_reducible refine FY.out.mono ?_); rintro e w2 ⟨⟨hx, hy, hz, da, dc, D, ma, mc, ms, ho⟩, rfl, hb2, hk2, hn2, _, hcl2, hqs2⟩; have HB2 := Lib.hid hb2; have HK2 := Lib.hid hk2; have HN2 := Lib.hid hn2; have r2 := RB.out.over hb2; have R2 := Lib.hid r2; have b0 := r2.cell 0 _ rfl; have b1 := r2.cell 1 _ rfl; have b2 := r2.cell 2 _ rfl; have b3 := r2.cell 3 _ rfl; have b4 := r2.cell 4 _ rfl; have b5 := r2.cell 5 _ rfl; have p0 := r2.fr 0; have p1 := r2.fr 1; have p2 := r2.fr 2; have p3 := r2.fr 3; have p4 := r2.fr 4; have p5 := r2.fr 5; have blt := r2.lt; clear hb2 hk2 hn2 hcl2 hqs2 r2; unfold GrQ.val; dsimp only at *)
  have R3 := Lib.hid (((((((R2.out.set (l' := [.int .i64 hx, .int .i64 gy, .int .i64 gz, .slice ca C.length cc, .slice na ns.length nc, .int .i64 go]) 0 (.int .i64 hx) (by simp) rfl).set (l' := [.int .i64 hx, .int .i64 hy, .int .i64 gz, .slice ca C.length cc, .slice na ns.length nc, .int .i64 go]) 1 (.int .i64 hy) (by simp) rfl).set (l' := [.int .i64 hx, .int .i64 hy, .int .i64 hz, .slice ca C.length cc, .slice na ns.length nc, .int .i64 go]) 2 (.int .i64 hz) (by simp) rfl).set (l' := [.int .i64 hx, .int .i64 hy, .int .i64 hz, .slice da D.length dc, .slice na ns.length nc, .int .i64 go]) 3 (.slice da D.length dc) (by simp) rfl).set (l' := [.int .i64 hx, .int .i64 hy, .int .i64 hz, .slice da D.length dc, .slice ma ms.length mc, .int .i64 go]) 4 (.slice ma ms.length mc) (by simp) rfl).set (l' := [.int .i64 hx, .int .i64 hy, .int .i64 hz, .slice da D.length dc, .slice ma ms.length mc, .int .i64 ho]) 5 (.int .i64 ho) (by simp) rfl))
  have K3 := ((((((((Kp.refl (w.heap.size + 1) w2).set w.heap.size 0 (.int .i64 hx) (by omega)).set w.heap.size 1 (.int .i64 hy) (by omega)).set w.heap.size 2 (.int .i64 hz) (by omega)).set w.heap.size 3 (.slice da D.length dc) (by omega)).set w.heap.size 4 (.slice ma ms.length mc) (by omega)).set w.heap.size 5 (.int .i64 ho) (by omega)))
  have CN3 := Lib.hid (HK2.out _ (by rw [HS0.out]; exact K3))
  have B3 := Lib.hid ((Below.setCell (Below.setCell (Below.setCell (Below.setCell (Below.setCell (Below.setCell (below_call BW.out HB2.out) (show w.heap.size ≤ (⟨w.heap.size, 0, none⟩ : Addr).block from Nat.le_refl _) (.int .i64 hx)) (show w.heap.size ≤ (⟨w.heap.size, 1, none⟩ : Addr).block from Nat.le_refl _) (.int .i64 hy)) (show w.heap.size ≤ (⟨w.heap.size, 2, none⟩ : Addr).block from Nat.le_refl _) (.int .i64 hz)) (show w.heap.size ≤ (⟨w.heap.size, 3, none⟩ : Addr).block from Nat.le_refl _) (.slice da D.length dc)) (show w.heap.size ≤ (⟨w.heap.size, 4, none⟩ : Addr).block from Nat.le_refl _) (.slice ma ms.length mc)) (show w.heap.size ≤ (⟨w.heap.size, 5, none⟩ : Addr).block from Nat.le_refl _) (.int .i64 ho)))
  clear K3 b0 b1 b2 b3 b4 b5 p0 p1 p2 p3 p4 p5 blt R2 HB2 HK2 RB FY BW
  generalize ((((((w2.setCell ⟨w.heap.size, 0, none⟩ (.int .i64 hx)).setCell ⟨w.heap.size, 1, none⟩ (.int .i64 hy)).setCell ⟨w.heap.size, 2, none⟩ (.int .i64 hz)).setCell ⟨w.heap.size, 3, none⟩ (.slice da D.length dc)).setCell ⟨w.heap.size, 4, none⟩ (.slice ma ms.length mc)).setCell ⟨w.heap.size, 5, none⟩ (.int .i64 ho)) = W3 at *
  have r3 := R3.out
  have hm2 : ms.length ≤ 12 := HN2.out
  have c0 := r3.cell 0 _ rfl
  have c1 := r3.cell 1 _ rfl
  have c2 := r3.cell 2 _ rfl
  have c3 := r3.cell 3 _ rfl
  have c4 := r3.cell 4 _ rfl
  have c5 := r3.cell 5 _ rfl
  have cl := r3.lt
  have FF := Lib.hid (fun (W : World) (hb : Below W3.heap.size W3 W) => lives_lg ⟨hx, hy, hz, da, dc, D, ma, mc, ms, ho⟩ true W (CN3.out.1.later hb) (FlatIn.later CN3.out.2 hb) (by show ms.length ≤ 1000; omega))
  have FFO := Lib.hid (fun (he : (graphE (GrQ.gr ⟨hx, hy, hz, da, dc, D, ma, mc, ms, ho⟩)).1 = 0) => lgs_ok (g := ⟨hx, hy, hz, da, dc, D, ma, mc, ms, ho⟩) (over := true) he (by show ms.length ≤ 1000; omega))
  have FFN := Lib.hid (fun (he : (graphE (GrQ.gr ⟨hx, hy, hz, da, dc, D, ma, mc, ms, ho⟩)).1 = 0) => show (lvM ⟨hx, hy, hz, da, dc, D, ma, mc, ms, ho⟩ true).L.length ≤ 12 from Nat.le_trans (ord_mem he).1 hm2)
  have OV := Lib.hid (fun (he : (graphE (GrQ.gr ⟨hx, hy, hz, da, dc, D, ma, mc, ms, ho⟩)).1 = 0) => over_lg (g := ⟨hx, hy, hz, da, dc, D, ma, mc, ms, ho⟩) he)
  obtain ⟨l, hl⟩ : ∃ x, x = lgs (lvM ⟨hx, hy, hz, da, dc, D, ma, mc, ms, ho⟩ true).lives := ⟨_, rfl⟩
  have HLL := Lib.hid (show (lvM ⟨hx, hy, hz, da, dc, D, ma, mc, ms, ho⟩ true).L.length = l.length by rw [hl, lgs_len, lives_len])
  rw [← hl] at FF FFO OV
  rw [HLL.out] at FF FFN
  obtain ⟨ec, hE⟩ : ∃ E, E = (graphE (GrQ.gr ⟨hx, hy, hz, da, dc, D, ma, mc, ms, ho⟩)).1 := ⟨_, rfl⟩
  rw [← hE] at FF FFO FFN OV
  unfold GrQ.val at FF
  dsimp only at FF
  clear hE hl HLL r3
  by_cases h0 : ec = 0
  case neg =>
    have h0b : (ec != 0) = true := by simpa using h0
    have HO := Lib.hid h0
    clear h0
    go_wp2_with (first | (go_at_call 9; (with_reducible refine (FF.out _ (Below.refl _ _)).mono ?_); rintro e w4 ⟨hb4, hno, _⟩; obtain rfl := hno HO.out; have HB4 := Lib.hid (below_call B3.out hb4); clear hb4 hno) | (go_at_call 11; (with_reducible refine (LV.out _).mono ?_); rintro e w8 ⟨rfl, hb8⟩; have HB8 := Lib.hid (below_call HB4.out hb8); clear hb8))
    go_ret
    exact ⟨rfl, HB8.out⟩
  subst h0
  have HOK := Lib.hid (FFO.out (by trivial))
  have HN := Lib.hid (FFN.out (by trivial))
  have HOV := Lib.hid (OV.out (by trivial))
  clear FFO FFN OV
  go_upto_region 5 with (go_at_call 9; (with_reducible refine (FF.out _ (Below.refl _ _)).mono ?_); rintro e w4 ⟨hb4, _, hyes⟩; obtain ⟨la, lc, rfl, hlc, hlg⟩ := hyes (by trivial); have HB4 := Lib.hid (below_call B3.out hb4); have HLG := Lib.hid hlg; have HLC := Lib.hid hlc; clear hb4 hyes hlc hlg)
  clear c0 c1 c2 c3 c4 c5 cl FF R3 CN3 B3
  have hli : (l.length : Int) ≤ 12 := by have := HN.out; omega
  obtain ⟨W4, hW4⟩ : ∃ W, W = w4 := ⟨_, rfl⟩
  rw [← hW4] at HB4 HLG ⊢
  clear hW4
  go_wp2_with fail
  go_loopw [5] (fun s5 wr => ∃ i : Nat, i ≤ l.length ∧ s5 = .int .i64 (i : Int) ∧ Below W4.heap.size W4 wr) (fun s5 _ => l.length - (intOf s5).toNat)
  case atStart => exact ⟨0, Nat.zero_le _, rfl, Below.refl _ _⟩
  case round =>
    obtain ⟨i, hi, rfl, hB⟩ := hrel
    have HB := Lib.hid hB
    clear hB
    by_cases hil : i < l.length
    · obtain ⟨x, hx⟩ : ∃ x, l[i]? = some x := ⟨_, List.getElem?_eq_getElem hil⟩
      obtain ⟨gi, offi, hat, -⟩ := HLG.out i x hx
      subst hat
      have HX := Lib.hid hx
      have HIL := Lib.hid hil
      have i0 : (0 : Int) ≤ (i : Int) := by omega
      have i1 : (i : Int) < (l.length : Int) := by omega
      obtain ⟨wo, rfl⟩ : ∃ wo : World, wo = wr := ⟨_, rfl⟩
      have HXC := Lib.hid (fun (W : World) (hW : Below W4.heap.size W4 W) => lg_cells HLG.out hx hW)
      clear hx hil hi
      go_wp2_with fail
      go_loopw [6] (fun s6 wr => ∃ k : Nat, k ≤ i ∧ s6 = .int .i64 (k : Int) ∧ Below wo.heap.size wo wr) (fun s6 _ => i - (intOf s6).toNat)
      case atStart => exact ⟨0, Nat.zero_le _, rfl, Below.refl _ _⟩
      case round =>
        obtain ⟨k, hk, rfl, hB⟩ := hrel
        have HB2 := Lib.hid (below_call HB.out hB)
        have HB0 := Lib.hid hB
        clear hB
        by_cases hki : k < i
        · obtain ⟨y, hy⟩ : ∃ y, l[k]? = some y := ⟨_, List.getElem?_eq_getElem (by have := HIL.out; omega)⟩
          have HOVX := Lib.hid (HOV.out i k x y hki HX.out hy)
          have HYC := Lib.hid (fun (W : World) (hW : Below W4.heap.size W4 W) => lg_cells HLG.out hy hW)
          have HKI := Lib.hid hki
          have k0 : (0 : Int) ≤ (k : Int) := by omega
          have k1 : (k : Int) < (i : Int) := by omega
          have k2 : (k : Int) < (l.length : Int) := by have := HIL.out; omega
          obtain ⟨gl, x0, x1, x2, x3, x4⟩ := HXC.out wr HB2.out
          obtain ⟨-, y0, y1, y2, y3, y4⟩ := HYC.out wr HB2.out
          obtain ⟨xv, xb, xs, xf, xt⟩ := x
          obtain ⟨yv, yb, ys, yf, yt⟩ := y
          dsimp only at x0 x1 x2 x3 x4 y0 y1 y2 y3 y4 HOVX
          clear hy hki hk
          go_upto_region 11 with fail
          by_cases hb : (xb == yb) = true
          · have hbn : (xb != yb) = false := by simpa using hb
            obtain ⟨h1, h2⟩ := HOVX.out (by simpa using hb)
            have h3 : ¬ xf < yt := by omega
            have h4 : (xs == ys) = true := by simpa using h2
            have h5 : (xs != ys) = false := by simpa using h2
            clear h1 h2
            go_quiet (fail)
            rename_i nq
            have z1 : Below W4.heap.size W4 (wr.drewN nq) := below_call HB2.out (below_drewN1 _ _)
            go_upto_region 12 with fail
            go_quiet (fail)
            rename_i nq2
            go_wp2_with fail
            exact ⟨⟨k + 1, HKI.out, rfl, below_call HB0.out (below_drewN1 _ _)⟩, by have := HKI.out; simp [intOf]; omega⟩
          · have hbn : (xb != yb) = true := by simpa using hb
            go_quiet (fail)
            rename_i nq
            go_wp2_with fail
            exact ⟨⟨k + 1, HKI.out, rfl, below_call HB0.out (below_drewN1 _ _)⟩, by have := HKI.out; simp [intOf]; omega⟩
        · obtain rfl : k = i := by omega
          have kx : ¬ ((k : Int) < (k : Int)) := by omega
          clear hki hk
          go_wp2_with fail
          exact ⟨⟨k + 1, HIL.out, rfl, HB2.out⟩, by have := HIL.out; simp [intOf]; omega⟩
    · obtain rfl : i = l.length := by omega
      have kx : ¬ ((l.length : Int) < (l.length : Int)) := by omega
      have HBx := Lib.hid (below_call HB4.out HB.out)
      clear hil hi
      go_wp2_with (go_at_call 11; (with_reducible refine (LV.out _).mono ?_); rintro e w8 ⟨rfl, hb8⟩; have HB8 := Lib.hid (below_call HBx.out hb8); clear hb8)
      go_returns
      exact ⟨rfl, HB8.out⟩
end Go.Proofs.Ytmifojpmomdmeaa
