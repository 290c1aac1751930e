/- LiveHeld: the walk. -/
import Derived.Test.YtmifojpmomdmeaaLwA
import Derived.Test.YtmifojpmomdmeaaNY
import Derived.Test.YtmifojpmomdmeaaRF
import Derived.Deep.RegionHeld3
import Derived.Handy
namespace Go.Proofs.Ytmifojpmomdmeaa
open Go Go.RowKit Go.Maps
set_option linter.unusedVariables false
set_option linter.unusedSimpArgs false
set_option maxRecDepth 100000

set_option maxHeartbeats 8000000 in
theorem walk_liveHeld (FW : FwC) (w : World) (g : GrQ) (over : Bool) (hg : g.ok w) :
    Calls Try.prog 5 #[g.val, .bool over] w fun e w' => e = .returned (.bool true) ∧ Below w.heap.size w w' := by
  obtain ⟨gx, gy, gz, ca, cc, C, na, nc, ns, go⟩ := g
  have FX := Lib.hid (fun W (hW : Below w.heap.size w W) => FW ⟨gx, gy, gz, ca, cc, C, na, nc, ns, go⟩ W ⟨hg.1, hg.2.1.later hW, FlatIn.later hg.2.2.1 hW, hg.2.2.2⟩)
  have LV := Lib.hid lives29
  clear FW hg
  unfold GrQ.val at FX ⊢
  dsimp only at FX ⊢
  obtain ⟨T, Z, Z0, NL⟩ := node_type
  have hL := NL.load
  have tA := NL.agg
  have tS := NL.size
  go_enter Try.func5, Try.ntmps5
  simp only [hL]
  clear hL
  have RB := Lib.hid (RowAt.new w [.int .i64 gx, .int .i64 gy, .int .i64 gz, .slice ca C.length cc, .slice na ns.length nc, .int .i64 go] 26)
  have BB : Below w.heap.size w (w.alloc (.cells #[.int .i64 gx, .int .i64 gy, .int .i64 gz, .slice ca C.length cc, .slice na ns.length nc, .int .i64 go] 26)) := Below.alloc (Below.refl _ _) (Nat.le_refl _) _
  have FY := Lib.hid (FX.out _ BB)
  have BW := Lib.hid BB
  clear BB FX
  have hs0 : (w.alloc (.cells #[.int .i64 gx, .int .i64 gy, .int .i64 gz, .slice ca C.length cc, .slice na ns.length nc, .int .i64 go] 26)).heap.size = w.heap.size + 1 := by simp
  have HS0 := Lib.hid hs0
  clear hs0
  go_upto_region 2 with (go_at_call 8; (with_reducible refine FY.out.mono ?_); rintro e w2 ⟨⟨hx, hy, hz, da, dc, D, ma, mc, ms, ho⟩, rfl, hb2, hk2, hn2, _, hcl2, hqs2⟩; have HB2 := Lib.hid hb2; have HK2 := Lib.hid hk2; have HN2 := Lib.hid hn2; have r2 := RB.out.over hb2; have R2 := Lib.hid r2; have b0 := r2.cell 0 _ rfl; have b1 := r2.cell 1 _ rfl; have b2 := r2.cell 2 _ rfl; have b3 := r2.cell 3 _ rfl; have b4 := r2.cell 4 _ rfl; have b5 := r2.cell 5 _ rfl; have p0 := r2.fr 0; have p1 := r2.fr 1; have p2 := r2.fr 2; have p3 := r2.fr 3; have p4 := r2.fr 4; have p5 := r2.fr 5; have blt := r2.lt; clear hb2 hk2 hn2 hcl2 hqs2 r2; unfold GrQ.val; dsimp only at *)
  have R3 := Lib.hid (((((((R2.out.set (l' := [.int .i64 hx, .int .i64 gy, .int .i64 gz, .slice ca C.length cc, .slice na ns.length nc, .int .i64 go]) 0 (.int .i64 hx) (by simp) rfl).set (l' := [.int .i64 hx, .int .i64 hy, .int .i64 gz, .slice ca C.length cc, .slice na ns.length nc, .int .i64 go]) 1 (.int .i64 hy) (by simp) rfl).set (l' := [.int .i64 hx, .int .i64 hy, .int .i64 hz, .slice ca C.length cc, .slice na ns.length nc, .int .i64 go]) 2 (.int .i64 hz) (by simp) rfl).set (l' := [.int .i64 hx, .int .i64 hy, .int .i64 hz, .slice da D.length dc, .slice na ns.length nc, .int .i64 go]) 3 (.slice da D.length dc) (by simp) rfl).set (l' := [.int .i64 hx, .int .i64 hy, .int .i64 hz, .slice da D.length dc, .slice ma ms.length mc, .int .i64 go]) 4 (.slice ma ms.length mc) (by simp) rfl).set (l' := [.int .i64 hx, .int .i64 hy, .int .i64 hz, .slice da D.length dc, .slice ma ms.length mc, .int .i64 ho]) 5 (.int .i64 ho) (by simp) rfl))
  have K3 := ((((((((Kp.refl (w.heap.size + 1) w2).set w.heap.size 0 (.int .i64 hx) (by omega)).set w.heap.size 1 (.int .i64 hy) (by omega)).set w.heap.size 2 (.int .i64 hz) (by omega)).set w.heap.size 3 (.slice da D.length dc) (by omega)).set w.heap.size 4 (.slice ma ms.length mc) (by omega)).set w.heap.size 5 (.int .i64 ho) (by omega)))
  have CN3 := Lib.hid (HK2.out _ (by rw [HS0.out]; exact K3))
  have B3 := Lib.hid ((Below.setCell (Below.setCell (Below.setCell (Below.setCell (Below.setCell (Below.setCell (below_call BW.out HB2.out) (show w.heap.size ≤ (⟨w.heap.size, 0, none⟩ : Addr).block from Nat.le_refl _) (.int .i64 hx)) (show w.heap.size ≤ (⟨w.heap.size, 1, none⟩ : Addr).block from Nat.le_refl _) (.int .i64 hy)) (show w.heap.size ≤ (⟨w.heap.size, 2, none⟩ : Addr).block from Nat.le_refl _) (.int .i64 hz)) (show w.heap.size ≤ (⟨w.heap.size, 3, none⟩ : Addr).block from Nat.le_refl _) (.slice da D.length dc)) (show w.heap.size ≤ (⟨w.heap.size, 4, none⟩ : Addr).block from Nat.le_refl _) (.slice ma ms.length mc)) (show w.heap.size ≤ (⟨w.heap.size, 5, none⟩ : Addr).block from Nat.le_refl _) (.int .i64 ho)))
  clear K3 b0 b1 b2 b3 b4 b5 p0 p1 p2 p3 p4 p5 blt R2 HB2 HK2 RB FY BW
  generalize ((((((w2.setCell ⟨w.heap.size, 0, none⟩ (.int .i64 hx)).setCell ⟨w.heap.size, 1, none⟩ (.int .i64 hy)).setCell ⟨w.heap.size, 2, none⟩ (.int .i64 hz)).setCell ⟨w.heap.size, 3, none⟩ (.slice da D.length dc)).setCell ⟨w.heap.size, 4, none⟩ (.slice ma ms.length mc)).setCell ⟨w.heap.size, 5, none⟩ (.int .i64 ho)) = W3 at *
  have r3 := R3.out
  have hm2 : ms.length ≤ 12 := HN2.out
  have c0 := r3.cell 0 _ rfl
  have c1 := r3.cell 1 _ rfl
  have c2 := r3.cell 2 _ rfl
  have c3 := r3.cell 3 _ rfl
  have c4 := r3.cell 4 _ rfl
  have c5 := r3.cell 5 _ rfl
  have cl := r3.lt
  have FF := Lib.hid (fun (W : World) (hb : Below W3.heap.size W3 W) => lives_lg ⟨hx, hy, hz, da, dc, D, ma, mc, ms, ho⟩ over W (CN3.out.1.later hb) (FlatIn.later CN3.out.2 hb) (by show ms.length ≤ 1000; omega))
  have FFO := Lib.hid (fun (he : (graphE (GrQ.gr ⟨hx, hy, hz, da, dc, D, ma, mc, ms, ho⟩)).1 = 0) => lgs_ok (g := ⟨hx, hy, hz, da, dc, D, ma, mc, ms, ho⟩) (over := over) he (by show ms.length ≤ 1000; omega))
  have FFN := Lib.hid (fun (he : (graphE (GrQ.gr ⟨hx, hy, hz, da, dc, D, ma, mc, ms, ho⟩)).1 = 0) => show (lvM ⟨hx, hy, hz, da, dc, D, ma, mc, ms, ho⟩ over).L.length ≤ 12 from Nat.le_trans (ord_mem he).1 hm2)
  have HD := Lib.hid (fun (he : (graphE (GrQ.gr ⟨hx, hy, hz, da, dc, D, ma, mc, ms, ho⟩)).1 = 0) => held_lg (g := ⟨hx, hy, hz, da, dc, D, ma, mc, ms, ho⟩) (over := over) he)
  obtain ⟨l, hl⟩ : ∃ x, x = lgs (lvM ⟨hx, hy, hz, da, dc, D, ma, mc, ms, ho⟩ over).lives := ⟨_, rfl⟩
  have HLL := Lib.hid (show (lvM ⟨hx, hy, hz, da, dc, D, ma, mc, ms, ho⟩ over).L.length = l.length by rw [hl, lgs_len, lives_len])
  rw [← hl] at FF FFO HD
  rw [HLL.out] at FF FFN HD
  obtain ⟨ec, hE⟩ : ∃ E, E = (graphE (GrQ.gr ⟨hx, hy, hz, da, dc, D, ma, mc, ms, ho⟩)).1 := ⟨_, rfl⟩
  rw [← hE] at FF FFO FFN HD
  unfold GrQ.val at FF
  dsimp only at FF HD
  clear hE hl HLL r3
  by_cases h0 : ec = 0
  case neg =>
    have h0b : (ec != 0) = true := by simpa using h0
    have HO := Lib.hid h0
    clear h0
    go_wp2_with (first | (go_at_call 9; (with_reducible refine (FF.out _ (Below.refl _ _)).mono ?_); rintro e w4 ⟨hb4, hno, _⟩; obtain rfl := hno HO.out; have HB4 := Lib.hid (below_call B3.out hb4); clear hb4 hno) | (go_at_call 11; (with_reducible refine (LV.out _).mono ?_); rintro e w8 ⟨rfl, hb8⟩; have HB8 := Lib.hid (below_call HB4.out hb8); clear hb8))
    go_ret
    exact ⟨rfl, HB8.out⟩
  subst h0
  have HOK := Lib.hid (FFO.out (by trivial))
  have HN := Lib.hid (FFN.out (by trivial))
  have HDD := Lib.hid (HD.out (by trivial))
  have RIA := Lib.hid (fun (n : Nd) (W : World) => rins n W)
  clear FFO FFN HD
  go_upto_region 5 with (go_at_call 9; (with_reducible refine (FF.out _ (Below.refl _ _)).mono ?_); rintro e w4 ⟨hb4, _, hyes⟩; obtain ⟨la, lc, rfl, hlc, hlg⟩ := hyes (by trivial); have HB34 := Lib.hid hb4; have HB4 := Lib.hid (below_call B3.out hb4); have HLG := Lib.hid hlg; have HLC := Lib.hid hlc; clear hb4 hyes hlc hlg)
  clear c0 c1 c2 c3 c4 c5 cl FF
  have RG4 := Lib.hid (R3.out.over HB34.out)
  have hli : (l.length : Int) ≤ 12 := by have := HN.out; omega
  obtain ⟨W4, hW4⟩ : ∃ W, W = w4 := ⟨_, rfl⟩
  rw [← hW4] at HB34 HB4 HLG RG4 ⊢
  clear hW4
  go_wp2_with fail
  go_loopw [7] (fun s7 wr => ∃ i : Nat, i ≤ l.length ∧ s7 = .int .i64 (i : Int) ∧ Below W4.heap.size W4 wr) (fun s7 _ => l.length - (intOf s7).toNat)
  case atStart => exact ⟨0, Nat.zero_le _, rfl, Below.refl _ _⟩
  case round =>
    obtain ⟨i, hi, rfl, hB⟩ := hrel
    have HB := Lib.hid hB
    clear hB
    by_cases hil : i < l.length
    · obtain ⟨x, hx⟩ : ∃ x, l[i]? = some x := ⟨_, List.getElem?_eq_getElem hil⟩
      obtain ⟨gi, offi, hat, -⟩ := HLG.out i x hx
      subst hat
      obtain ⟨j, nd, hv, hnd, hxf, hxt, hout, hnn, hin⟩ := HDD.out i x hx
      have hjn : j < ms.length := (List.getElem?_eq_some_iff.1 hnd).1
      obtain ⟨nb, noff, hna, hnb, hrg⟩ := nds_range CN3.out.2 j nd hnd
      subst hna
      have HIL := Lib.hid hil
      have HIN := Lib.hid hin
      have HNN := Lib.hid hnn
      have HOUT := Lib.hid hout
      have i0 : (0 : Int) ≤ (i : Int) := by omega
      have i1 : (i : Int) < (l.length : Int) := by omega
      have HXC := Lib.hid (fun (W : World) (hW : Below W4.heap.size W4 W) => lg_cells HLG.out hx hW)
      obtain ⟨xv, xb, xs, xf, xt⟩ := x
      dsimp only at hv hxf hxt HXC HOUT
      obtain ⟨xp, hxp⟩ : ∃ x : Nat, x = j + 1 := ⟨_, rfl⟩
      rw [← hxp] at hv
      subst hv hxf
      have x0 : ¬ (xp : Int) < 1 := by omega
      have x1 : ¬ (ms.length : Int) < (xp : Int) := by omega
      have x2 : ¬ xt < (i : Int) := by omega
      have j0 : (0 : Int) ≤ (j : Int) := by omega
      have j1 : (j : Int) < (ms.length : Int) := by omega
      have hw : IntKind.i64.wrap ((xp : Int) - 1) = (j : Int) := by rw [hxp]; simp [IntKind.wrap, IntKind.signed, IntKind.bits]; omega
      have hw2 : (xp : Int) - 1 = (j : Int) := by omega
      have hw3 : IntKind.i64.wrap (j : Int) = (j : Int) := by simp [IntKind.wrap, IntKind.signed, IntKind.bits]; omega
      have HRG := Lib.hid (fun (W : World) (hW : Below W3.heap.size W3 W) => NL.read nd W nb (noff + j * 26) (fun q v hv => (hW.cell (p := ⟨nb, _, none⟩) hnb).trans (hrg q v hv)))
      have RI := Lib.hid (fun W => RIA.out nd W)
      have hmc : (mc : Int) ≤ 9223372036854775807 := by have : mc ≤ 9223372036854775807 := CN3.out.2.2.1; omega
      have tLn := NL.len nd
      have HNB := Lib.hid hnb
      clear hx hil hi hrg hnd hxp hin hnn hout hjn hxt hnb
      obtain ⟨gl, y0, y1, y2, y3, y4⟩ := HXC.out wr HB.out
      have rg := RG4.out.over HB.out
      have c4 := rg.cell 4 _ rfl
      have cl := rg.lt
      obtain ⟨wo, hwo⟩ : ∃ W : World, W = wr := ⟨_, rfl⟩
      rw [← hwo] at HB gl y0 y1 y2 y3 y4 c4 cl ⊢
      clear hwo rg
      go_upto_region 8 with fail
      go_quiet (fail)
      rename_i nq
      go_upto_region 10 with fail
      obtain ⟨w9, hw9⟩ : ∃ W, W = wo.drewN nq := ⟨_, rfl⟩
      have HW9 := Lib.hid (show Below W4.heap.size W4 w9 by rw [hw9]; exact below_call HB.out (below_drewN1 _ _))
      rw [← hw9]
      clear hw9 gl y0 y1 y2 y3 y4 c4 cl
      have B39 := Lib.hid (below_call HB34.out HW9.out)
      have RG9 := Lib.hid (RG4.out.over HW9.out)
      have XC9 := Lib.hid (HXC.out w9 HW9.out)
      have PT := Lib.hid (show ∀ W', Below w9.heap.size w9 W' → (fun (w' : World) => w'.cell? ⟨w.heap.size, 4, none⟩ = some (.slice (some ⟨nb, noff, none⟩) ms.length mc) ∧ w'.cell? ⟨gi, offi + i * 5, none⟩ = some (.int .i64 (xp : Int)) ∧ (loadCellsFrom ⟨nb, noff + j * 26, none⟩ 0 Z #[]).run Try.prog w' = .ok nd.cells.toArray w' ∧ gi < w'.heap.size ∧ w.heap.size < w'.heap.size ∧ nb < w'.heap.size) W' from fun W' h => ⟨(RG9.out.over h).cell 4 _ rfl, (HXC.out W' (below_call HW9.out h)).2.1, HRG.out W' (below_call B39.out h), (HXC.out W' (below_call HW9.out h)).1, (RG9.out.over h).lt, Nat.lt_of_lt_of_le HNB.out (below_call B39.out h).size⟩)
      refine wp_region_held_drew (S := (fun (w' : World) => w'.cell? ⟨w.heap.size, 4, none⟩ = some (.slice (some ⟨nb, noff, none⟩) ms.length mc) ∧ w'.cell? ⟨gi, offi + i * 5, none⟩ = some (.int .i64 (xp : Int)) ∧ (loadCellsFrom ⟨nb, noff + j * 26, none⟩ 0 Z #[]).run Try.prog w' = .ok nd.cells.toArray w' ∧ gi < w'.heap.size ∧ w.heap.size < w'.heap.size ∧ nb < w'.heap.size)) (by kernel_rfl) (by exact PT.out _ (Below.refl _ _).drew) (fun hHeld => ?_)
      refine wpAnyH_take (i := 0) (oi := _) (v := ?vb0) rfl (by kernel_rfl) (by kernel_rfl) (by kernel_rfl) (fun _ _ _ h => h) (Or.inl ⟨by rfl, ?yb0⟩) hHeld ?rb0
      case yb0 => (intro wq hSw; (try dsimp only at hSw); go_simp; try with_reducible rfl)
      try simp only [Act.put, List.getElem_toArray, List.getElem_cons_zero, List.setIfInBounds_toArray, List.set_cons_zero, List.set_cons_succ]
      refine wpAnyH_take (i := 1) (oi := _) (v := ?vb1) rfl (by kernel_rfl) (by kernel_rfl) (by kernel_rfl) (fun _ _ _ h => h) (Or.inl ⟨by rfl, ?yb1⟩) hHeld ?rb1
      case yb1 => (intro wq hSw; (try dsimp only at hSw); go_simp; try with_reducible rfl)
      try simp only [Act.put, List.getElem_toArray, List.getElem_cons_zero, List.getElem_cons_succ, List.setIfInBounds_toArray, List.set_cons_zero, List.set_cons_succ]
      refine wpAnyH_take (i := 2) (oi := _) (v := ?vb2) rfl (by kernel_rfl) (by kernel_rfl) (by kernel_rfl) (fun _ _ _ h => h) (Or.inl ⟨by rfl, ?yb2⟩) hHeld ?rb2
      case yb2 => (intro wq hSw; (try dsimp only at hSw); go_simp; try with_reducible rfl)
      try simp only [Act.put, List.getElem_toArray, List.getElem_cons_zero, List.getElem_cons_succ, List.setIfInBounds_toArray, List.set_cons_zero, List.set_cons_succ]
      refine wpAnyH_take (i := 3) (oi := _) (v := ?vb3) rfl (by kernel_rfl) (by kernel_rfl) (by kernel_rfl) (fun _ _ _ h => h) (Or.inl ⟨by rfl, ?yb3⟩) hHeld ?rb3
      case yb3 => (intro wq hSw; (try dsimp only at hSw); go_simp; try with_reducible rfl)
      try simp only [Act.put, List.getElem_toArray, List.getElem_cons_zero, List.getElem_cons_succ, List.setIfInBounds_toArray, List.set_cons_zero, List.set_cons_succ]
      refine wpAnyH_take (i := 4) (oi := _) (v := ?vb4) rfl (by kernel_rfl) (by kernel_rfl) (by kernel_rfl) (fun _ _ _ h => h) (Or.inl ⟨by rfl, ?yb4⟩) hHeld ?rb4
      case yb4 => (intro wq hSw; (try dsimp only at hSw); go_simp; try with_reducible rfl)
      try simp only [Act.put, List.getElem_toArray, List.getElem_cons_zero, List.getElem_cons_succ, List.setIfInBounds_toArray, List.set_cons_zero, List.set_cons_succ]
      refine wpAnyH_take (i := 5) (oi := _) (v := ?vb5) rfl (by kernel_rfl) (by kernel_rfl) (by kernel_rfl) (fun _ _ _ h => h) (Or.inl ⟨by rfl, ?yb5⟩) hHeld ?rb5
      case yb5 => (intro wq hSw; (try dsimp only at hSw); go_simp; try with_reducible rfl)
      try simp only [Act.put, List.getElem_toArray, List.getElem_cons_zero, List.getElem_cons_succ, List.setIfInBounds_toArray, List.set_cons_zero, List.set_cons_succ]
      refine wpAnyH_take (i := 6) (oi := _) (v := ?vb6) rfl (by kernel_rfl) (by kernel_rfl) (by kernel_rfl) (fun _ _ _ h => h) (Or.inl ⟨by rfl, ?yb6⟩) hHeld ?rb6
      case yb6 => (intro wq hSw; (try dsimp only at hSw); go_simp; try with_reducible rfl)
      try simp only [Act.put, List.getElem_toArray, List.getElem_cons_zero, List.getElem_cons_succ, List.setIfInBounds_toArray, List.set_cons_zero, List.set_cons_succ]
      refine wpAnyH_take (i := 7) (oi := _) (v := ?vb7) rfl (by kernel_rfl) (by kernel_rfl) (by kernel_rfl) (fun _ _ _ h => h) (Or.inl ⟨by rfl, ?yb7⟩) hHeld ?rb7
      case yb7 => (intro wq hSw; (try dsimp only at hSw); go_simp; try with_reducible rfl)
      try simp only [Act.put, List.getElem_toArray, List.getElem_cons_zero, List.getElem_cons_succ, List.setIfInBounds_toArray, List.set_cons_zero, List.set_cons_succ]
      refine wpAnyH_take (i := 8) (oi := _) (v := ?vb8) rfl (by kernel_rfl) (by kernel_rfl) (by kernel_rfl) (fun _ _ _ h => h) (Or.inl ⟨by rfl, ?yb8⟩) hHeld ?rb8
      case yb8 => (intro wq hSw; (try dsimp only at hSw); go_simp; try with_reducible rfl)
      try simp only [Act.put, List.getElem_toArray, List.getElem_cons_zero, List.getElem_cons_succ, List.setIfInBounds_toArray, List.set_cons_zero, List.set_cons_succ]
      refine wpAnyH_take (i := 9) (oi := _) (v := ?vb9) rfl (by kernel_rfl) (by kernel_rfl) (by kernel_rfl) (fun _ _ _ h => h) (Or.inl ⟨by rfl, ?yb9⟩) hHeld ?rb9
      case yb9 => (intro wq hSw; (try dsimp only at hSw); go_simp; try with_reducible rfl)
      try simp only [Act.put, List.getElem_toArray, List.getElem_cons_zero, List.getElem_cons_succ, List.setIfInBounds_toArray, List.set_cons_zero, List.set_cons_succ]
      refine wpAnyH_ready (rs := [10]) (by kernel_rfl) (by simp) ?_
      refine AllReadyH.cons (o := _) rfl (fun K hK => ?_) AllReadyH.nil
      go_simp
      (with_reducible refine (RI.out _).mono ?_); rintro e w10 ⟨at0, ci, rfl, hb10, hin⟩; have hIw10 : Below w9.heap.size w9 w10 := (by first | exact hb10 | exact below_call (Below.refl w9.heap.size w9).drew hb10)
      refine hK.out _ _ (PT.out w10 hIw10) (fun hHeld2 => ?_)
      clear hK K hHeld
      have hHeld := hHeld2
      clear hHeld2
      try simp only [Act.put, List.getElem_toArray, List.getElem_cons_zero, List.getElem_cons_succ, List.setIfInBounds_toArray, List.set_cons_zero, List.set_cons_succ]
      refine wpAnyH_take (i := 11) (oi := _) (v := ?vb11) rfl (by kernel_rfl) (by kernel_rfl) (by kernel_rfl) (fun _ _ _ h => h) (Or.inl ⟨by rfl, ?yb11⟩) hHeld ?rb11
      case yb11 => (intro wq hSw; (try dsimp only at hSw); go_simp; try with_reducible rfl)
      try simp only [Act.put, List.getElem_toArray, List.getElem_cons_zero, List.getElem_cons_succ, List.setIfInBounds_toArray, List.set_cons_zero, List.set_cons_succ]
      refine wpAnyH_done (by kernel_rfl) ?_ _
      try go_simp
      clear hHeld
      have HW10 := Lib.hid (below_call HW9.out hIw10)
      have HAT := Lib.hid (ins_numsW hin HNN.out)
      have hil2 : ((insN nd).length : Int) ≤ 2 := by have := ins_len nd; omega
      have HIL2 := Lib.hid (show (insN nd).length ≤ 2 by omega)
      have HRIN := Lib.hid (fun (v : Nat) (W : World) (hW : Below w10.heap.size w10 W) => rin_any at0 ci ((insN nd).map Int.toNat) v W (HAT.out.over hW) (by rw [List.length_map]; have := HIL2.out; omega))
      rw [List.length_map] at HRIN
      clear hIw10 hin
      go_wp2_with fail
      go_loopw [9] (fun s9 wx => ∃ k : Nat, k ≤ l.length ∧ s9 = .int .i64 (k : Int) ∧ Below w10.heap.size w10 wx) (fun s9 _ => l.length - (intOf s9).toNat)
      case atStart => exact ⟨0, Nat.zero_le _, rfl, Below.refl _ _⟩
      case round =>
        obtain ⟨k, hk, rfl, hB⟩ := hrel
        have HB11 := Lib.hid hB
        have HB2 := Lib.hid (below_call HW10.out hB)
        clear hB
        by_cases hkl : k < l.length
        · obtain ⟨y, hy⟩ : ∃ y, l[k]? = some y := ⟨_, List.getElem?_eq_getElem hkl⟩
          obtain ⟨yp, hyv, hyh⟩ := HIN.out k y hy
          have HYH := Lib.hid hyh
          have HKL := Lib.hid hkl
          have k0 : (0 : Int) ≤ (k : Int) := by omega
          have k1 : (k : Int) < (l.length : Int) := by omega
          have HYC := Lib.hid (fun (W : World) (hW : Below W4.heap.size W4 W) => lg_cells HLG.out hy hW)
          obtain ⟨yv, yb, ys, yf, yt⟩ := y
          dsimp only at hyv HYC HYH
          subst hyv
          have RN := Lib.hid (HRIN.out yp wr HB11.out)
          obtain ⟨gl, y0, y1, y2, y3, y4⟩ := HYC.out wr HB2.out
          clear hy hyh hkl hk
          by_cases hm : yp ∈ (insN nd).map Int.toNat
          · rw [decide_eq_true hm] at RN
            obtain ⟨h1, h2⟩ := HYH.out hm
            have h3 : ¬ (i : Int) ≤ yf := by omega
            have h4 : ¬ yt < (i : Int) := by omega
            clear hm h1 h2
            go_wp2_with (go_at_call 16; (with_reducible refine RN.out.mono ?_); rintro e w12 ⟨rfl, hb12⟩; have HB12 := Lib.hid (below_call HB11.out hb12); obtain ⟨gl, y0, y1, y2, y3, y4⟩ := HYC.out w12 (below_call HB2.out hb12); clear hb12)
            exact ⟨⟨k + 1, HKL.out, rfl, HB12.out⟩, by have := HKL.out; simp [intOf]; omega⟩
          · rw [decide_eq_false hm] at RN
            clear hm
            go_wp2_with (go_at_call 16; (with_reducible refine RN.out.mono ?_); rintro e w12 ⟨rfl, hb12⟩; have HB12 := Lib.hid (below_call HB11.out hb12); clear hb12)
            exact ⟨⟨k + 1, HKL.out, rfl, HB12.out⟩, by have := HKL.out; simp [intOf]; omega⟩
        · obtain rfl : k = l.length := by omega
          have kx : ¬ ((l.length : Int) < (l.length : Int)) := by omega
          obtain ⟨gl, y0, y1, y2, y3, y4⟩ := HXC.out wr HB2.out
          have rg := RG4.out.over HB2.out
          have c5 := rg.cell 5 _ rfl
          have cl := rg.lt
          clear hkl hk rg
          go_upto_region 16 with fail
          by_cases hoe : (xp : Int) = ho
          · have h1 : ((xp : Int) == ho) = true := by simpa using hoe
            have h2 : (xt == (l.length : Int)) = true := by simpa using HOUT.out hoe
            have h3 : (xt != (l.length : Int)) = false := by simpa using HOUT.out hoe
            clear hoe
            go_quiet (fail)
            rename_i nq2
            go_wp2_with fail
            exact ⟨⟨i + 1, HIL.out, rfl, below_call HB2.out (below_drewN1 _ _)⟩, by have := HIL.out; simp [intOf]; omega⟩
          · have h1 : ((xp : Int) == ho) = false := by simpa using hoe
            clear hoe
            go_quiet (fail)
            rename_i nq2
            go_wp2_with fail
            exact ⟨⟨i + 1, HIL.out, rfl, below_call HB2.out (below_drewN1 _ _)⟩, by have := HIL.out; simp [intOf]; omega⟩
    · obtain rfl : i = l.length := by omega
      have kx : ¬ ((l.length : Int) < (l.length : Int)) := by omega
      have HBx := Lib.hid (below_call HB4.out HB.out)
      clear hil hi
      go_wp2_with (go_at_call 11; (with_reducible refine (LV.out _).mono ?_); rintro e w8 ⟨rfl, hb8⟩; have HB8 := Lib.hid (below_call HBx.out hb8); clear hb8)
      go_returns
      exact ⟨rfl, HB8.out⟩
end Go.Proofs.Ytmifojpmomdmeaa
