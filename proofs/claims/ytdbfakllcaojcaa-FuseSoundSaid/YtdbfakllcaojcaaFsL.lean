/- FuseSound: the walk. -/
import Derived.Test.YtdbfakllcaojcaaFuF
import Derived.Test.YtdbfakllcaojcaaFS
import Derived.Test.YtdbfakllcaojcaaRsS
import Derived.Test.YtdbfakllcaojcaaLv27
namespace Go.Proofs.Ytdbfakllcaojcaa
open Go Go.RowKit
set_option linter.unusedVariables false
set_option linter.unusedSimpArgs false
set_option maxRecDepth 100000

/-- what Fuse makes of a sound network is sound, of the same shapes -/
theorem ff_graph {g h : GrQ} {S : FuS} (hS : S = fuN ⟨g.ns, usesR g, 0⟩ g.ns.length) (he : (graphE g.gr).1 = 0) (hx : h.x = g.x) (hy : h.y = g.y) (hz : h.z = g.z) (ho : h.o = g.o) (hC : h.C.map CnQ.cn = g.C.map CnQ.cn) (hn : h.ns = S.ns) :
    graphE h.gr = graphE g.gr ∧ S.m ≤ g.ns.length ∧ h.ns.length = g.ns.length := by
  obtain ⟨r, h1, h2⟩ := fuI_start (g := g.gr) (L := usesR g) he (usesR_len g) (fun i hi => usesR_at g he i hi)
  have h3 : FuI g.gr.C g.gr.out g.gr.inp r g.gr.ns.length S ∧ S.m ≤ g.ns.length := by rw [hS]; exact fuN_inv h1 rfl g.ns.length (Nat.le_refl _)
  have h4 := FuI.graph h3.1 he h2
  refine ⟨?_, h3.2, by rw [hn]; exact h3.1.len⟩
  rw [← h4]
  congr 1
  show GrQ.gr h = _
  unfold GrQ.gr
  rw [hx, hy, hz, ho, hC, hn]
set_option maxHeartbeats 8000000 in
theorem walk_sound (FW : FwC) (CP : CpC) (w : World) (g : GrQ) (hg : g.ok w) :
    Calls Try.prog 5 #[g.val] w fun e w' => e = .returned (.bool true) ∧ Below w.heap.size w w' := by
  obtain ⟨gx, gy, gz, ca, cc, C, na, nc, ns, go⟩ := g
  have FX := Lib.hid (fun W (hW : Below w.heap.size w W) => FW ⟨gx, gy, gz, ca, cc, C, na, nc, ns, go⟩ W ⟨hg.1, hg.2.1.later hW, FlatIn.later hg.2.2.1 hW, hg.2.2.2⟩)
  have LV := Lib.hid (fun W => lives27 W)
  clear FW hg
  unfold GrQ.val at FX ⊢
  dsimp only at FX ⊢
  go_enter Try.func5, Try.ntmps5
  have RB := Lib.hid (RowAt.new w [.int .i64 gx, .int .i64 gy, .int .i64 gz, .slice ca C.length cc, .slice na ns.length nc, .int .i64 go] 26)
  have BB : Below w.heap.size w (w.alloc (.cells #[.int .i64 gx, .int .i64 gy, .int .i64 gz, .slice ca C.length cc, .slice na ns.length nc, .int .i64 go] 26)) := Below.alloc (Below.refl _ _) (Nat.le_refl _) _
  have FY := Lib.hid (FX.out _ BB)
  have BW := Lib.hid BB
  clear BB FX
  have hs0 : (w.alloc (.cells #[.int .i64 gx, .int .i64 gy, .int .i64 gz, .slice ca C.length cc, .slice na ns.length nc, .int .i64 go] 26)).heap.size = w.heap.size + 1 := by simp
  have HS0 := Lib.hid hs0
  clear hs0
  go_wp2_with (go_at_call 10; (with_reducible refine FY.out.mono ?_); rintro e w2 ⟨⟨hx, hy, hz, da, dc, D, ma, mc, ms, ho⟩, rfl, hb2, hk2, hn2, _, hcl2, hqs2⟩; have HB2 := Lib.hid hb2; have HK2 := Lib.hid hk2; have HN2 := Lib.hid hn2; have HC2 := Lib.hid hcl2; have HQ2 := Lib.hid hqs2; have r2 := RB.out.over hb2; have R2 := Lib.hid r2; have b0 := r2.cell 0 _ rfl; have b1 := r2.cell 1 _ rfl; have b2 := r2.cell 2 _ rfl; have b3 := r2.cell 3 _ rfl; have b4 := r2.cell 4 _ rfl; have b5 := r2.cell 5 _ rfl; have p0 := r2.fr 0; have p1 := r2.fr 1; have p2 := r2.fr 2; have p3 := r2.fr 3; have p4 := r2.fr 4; have p5 := r2.fr 5; have blt := r2.lt; clear hb2 hk2 hn2 hcl2 hqs2 r2; unfold GrQ.val; dsimp only at *)
  have R3 := Lib.hid ((((((R2.out.set (l' := [.int .i64 hx, .int .i64 gy, .int .i64 gz, .slice ca C.length cc, .slice na ns.length nc, .int .i64 go]) 0 (.int .i64 hx) (by simp) rfl).set (l' := [.int .i64 hx, .int .i64 hy, .int .i64 gz, .slice ca C.length cc, .slice na ns.length nc, .int .i64 go]) 1 (.int .i64 hy) (by simp) rfl).set (l' := [.int .i64 hx, .int .i64 hy, .int .i64 hz, .slice ca C.length cc, .slice na ns.length nc, .int .i64 go]) 2 (.int .i64 hz) (by simp) rfl).set (l' := [.int .i64 hx, .int .i64 hy, .int .i64 hz, .slice da D.length dc, .slice na ns.length nc, .int .i64 go]) 3 (.slice da D.length dc) (by simp) rfl).set (l' := [.int .i64 hx, .int .i64 hy, .int .i64 hz, .slice da D.length dc, .slice ma ms.length mc, .int .i64 go]) 4 (.slice ma ms.length mc) (by simp) rfl).set (l' := [.int .i64 hx, .int .i64 hy, .int .i64 hz, .slice da D.length dc, .slice ma ms.length mc, .int .i64 ho]) 5 (.int .i64 ho) (by simp) rfl)
  have K3 := ((((((Kp.refl (w.heap.size + 1) w2).set w.heap.size 0 (.int .i64 hx) (by omega)).set w.heap.size 1 (.int .i64 hy) (by omega)).set w.heap.size 2 (.int .i64 hz) (by omega)).set w.heap.size 3 (.slice da D.length dc) (by omega)).set w.heap.size 4 (.slice ma ms.length mc) (by omega)).set w.heap.size 5 (.int .i64 ho) (by omega)
  have CN3 := Lib.hid (HK2.out _ (by rw [HS0.out]; exact K3))
  have B3 := Lib.hid (Below.setCell (Below.setCell (Below.setCell (Below.setCell (Below.setCell (Below.setCell (below_call BW.out HB2.out) (show w.heap.size ≤ (⟨w.heap.size, 0, none⟩ : Addr).block from Nat.le_refl _) (.int .i64 hx)) (show w.heap.size ≤ (⟨w.heap.size, 1, none⟩ : Addr).block from Nat.le_refl _) (.int .i64 hy)) (show w.heap.size ≤ (⟨w.heap.size, 2, none⟩ : Addr).block from Nat.le_refl _) (.int .i64 hz)) (show w.heap.size ≤ (⟨w.heap.size, 3, none⟩ : Addr).block from Nat.le_refl _) (.slice da D.length dc)) (show w.heap.size ≤ (⟨w.heap.size, 4, none⟩ : Addr).block from Nat.le_refl _) (.slice ma ms.length mc)) (show w.heap.size ≤ (⟨w.heap.size, 5, none⟩ : Addr).block from Nat.le_refl _) (.int .i64 ho))
  clear K3 b0 b1 b2 b3 b4 b5 p0 p1 p2 p3 p4 p5 blt R2 HB2 HK2 RB FY BW
  generalize (((((w2.setCell ⟨w.heap.size, 0, none⟩ (.int .i64 hx)).setCell ⟨w.heap.size, 1, none⟩ (.int .i64 hy)).setCell ⟨w.heap.size, 2, none⟩ (.int .i64 hz)).setCell ⟨w.heap.size, 3, none⟩ (.slice da D.length dc)).setCell ⟨w.heap.size, 4, none⟩ (.slice ma ms.length mc)).setCell ⟨w.heap.size, 5, none⟩ (.int .i64 ho) = W3 at *
  have r3 := R3.out
  have hm2 : ms.length ≤ 12 := HN2.out
  have hd2 : D.length ≤ 20 := HC2.out
  have c0 := r3.cell 0 _ rfl
  have c1 := r3.cell 1 _ rfl
  have c2 := r3.cell 2 _ rfl
  have c3 := r3.cell 3 _ rfl
  have c4 := r3.cell 4 _ rfl
  have c5 := r3.cell 5 _ rfl
  have cl := r3.lt
  have RS := Lib.hid (fun (W : World) (hb : Below W3.heap.size W3 W) => rshapes_any ⟨hx, hy, hz, da, dc, D, ma, mc, ms, ho⟩ W (CN3.out.1.later hb) (FlatIn.later CN3.out.2 hb) (by show ms.length ≤ 1000; omega))
  have FF := Lib.hid (fun (W : World) (hb : Below W3.heap.size W3 W) => fuse_any CP ⟨hx, hy, hz, da, dc, D, ma, mc, ms, ho⟩ W (CN3.out.1.later hb) (FlatIn.later CN3.out.2 hb) (by show ms.length ≤ 1000; omega) (by show D.length ≤ 1000; omega) (fun q hq => by have := HQ2.out q hq; omega))
  have GRA := Lib.hid (fun (h : GrQ) (S : FuS) => ff_graph (g := ⟨hx, hy, hz, da, dc, D, ma, mc, ms, ho⟩) (h := h) (S := S))
  have GOK := Lib.hid (fun h => (graph_ok (g := GrQ.gr ⟨hx, hy, hz, da, dc, D, ma, mc, ms, ho⟩) h).2)
  unfold RShPost at RS
  unfold FfPost at FF
  obtain ⟨E, hE⟩ : ∃ E, E = graphE (GrQ.gr ⟨hx, hy, hz, da, dc, D, ma, mc, ms, ho⟩) := ⟨_, rfl⟩
  rw [← hE] at RS FF GRA GOK
  obtain ⟨ec, el⟩ := E
  unfold GrQ.val at RS FF
  dsimp only at RS FF GRA GOK
  clear hE r3
  by_cases h0 : ec = 0
  case neg =>
    have h0b : (ec != 0) = true := by simpa using h0
    have HO := Lib.hid h0
    clear h0
    go_upto_region 3 with (go_at_call 12; (with_reducible refine (RS.out _ (Below.refl _ _)).mono ?_); rintro e w4 ⟨v, rfl, hb4, _, _⟩; have HB4 := Lib.hid hb4; replace c0 := (R3.out.over hb4).cell 0 _ rfl; replace c1 := (R3.out.over hb4).cell 1 _ rfl; replace c2 := (R3.out.over hb4).cell 2 _ rfl; replace c3 := (R3.out.over hb4).cell 3 _ rfl; replace c4 := (R3.out.over hb4).cell 4 _ rfl; replace c5 := (R3.out.over hb4).cell 5 _ rfl; replace cl := (R3.out.over hb4).lt; clear hb4)
    go_wp2_with (first | (go_at_call 15; (with_reducible refine (FF.out _ HB4.out).mono ?_); rintro e w5 ⟨hb5, hno, _⟩; obtain rfl := hno HO.out; have HB5 := Lib.hid (below_call HB4.out hb5); clear hb5 hno) | (go_at_call 13; (with_reducible refine (LV.out _).mono ?_); rintro e w6 ⟨rfl, hb6⟩; have HB6 := Lib.hid (below_call (below_alloc1 HB5.out) hb6); clear hb6))
    go_ret
    exact ⟨rfl, below_call B3.out HB6.out⟩
  subst h0
  go_upto_region 3 with (go_at_call 12; (with_reducible refine (RS.out _ (Below.refl _ _)).mono ?_); rintro e w4 ⟨v, rfl, hb4, _, hrow⟩; have hrow := hrow (by trivial); have HB4 := Lib.hid hb4; have HROW := Lib.hid hrow; replace c0 := (R3.out.over hb4).cell 0 _ rfl; replace c1 := (R3.out.over hb4).cell 1 _ rfl; replace c2 := (R3.out.over hb4).cell 2 _ rfl; replace c3 := (R3.out.over hb4).cell 3 _ rfl; replace c4 := (R3.out.over hb4).cell 4 _ rfl; replace c5 := (R3.out.over hb4).cell 5 _ rfl; replace cl := (R3.out.over hb4).lt; clear hb4 hrow)
  go_upto_region 4 with (go_at_call 15; (with_reducible refine (FF.out _ HB4.out).mono ?_); rintro e w5 ⟨hb5, _, hyes⟩; obtain ⟨⟨kx, ky, kz, ea, ep, D2, pa, pc, ps, ko⟩, S, hS, rfl, q1, q2, q3, q4, q5, q6, hcn, hnd⟩ := hyes (by trivial); have HB5 := Lib.hid (below_call HB4.out hb5); have HB45 := Lib.hid hb5; have HGR := Lib.hid (GRA.out _ S hS (by trivial) q1 q2 q3 q4 q5 q6); have HCN := Lib.hid hcn; have HND := Lib.hid hnd; clear hb5 hyes hS q1 q2 q3 q4 q5 q6 hcn hnd; dsimp only at *)
  have hgr := HGR.out
  obtain ⟨hge, hSm, hpl⟩ := hgr
  have hpl2 : ps.length = ms.length := hpl
  have hSm2 : S.m ≤ ms.length := hSm
  have R5 := Lib.hid (R3.out.over HB5.out)
  have hal := Below.alloc (Below.refl w5.heap.size w5) (Nat.le_refl _) (.cells #[.int .i64 kx, .int .i64 ky, .int .i64 kz, .slice ea D2.length ep, .slice pa ps.length pc, .int .i64 ko] 26)
  have RY := Lib.hid (RowAt.new w5 [.int .i64 kx, .int .i64 ky, .int .i64 kz, .slice ea D2.length ep, .slice pa ps.length pc, .int .i64 ko] 26)
  have R6 := Lib.hid (R5.out.over hal)
  have HB6 := Lib.hid (below_call HB5.out hal)
  have RS2 := rshapes_any ⟨kx, ky, kz, ea, ep, D2, pa, pc, ps, ko⟩ _ (HCN.out.later hal) (FlatIn.later HND.out hal) (by show ps.length ≤ 1000; omega)
  unfold RShPost at RS2
  rw [hge] at RS2
  unfold GrQ.val at RS2
  dsimp only at RS2
  have RSY := Lib.hid RS2
  have HROW6 := Lib.hid (own_laterW HROW.out (HB45.out.trans (hal.mono HB45.out.size)))
  have hel : el.length = ms.length + 1 := GOK.out (by trivial)
  have hel1 : 0 < el.length := by omega
  have hel2 : el.length ≤ 2000 := by omega
  clear hel hpl2
  clear RS2 hge hSm hpl hal c0 c1 c2 c3 c4 c5 cl
  generalize w5.alloc (.cells #[.int .i64 kx, .int .i64 ky, .int .i64 kz, .slice ea D2.length ep, .slice pa ps.length pc, .int .i64 ko] 26) = W6 at *
  have y0 := RY.out.cell 0 _ rfl
  have y1 := RY.out.cell 1 _ rfl
  have y2 := RY.out.cell 2 _ rfl
  have y3 := RY.out.cell 3 _ rfl
  have y4 := RY.out.cell 4 _ rfl
  have y5 := RY.out.cell 5 _ rfl
  have yl := RY.out.lt
  obtain ⟨gv, cv, rfl⟩ : ∃ g c, v = .slice (some ⟨g, 0, none⟩) el.length c := by
    rcases own_slice HROW6.out with ⟨_, h⟩ | h
    · omega
    · exact h
  go_upto_region 7 with (go_at_call 12; (with_reducible refine RSY.out.mono ?_); rintro e w7 ⟨v7, rfl, hb7, _, hrow7⟩; have hrow7 := hrow7 (by trivial); have HB7 := Lib.hid hb7; have HROW7 := Lib.hid hrow7; clear hb7 hrow7)
  obtain ⟨gu, cu, rfl⟩ : ∃ g c, v7 = .slice (some ⟨g, 0, none⟩) el.length c := by
    rcases own_slice HROW7.out with ⟨_, h⟩ | h
    · omega
    · exact h
  have SM := Lib.hid (rsame_any gv gu cv cu el w7 ((row_of_own HROW6.out).over HB7.out) (row_of_own HROW7.out) (by omega))
  have r7 := R6.out.over HB7.out
  have s4 := r7.cell 4 _ rfl
  have sl := r7.lt
  have hs0 : (0 : Int) ≤ (S.m : Int) := by omega
  have hs1 : (S.m : Int) ≤ (ms.length : Int) := by omega
  clear r7 y0 y1 y2 y3 y4 y5 yl
  go_wp2_with (first | (go_at_call 18; (with_reducible refine SM.out.mono ?_); rintro e w8 ⟨rfl, hb8⟩; have HB8 := Lib.hid hb8; have s48 := (R6.out.over (below_call HB7.out hb8)).cell 4 _ rfl; have sl8 := (R6.out.over (below_call HB7.out hb8)).lt; clear hb8) | (go_at_call 13; (with_reducible refine (LV.out _).mono ?_); rintro e w9 ⟨rfl, hb9⟩; have HB9 := Lib.hid hb9; clear hb9))
  go_ret
  exact ⟨rfl, below_call B3.out (below_call (below_call (below_call HB6.out HB7.out) HB8.out) HB9.out)⟩
end Go.Proofs.Ytdbfakllcaojcaa
