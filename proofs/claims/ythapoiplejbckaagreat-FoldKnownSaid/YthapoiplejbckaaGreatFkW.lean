/- FoldKnown: the walk. -/
import Derived.Test.YthapoiplejbckaaGreatFkB
import Derived.Test.YthapoiplejbckaaGreatFkC
import Derived.Test.YthapoiplejbckaaGreatRsS
import Derived.Test.YthapoiplejbckaaGreatLv26
namespace Go.Proofs.YthapoiplejbckaaGreat
open Go Go.RowKit
set_option linter.unusedVariables false
set_option linter.unusedSimpArgs false
set_option maxRecDepth 100000

set_option maxHeartbeats 8000000 in
theorem walk_known (FW : FwC) (w : World) (g : GrQ) (hg : g.ok w) :
    Calls Tryz.prog 3 #[g.val] w fun e w' => e = .returned (.bool true) ∧ Below w.heap.size w w' := by
  obtain ⟨gx, gy, gz, ca, cc, C, na, nc, ns, go⟩ := g
  have FX := Lib.hid (fun W (hW : Below w.heap.size w W) => FW ⟨gx, gy, gz, ca, cc, C, na, nc, ns, go⟩ W ⟨hg.1, hg.2.1.later hW, FlatIn.later hg.2.2.1 hW, hg.2.2.2⟩)
  have LV := Lib.hid (fun W => lives26 W)
  clear FW hg
  unfold GrQ.val at FX ⊢
  dsimp only at FX ⊢
  go_enter Tryz.func3, Tryz.ntmps3
  have RB := Lib.hid (RowAt.new w [.int .i64 gx, .int .i64 gy, .int .i64 gz, .slice ca C.length cc, .slice na ns.length nc, .int .i64 go] 26)
  have BB : Below w.heap.size w (w.alloc (.cells #[.int .i64 gx, .int .i64 gy, .int .i64 gz, .slice ca C.length cc, .slice na ns.length nc, .int .i64 go] 26)) := Below.alloc (Below.refl _ _) (Nat.le_refl _) _
  have FY := Lib.hid (FX.out _ BB)
  have BW := Lib.hid BB
  clear BB FX
  have hs0 : (w.alloc (.cells #[.int .i64 gx, .int .i64 gy, .int .i64 gz, .slice ca C.length cc, .slice na ns.length nc, .int .i64 go] 26)).heap.size = w.heap.size + 1 := by simp
  have HS0 := Lib.hid hs0
  clear hs0
  go_wp2_with (go_at_call 4; (with_reducible refine FY.out.mono ?_); rintro e w2 ⟨⟨hx, hy, hz, da, dc, D, ma, mc, ms, ho⟩, rfl, hb2, hk2, hn2, _⟩; have HB2 := Lib.hid hb2; have HK2 := Lib.hid hk2; have HN2 := Lib.hid hn2; have r2 := RB.out.over hb2; have R2 := Lib.hid r2; have b0 := r2.cell 0 _ rfl; have b1 := r2.cell 1 _ rfl; have b2 := r2.cell 2 _ rfl; have b3 := r2.cell 3 _ rfl; have b4 := r2.cell 4 _ rfl; have b5 := r2.cell 5 _ rfl; have p0 := r2.fr 0; have p1 := r2.fr 1; have p2 := r2.fr 2; have p3 := r2.fr 3; have p4 := r2.fr 4; have p5 := r2.fr 5; have blt := r2.lt; clear hb2 hk2 hn2 r2; unfold GrQ.val; dsimp only at *)
  have R3 := Lib.hid ((((((R2.out.set (l' := [.int .i64 hx, .int .i64 gy, .int .i64 gz, .slice ca C.length cc, .slice na ns.length nc, .int .i64 go]) 0 (.int .i64 hx) (by simp) rfl).set (l' := [.int .i64 hx, .int .i64 hy, .int .i64 gz, .slice ca C.length cc, .slice na ns.length nc, .int .i64 go]) 1 (.int .i64 hy) (by simp) rfl).set (l' := [.int .i64 hx, .int .i64 hy, .int .i64 hz, .slice ca C.length cc, .slice na ns.length nc, .int .i64 go]) 2 (.int .i64 hz) (by simp) rfl).set (l' := [.int .i64 hx, .int .i64 hy, .int .i64 hz, .slice da D.length dc, .slice na ns.length nc, .int .i64 go]) 3 (.slice da D.length dc) (by simp) rfl).set (l' := [.int .i64 hx, .int .i64 hy, .int .i64 hz, .slice da D.length dc, .slice ma ms.length mc, .int .i64 go]) 4 (.slice ma ms.length mc) (by simp) rfl).set (l' := [.int .i64 hx, .int .i64 hy, .int .i64 hz, .slice da D.length dc, .slice ma ms.length mc, .int .i64 ho]) 5 (.int .i64 ho) (by simp) rfl)
  have K3 := ((((((Kp.refl (w.heap.size + 1) w2).set w.heap.size 0 (.int .i64 hx) (by omega)).set w.heap.size 1 (.int .i64 hy) (by omega)).set w.heap.size 2 (.int .i64 hz) (by omega)).set w.heap.size 3 (.slice da D.length dc) (by omega)).set w.heap.size 4 (.slice ma ms.length mc) (by omega)).set w.heap.size 5 (.int .i64 ho) (by omega)
  have CN3 := Lib.hid (HK2.out _ (by rw [HS0.out]; exact K3))
  have B3 := Lib.hid (Below.setCell (Below.setCell (Below.setCell (Below.setCell (Below.setCell (Below.setCell (below_call BW.out HB2.out) (show w.heap.size ≤ (⟨w.heap.size, 0, none⟩ : Addr).block from Nat.le_refl _) (.int .i64 hx)) (show w.heap.size ≤ (⟨w.heap.size, 1, none⟩ : Addr).block from Nat.le_refl _) (.int .i64 hy)) (show w.heap.size ≤ (⟨w.heap.size, 2, none⟩ : Addr).block from Nat.le_refl _) (.int .i64 hz)) (show w.heap.size ≤ (⟨w.heap.size, 3, none⟩ : Addr).block from Nat.le_refl _) (.slice da D.length dc)) (show w.heap.size ≤ (⟨w.heap.size, 4, none⟩ : Addr).block from Nat.le_refl _) (.slice ma ms.length mc)) (show w.heap.size ≤ (⟨w.heap.size, 5, none⟩ : Addr).block from Nat.le_refl _) (.int .i64 ho))
  clear K3 b0 b1 b2 b3 b4 b5 p0 p1 p2 p3 p4 p5 blt R2 HB2 HK2 RB FY BW
  generalize (((((w2.setCell ⟨w.heap.size, 0, none⟩ (.int .i64 hx)).setCell ⟨w.heap.size, 1, none⟩ (.int .i64 hy)).setCell ⟨w.heap.size, 2, none⟩ (.int .i64 hz)).setCell ⟨w.heap.size, 3, none⟩ (.slice da D.length dc)).setCell ⟨w.heap.size, 4, none⟩ (.slice ma ms.length mc)).setCell ⟨w.heap.size, 5, none⟩ (.int .i64 ho) = W3 at *
  have r3 := R3.out
  have blt := r3.lt
  have hm1 := HN2.out
  have hm1 := HN2.out
  have hm2 : ms.length ≤ 12 := hm1
  have c0 := r3.cell 0 _ rfl
  have c1 := r3.cell 1 _ rfl
  have c2 := r3.cell 2 _ rfl
  have c3 := r3.cell 3 _ rfl
  have c4 := r3.cell 4 _ rfl
  have c5 := r3.cell 5 _ rfl
  have cl := r3.lt
  have FU := known_any ⟨hx, hy, hz, da, dc, D, ma, mc, ms, ho⟩ W3 CN3.out.1 CN3.out.2 (by show ms.length ≤ 1000; omega)
  have RS := Lib.hid (fun (W : World) (hb : Below W3.heap.size W3 W) => rshapes_any ⟨hx, hy, hz, da, dc, D, ma, mc, ms, ho⟩ W (CN3.out.1.later hb) (FlatIn.later CN3.out.2 hb) (by show ms.length ≤ 1000; omega))
  obtain ⟨E, hE⟩ : ∃ E, E = graphE (GrQ.gr ⟨hx, hy, hz, da, dc, D, ma, mc, ms, ho⟩) := ⟨_, rfl⟩
  have RU := Lib.hid (fun (h : E.1 = 0) (W : World) (hb : Below W3.heap.size W3 W) => rknown_any ⟨hx, hy, hz, da, dc, D, ma, mc, ms, ho⟩ W (FlatIn.later CN3.out.2 hb) (by show ms.length ≤ 1000; omega) (graph_ahead (g := GrQ.gr ⟨hx, hy, hz, da, dc, D, ma, mc, ms, ho⟩) (by rw [← hE]; exact h)))
  unfold FkPost at FU
  unfold RShPost at RS
  rw [← hE] at FU RS
  obtain ⟨ec, el⟩ := E
  unfold GrQ.val at FU RS RU
  dsimp only at FU RS RU
  have FUH := Lib.hid FU
  clear FU hE r3
  by_cases h0 : ec = 0
  case neg =>
    have h0b : (ec != 0) = true := by simpa using h0
    have HO := Lib.hid h0
    clear h0
    go_upto_region 3 with (go_at_call 5; (with_reducible refine FUH.out.mono ?_); rintro e w4 ⟨hno, hbz, hyes⟩; obtain rfl := hno HO.out; have HB4 := Lib.hid hbz; replace c0 := (R3.out.over hbz).cell 0 _ rfl; replace c1 := (R3.out.over hbz).cell 1 _ rfl; replace c2 := (R3.out.over hbz).cell 2 _ rfl; replace c3 := (R3.out.over hbz).cell 3 _ rfl; replace c4 := (R3.out.over hbz).cell 4 _ rfl; replace c5 := (R3.out.over hbz).cell 5 _ rfl; replace cl := (R3.out.over hbz).lt; clear hbz hyes)
    go_wp2_with (first | (go_at_call 6; (with_reducible refine (RS.out _ HB4.out).mono ?_); rintro e w5 ⟨v2, rfl, hb5, _, _⟩; have HB5 := Lib.hid (below_call HB4.out hb5); clear hb5) | (go_at_call 7; (with_reducible refine (LV.out _).mono ?_); rintro e w6 ⟨rfl, hb6⟩; have HB6 := Lib.hid (below_call HB5.out hb6); clear hb6))
    go_ret
    exact ⟨rfl, below_call B3.out HB6.out⟩
  subst h0
  go_upto_region 3 with (go_at_call 5; (with_reducible refine FUH.out.mono ?_); rintro e w4 ⟨_, hbz, hyes⟩; obtain ⟨U, uc, rfl, hU, hrow⟩ := hyes rfl; have HB4 := Lib.hid hbz; have HROW := Lib.hid hrow; replace c0 := (R3.out.over hbz).cell 0 _ rfl; replace c1 := (R3.out.over hbz).cell 1 _ rfl; replace c2 := (R3.out.over hbz).cell 2 _ rfl; replace c3 := (R3.out.over hbz).cell 3 _ rfl; replace c4 := (R3.out.over hbz).cell 4 _ rfl; replace c5 := (R3.out.over hbz).cell 5 _ rfl; replace cl := (R3.out.over hbz).lt; clear hbz hyes hrow)
  have RU0 := Lib.hid (RU.out trivial)
  have KL := Lib.hid (knL_len ms)
  go_wp2_with (first
    | (go_at_call 6; (with_reducible refine (RS.out _ HB4.out).mono ?_); rintro e w5 ⟨v2, rfl, hb5, _, _⟩; have HB5 := Lib.hid (below_call HB4.out hb5); have HROW5 := Lib.hid (HROW.out.over hb5); have hbz := HB5.out; replace c0 := (R3.out.over hbz).cell 0 _ rfl; replace c1 := (R3.out.over hbz).cell 1 _ rfl; replace c2 := (R3.out.over hbz).cell 2 _ rfl; replace c3 := (R3.out.over hbz).cell 3 _ rfl; replace c4 := (R3.out.over hbz).cell 4 _ rfl; replace c5 := (R3.out.over hbz).cell 5 _ rfl; replace cl := (R3.out.over hbz).lt; clear hb5 hbz)
    | (go_at_call 9; (with_reducible refine (RU0.out _ HB5.out).mono ?_); rintro e w6 ⟨vk, rfl, hb6, hown⟩; obtain ⟨V, vc, rfl, hV1, hV2, hV3⟩ := own_bools hown (by rw [KL.out]; omega); have HB6 := Lib.hid (below_call HB5.out hb6); have R6 := HROW5.out.over hb6; have BS := bools_same U V uc vc (knL ms) w6 (by rw [KL.out]; omega) R6.lt hV2 (fun j hj => R6.cell j _ (boolsV_at hj)) hV3; rw [KL.out] at BS ⊢; have HBS := Lib.hid BS; clear hb6 hown hV3 BS R6)
    | (go_at_call 8; (with_reducible refine HBS.out.mono ?_); rintro e w7 ⟨rfl, hb7⟩; have HB7 := Lib.hid (below_call HB6.out hb7); clear hb7)
    | (go_at_call 7; (with_reducible refine (LV.out _).mono ?_); rintro e w8 ⟨rfl, hb8⟩; have HB8 := Lib.hid (below_call HB7.out hb8); clear hb8))
  go_ret
  exact ⟨rfl, below_call B3.out HB8.out⟩
end Go.Proofs.YthapoiplejbckaaGreat
