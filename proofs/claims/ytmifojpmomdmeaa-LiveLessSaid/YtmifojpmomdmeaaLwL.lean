/- LiveLess: the walk. -/
import Derived.Test.YtmifojpmomdmeaaLwA
import Derived.Test.YtmifojpmomdmeaaNY
import Derived.Handy
namespace Go.Proofs.Ytmifojpmomdmeaa
open Go Go.RowKit Go.Maps
set_option linter.unusedVariables false
set_option linter.unusedSimpArgs false
set_option maxRecDepth 100000

set_option maxHeartbeats 8000000 in
theorem walk_liveLess (FW : FwC) (w : World) (g : GrQ) (hg : g.ok w) :
    Calls Try.prog 7 #[g.val] w fun e w' => e = .returned (.bool true) ∧ Below w.heap.size w w' := by
  obtain ⟨gx, gy, gz, ca, cc, C, na, nc, ns, go⟩ := g
  have FX := Lib.hid (fun W (hW : Below w.heap.size w W) => FW ⟨gx, gy, gz, ca, cc, C, na, nc, ns, go⟩ W ⟨hg.1, hg.2.1.later hW, FlatIn.later hg.2.2.1 hW, hg.2.2.2⟩)
  have LV := Lib.hid lives29
  clear FW hg
  unfold GrQ.val at FX ⊢
  dsimp only at FX ⊢
  go_enter Try.func7, Try.ntmps7
  have RB := Lib.hid (RowAt.new w [.int .i64 gx, .int .i64 gy, .int .i64 gz, .slice ca C.length cc, .slice na ns.length nc, .int .i64 go] 26)
  have BB : Below w.heap.size w (w.alloc (.cells #[.int .i64 gx, .int .i64 gy, .int .i64 gz, .slice ca C.length cc, .slice na ns.length nc, .int .i64 go] 26)) := Below.alloc (Below.refl _ _) (Nat.le_refl _) _
  have FY := Lib.hid (FX.out _ BB)
  have BW := Lib.hid BB
  clear BB FX
  have hs0 : (w.alloc (.cells #[.int .i64 gx, .int .i64 gy, .int .i64 gz, .slice ca C.length cc, .slice na ns.length nc, .int .i64 go] 26)).heap.size = w.heap.size + 1 := by simp
  have HS0 := Lib.hid hs0
  clear hs0
  go_upto_region 2 with (go_at_call 8; (with_reducible refine FY.out.mono ?_); rintro e w2 ⟨⟨hx, hy, hz, da, dc, D, ma, mc, ms, ho⟩, rfl, hb2, hk2, hn2, _, hcl2, hqs2⟩; have HB2 := Lib.hid hb2; have HK2 := Lib.hid hk2; have HN2 := Lib.hid hn2; have r2 := RB.out.over hb2; have R2 := Lib.hid r2; have b0 := r2.cell 0 _ rfl; have b1 := r2.cell 1 _ rfl; have b2 := r2.cell 2 _ rfl; have b3 := r2.cell 3 _ rfl; have b4 := r2.cell 4 _ rfl; have b5 := r2.cell 5 _ rfl; have p0 := r2.fr 0; have p1 := r2.fr 1; have p2 := r2.fr 2; have p3 := r2.fr 3; have p4 := r2.fr 4; have p5 := r2.fr 5; have blt := r2.lt; clear hb2 hk2 hn2 hcl2 hqs2 r2; unfold GrQ.val; dsimp only at *)
  have R3 := Lib.hid (((((((R2.out.set (l' := [.int .i64 hx, .int .i64 gy, .int .i64 gz, .slice ca C.length cc, .slice na ns.length nc, .int .i64 go]) 0 (.int .i64 hx) (by simp) rfl).set (l' := [.int .i64 hx, .int .i64 hy, .int .i64 gz, .slice ca C.length cc, .slice na ns.length nc, .int .i64 go]) 1 (.int .i64 hy) (by simp) rfl).set (l' := [.int .i64 hx, .int .i64 hy, .int .i64 hz, .slice ca C.length cc, .slice na ns.length nc, .int .i64 go]) 2 (.int .i64 hz) (by simp) rfl).set (l' := [.int .i64 hx, .int .i64 hy, .int .i64 hz, .slice da D.length dc, .slice na ns.length nc, .int .i64 go]) 3 (.slice da D.length dc) (by simp) rfl).set (l' := [.int .i64 hx, .int .i64 hy, .int .i64 hz, .slice da D.length dc, .slice ma ms.length mc, .int .i64 go]) 4 (.slice ma ms.length mc) (by simp) rfl).set (l' := [.int .i64 hx, .int .i64 hy, .int .i64 hz, .slice da D.length dc, .slice ma ms.length mc, .int .i64 ho]) 5 (.int .i64 ho) (by simp) rfl))
  have K3 := ((((((((Kp.refl (w.heap.size + 1) w2).set w.heap.size 0 (.int .i64 hx) (by omega)).set w.heap.size 1 (.int .i64 hy) (by omega)).set w.heap.size 2 (.int .i64 hz) (by omega)).set w.heap.size 3 (.slice da D.length dc) (by omega)).set w.heap.size 4 (.slice ma ms.length mc) (by omega)).set w.heap.size 5 (.int .i64 ho) (by omega)))
  have CN3 := Lib.hid (HK2.out _ (by rw [HS0.out]; exact K3))
  have B3 := Lib.hid ((Below.setCell (Below.setCell (Below.setCell (Below.setCell (Below.setCell (Below.setCell (below_call BW.out HB2.out) (show w.heap.size ≤ (⟨w.heap.size, 0, none⟩ : Addr).block from Nat.le_refl _) (.int .i64 hx)) (show w.heap.size ≤ (⟨w.heap.size, 1, none⟩ : Addr).block from Nat.le_refl _) (.int .i64 hy)) (show w.heap.size ≤ (⟨w.heap.size, 2, none⟩ : Addr).block from Nat.le_refl _) (.int .i64 hz)) (show w.heap.size ≤ (⟨w.heap.size, 3, none⟩ : Addr).block from Nat.le_refl _) (.slice da D.length dc)) (show w.heap.size ≤ (⟨w.heap.size, 4, none⟩ : Addr).block from Nat.le_refl _) (.slice ma ms.length mc)) (show w.heap.size ≤ (⟨w.heap.size, 5, none⟩ : Addr).block from Nat.le_refl _) (.int .i64 ho)))
  clear K3 b0 b1 b2 b3 b4 b5 p0 p1 p2 p3 p4 p5 blt R2 HB2 HK2 RB FY BW
  generalize ((((((w2.setCell ⟨w.heap.size, 0, none⟩ (.int .i64 hx)).setCell ⟨w.heap.size, 1, none⟩ (.int .i64 hy)).setCell ⟨w.heap.size, 2, none⟩ (.int .i64 hz)).setCell ⟨w.heap.size, 3, none⟩ (.slice da D.length dc)).setCell ⟨w.heap.size, 4, none⟩ (.slice ma ms.length mc)).setCell ⟨w.heap.size, 5, none⟩ (.int .i64 ho)) = W3 at *
  have r3 := R3.out
  have hm2 : ms.length ≤ 12 := HN2.out
  have c0 := r3.cell 0 _ rfl
  have c1 := r3.cell 1 _ rfl
  have c2 := r3.cell 2 _ rfl
  have c3 := r3.cell 3 _ rfl
  have c4 := r3.cell 4 _ rfl
  have c5 := r3.cell 5 _ rfl
  have cl := r3.lt
  have FT := Lib.hid (fun (W : World) (hb : Below W3.heap.size W3 W) => lives_lg ⟨hx, hy, hz, da, dc, D, ma, mc, ms, ho⟩ true W (CN3.out.1.later hb) (FlatIn.later CN3.out.2 hb) (by show ms.length ≤ 1000; omega))
  have FTO := Lib.hid (fun (he : (graphE (GrQ.gr ⟨hx, hy, hz, da, dc, D, ma, mc, ms, ho⟩)).1 = 0) => lgs_ok (g := ⟨hx, hy, hz, da, dc, D, ma, mc, ms, ho⟩) (over := true) he (by show ms.length ≤ 1000; omega))
  have FTN := Lib.hid (fun (he : (graphE (GrQ.gr ⟨hx, hy, hz, da, dc, D, ma, mc, ms, ho⟩)).1 = 0) => show (lvM ⟨hx, hy, hz, da, dc, D, ma, mc, ms, ho⟩ true).L.length ≤ 12 from Nat.le_trans (ord_mem he).1 hm2)
  have FF := Lib.hid (fun (W : World) (hb : Below W3.heap.size W3 W) => lives_lg ⟨hx, hy, hz, da, dc, D, ma, mc, ms, ho⟩ false W (CN3.out.1.later hb) (FlatIn.later CN3.out.2 hb) (by show ms.length ≤ 1000; omega))
  have FFO := Lib.hid (fun (he : (graphE (GrQ.gr ⟨hx, hy, hz, da, dc, D, ma, mc, ms, ho⟩)).1 = 0) => lgs_ok (g := ⟨hx, hy, hz, da, dc, D, ma, mc, ms, ho⟩) (over := false) he (by show ms.length ≤ 1000; omega))
  have FFN := Lib.hid (fun (he : (graphE (GrQ.gr ⟨hx, hy, hz, da, dc, D, ma, mc, ms, ho⟩)).1 = 0) => show (lvM ⟨hx, hy, hz, da, dc, D, ma, mc, ms, ho⟩ false).L.length ≤ 12 from Nat.le_trans (ord_mem he).1 hm2)
  have LS := Lib.hid (fun (he : (graphE (GrQ.gr ⟨hx, hy, hz, da, dc, D, ma, mc, ms, ho⟩)).1 = 0) => less_lg (g := ⟨hx, hy, hz, da, dc, D, ma, mc, ms, ho⟩) he)
  obtain ⟨l, hl⟩ : ∃ x, x = lgs (lvM ⟨hx, hy, hz, da, dc, D, ma, mc, ms, ho⟩ true).lives := ⟨_, rfl⟩
  obtain ⟨q, hq⟩ : ∃ x, x = lgs (lvM ⟨hx, hy, hz, da, dc, D, ma, mc, ms, ho⟩ false).lives := ⟨_, rfl⟩
  have HLL := Lib.hid (show (lvM ⟨hx, hy, hz, da, dc, D, ma, mc, ms, ho⟩ true).L.length = l.length by rw [hl, lgs_len, lives_len])
  have HQL := Lib.hid (show (lvM ⟨hx, hy, hz, da, dc, D, ma, mc, ms, ho⟩ false).L.length = q.length by rw [hq, lgs_len, lives_len])
  have HLQ := Lib.hid (show q.length = l.length by rw [← HLL.out, ← HQL.out]; rfl)
  rw [← hl] at FT FTO LS
  rw [← hq] at FF FFO LS
  rw [HLL.out] at FT FTN
  rw [HQL.out] at FF FFN
  obtain ⟨ec, hE⟩ : ∃ E, E = (graphE (GrQ.gr ⟨hx, hy, hz, da, dc, D, ma, mc, ms, ho⟩)).1 := ⟨_, rfl⟩
  rw [← hE] at FF FFO FFN FT FTO FTN LS
  unfold GrQ.val at FF FT
  dsimp only at FF FT
  clear hE hl hq HLL HQL r3
  by_cases h0 : ec = 0
  case neg =>
    have h0b : (ec != 0) = true := by simpa using h0
    have h0c : (ec == ec) = true := by simp
    have HO := Lib.hid h0
    have PN := Lib.hid (fun W => peak_calls [] (by simp) none 0 W (fun k x hx => by simp at hx) (by simp) (by omega))
    rw [show peakF [] = 0 from rfl] at PN
    dsimp only [List.length] at PN
    clear h0
    go_upto_region 3 with (go_at_call 9; (with_reducible refine (FT.out _ (Below.refl _ _)).mono ?_); rintro e w4 ⟨hb4, hno, _⟩; obtain rfl := hno HO.out; have HB4 := Lib.hid hb4; replace c0 := (R3.out.over hb4).cell 0 _ rfl; replace c1 := (R3.out.over hb4).cell 1 _ rfl; replace c2 := (R3.out.over hb4).cell 2 _ rfl; replace c3 := (R3.out.over hb4).cell 3 _ rfl; replace c4 := (R3.out.over hb4).cell 4 _ rfl; replace c5 := (R3.out.over hb4).cell 5 _ rfl; replace cl := (R3.out.over hb4).lt; clear hb4 hno)
    go_upto_region 4 with (go_at_call 9; (with_reducible refine (FF.out _ HB4.out).mono ?_); rintro e w5 ⟨hb5, hno, _⟩; obtain rfl := hno HO.out; have HB5 := Lib.hid (below_call B3.out (below_call HB4.out hb5)); clear hb5 hno)
    clear c0 c1 c2 c3 c4 c5 cl
    go_wp2_with (first | (go_at_call 13; (with_reducible refine (PN.out w5).mono ?_); rintro e w6 ⟨rfl, hb6⟩; have HB6 := Lib.hid (below_call HB5.out hb6); clear hb6) | (go_at_call 13; (with_reducible refine (PN.out w6).mono ?_); rintro e w7 ⟨rfl, hb7⟩; have HB7 := Lib.hid (below_call HB6.out hb7); clear hb7) | (go_at_call 11; (with_reducible refine (LV.out _).mono ?_); rintro e w8 ⟨rfl, hb8⟩; have HB8 := Lib.hid (below_call HB7.out hb8); clear hb8))
    go_ret
    exact ⟨rfl, HB8.out⟩
  subst h0
  have HOT := Lib.hid (FTO.out (by trivial))
  have HOF := Lib.hid (FFO.out (by trivial))
  have HN := Lib.hid (FTN.out (by trivial))
  have HLS := Lib.hid (LS.out (by trivial))
  have hqn : (q.length : Int) = (l.length : Int) := by have := HLQ.out; omega
  clear FFO FFN FTO FTN LS
  go_upto_region 3 with (go_at_call 9; (with_reducible refine (FT.out _ (Below.refl _ _)).mono ?_); rintro e w4 ⟨hb4, _, hyes⟩; obtain ⟨la, lc, rfl, hlc, hlg⟩ := hyes (by trivial); have HB4 := Lib.hid hb4; have HLG := Lib.hid hlg; have HLC := Lib.hid hlc; replace c0 := (R3.out.over hb4).cell 0 _ rfl; replace c1 := (R3.out.over hb4).cell 1 _ rfl; replace c2 := (R3.out.over hb4).cell 2 _ rfl; replace c3 := (R3.out.over hb4).cell 3 _ rfl; replace c4 := (R3.out.over hb4).cell 4 _ rfl; replace c5 := (R3.out.over hb4).cell 5 _ rfl; replace cl := (R3.out.over hb4).lt; clear hb4 hyes hlc hlg)
  go_upto_region 4 with (go_at_call 9; (with_reducible refine (FF.out _ HB4.out).mono ?_); rintro e w5 ⟨hb5, _, hyes⟩; obtain ⟨qa, qc, rfl, hqc, hqg⟩ := hyes (by trivial); have HB45 := Lib.hid hb5; have HB5 := Lib.hid (below_call B3.out (below_call HB4.out hb5)); have HQG := Lib.hid hqg; have HQC := Lib.hid hqc; clear hb5 hyes hqc hqg)
  clear c0 c1 c2 c3 c4 c5 cl FF FT R3 CN3
  have P1 := Lib.hid (peak_calls l HOT.out la lc w5 (HLG.out.later HB45.out) (by have := HN.out; omega) HLC.out)
  have P2 := Lib.hid (fun (W : World) (hW : Below w5.heap.size w5 W) => peak_calls q HOF.out qa qc W (HQG.out.later hW) (by have := HN.out; have := HLQ.out; omega) HQC.out)
  have hle := HLS.out
  have hle2 : decide (peakF l ≤ peakF q) = true := decide_eq_true hle
  generalize peakF l = pl at *
  generalize peakF q = pq at *
  go_wp2_with (first | (go_at_call 13; (with_reducible refine P1.out.mono ?_); rintro e w6 ⟨rfl, hb6⟩; have HB56 := Lib.hid hb6; have HB6 := Lib.hid (below_call HB5.out hb6); clear hb6) | (go_at_call 13; (with_reducible refine (P2.out w6 HB56.out).mono ?_); rintro e w7 ⟨rfl, hb7⟩; have HB7 := Lib.hid (below_call HB6.out hb7); clear hb7) | (go_at_call 11; (with_reducible refine (LV.out _).mono ?_); rintro e w8 ⟨rfl, hb8⟩; have HB8 := Lib.hid (below_call HB7.out hb8); clear hb8))
  go_ret
  exact ⟨rfl, HB8.out⟩
end Go.Proofs.Ytmifojpmomdmeaa
