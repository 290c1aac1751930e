/- SchedNeeded: the walk, by lives28. -/
import Derived.Test.YtdbfakllcaojcaaND
import Derived.Test.YtdbfakllcaojcaaRsS
import Derived.Test.YtdbfakllcaojcaaNY
namespace Go.Proofs.Ytdbfakllcaojcaa
open Go Go.RowKit
set_option linter.unusedVariables false
set_option linter.unusedSimpArgs false
set_option maxRecDepth 100000

set_option maxHeartbeats 8000000 in
theorem walk_needed (FW : FwC) (L28 : ∀ W : World, Calls Try.prog 20 #[] W fun e w' => e = .returned (.bool true) ∧ Below W.heap.size W w') (w : World) (g : GrQ) (hg : g.ok w) :
    Calls Try.prog 6 #[g.val] w fun e w' => e = .returned (.bool true) ∧ Below w.heap.size w w' := by
  obtain ⟨gx, gy, gz, ca, cc, C, na, nc, ns, go⟩ := g
  have FX := Lib.hid (fun W (hW : Below w.heap.size w W) => FW ⟨gx, gy, gz, ca, cc, C, na, nc, ns, go⟩ W ⟨hg.1, hg.2.1.later hW, FlatIn.later hg.2.2.1 hW, hg.2.2.2⟩)
  have LV := Lib.hid L28
  clear FW hg
  unfold GrQ.val at FX ⊢
  dsimp only at FX ⊢
  go_enter Try.func6, Try.ntmps6
  have RB := Lib.hid (RowAt.new w [.int .i64 gx, .int .i64 gy, .int .i64 gz, .slice ca C.length cc, .slice na ns.length nc, .int .i64 go] 26)
  have BB : Below w.heap.size w (w.alloc (.cells #[.int .i64 gx, .int .i64 gy, .int .i64 gz, .slice ca C.length cc, .slice na ns.length nc, .int .i64 go] 26)) := Below.alloc (Below.refl _ _) (Nat.le_refl _) _
  have FY := Lib.hid (FX.out _ BB)
  have BW := Lib.hid BB
  clear BB FX
  have hs0 : (w.alloc (.cells #[.int .i64 gx, .int .i64 gy, .int .i64 gz, .slice ca C.length cc, .slice na ns.length nc, .int .i64 go] 26)).heap.size = w.heap.size + 1 := by simp
  have HS0 := Lib.hid hs0
  clear hs0
  go_wp2_with (go_at_call 10; (with_reducible refine FY.out.mono ?_); rintro e w2 ⟨⟨hx, hy, hz, da, dc, D, ma, mc, ms, ho⟩, rfl, hb2, hk2, hn2, _, hcl2, hqs2⟩; have HB2 := Lib.hid hb2; have HK2 := Lib.hid hk2; have HN2 := Lib.hid hn2; have HC2 := Lib.hid hcl2; have HQ2 := Lib.hid hqs2; have r2 := RB.out.over hb2; have R2 := Lib.hid r2; have b0 := r2.cell 0 _ rfl; have b1 := r2.cell 1 _ rfl; have b2 := r2.cell 2 _ rfl; have b3 := r2.cell 3 _ rfl; have b4 := r2.cell 4 _ rfl; have b5 := r2.cell 5 _ rfl; have p0 := r2.fr 0; have p1 := r2.fr 1; have p2 := r2.fr 2; have p3 := r2.fr 3; have p4 := r2.fr 4; have p5 := r2.fr 5; have blt := r2.lt; clear hb2 hk2 hn2 hcl2 hqs2 r2; unfold GrQ.val; dsimp only at *)
  have R3 := Lib.hid ((((((R2.out.set (l' := [.int .i64 hx, .int .i64 gy, .int .i64 gz, .slice ca C.length cc, .slice na ns.length nc, .int .i64 go]) 0 (.int .i64 hx) (by simp) rfl).set (l' := [.int .i64 hx, .int .i64 hy, .int .i64 gz, .slice ca C.length cc, .slice na ns.length nc, .int .i64 go]) 1 (.int .i64 hy) (by simp) rfl).set (l' := [.int .i64 hx, .int .i64 hy, .int .i64 hz, .slice ca C.length cc, .slice na ns.length nc, .int .i64 go]) 2 (.int .i64 hz) (by simp) rfl).set (l' := [.int .i64 hx, .int .i64 hy, .int .i64 hz, .slice da D.length dc, .slice na ns.length nc, .int .i64 go]) 3 (.slice da D.length dc) (by simp) rfl).set (l' := [.int .i64 hx, .int .i64 hy, .int .i64 hz, .slice da D.length dc, .slice ma ms.length mc, .int .i64 go]) 4 (.slice ma ms.length mc) (by simp) rfl).set (l' := [.int .i64 hx, .int .i64 hy, .int .i64 hz, .slice da D.length dc, .slice ma ms.length mc, .int .i64 ho]) 5 (.int .i64 ho) (by simp) rfl)
  have K3 := ((((((Kp.refl (w.heap.size + 1) w2).set w.heap.size 0 (.int .i64 hx) (by omega)).set w.heap.size 1 (.int .i64 hy) (by omega)).set w.heap.size 2 (.int .i64 hz) (by omega)).set w.heap.size 3 (.slice da D.length dc) (by omega)).set w.heap.size 4 (.slice ma ms.length mc) (by omega)).set w.heap.size 5 (.int .i64 ho) (by omega)
  have CN3 := Lib.hid (HK2.out _ (by rw [HS0.out]; exact K3))
  have B3 := Lib.hid (Below.setCell (Below.setCell (Below.setCell (Below.setCell (Below.setCell (Below.setCell (below_call BW.out HB2.out) (show w.heap.size ≤ (⟨w.heap.size, 0, none⟩ : Addr).block from Nat.le_refl _) (.int .i64 hx)) (show w.heap.size ≤ (⟨w.heap.size, 1, none⟩ : Addr).block from Nat.le_refl _) (.int .i64 hy)) (show w.heap.size ≤ (⟨w.heap.size, 2, none⟩ : Addr).block from Nat.le_refl _) (.int .i64 hz)) (show w.heap.size ≤ (⟨w.heap.size, 3, none⟩ : Addr).block from Nat.le_refl _) (.slice da D.length dc)) (show w.heap.size ≤ (⟨w.heap.size, 4, none⟩ : Addr).block from Nat.le_refl _) (.slice ma ms.length mc)) (show w.heap.size ≤ (⟨w.heap.size, 5, none⟩ : Addr).block from Nat.le_refl _) (.int .i64 ho))
  clear K3 b0 b1 b2 b3 b4 b5 p0 p1 p2 p3 p4 p5 blt R2 HB2 HK2 RB FY BW
  generalize (((((w2.setCell ⟨w.heap.size, 0, none⟩ (.int .i64 hx)).setCell ⟨w.heap.size, 1, none⟩ (.int .i64 hy)).setCell ⟨w.heap.size, 2, none⟩ (.int .i64 hz)).setCell ⟨w.heap.size, 3, none⟩ (.slice da D.length dc)).setCell ⟨w.heap.size, 4, none⟩ (.slice ma ms.length mc)).setCell ⟨w.heap.size, 5, none⟩ (.int .i64 ho) = W3 at *
  have r3 := R3.out
  have hm2 : ms.length ≤ 12 := HN2.out
  have hd2 : D.length ≤ 20 := HC2.out
  have c0 := r3.cell 0 _ rfl
  have c1 := r3.cell 1 _ rfl
  have c2 := r3.cell 2 _ rfl
  have c3 := r3.cell 3 _ rfl
  have c4 := r3.cell 4 _ rfl
  have c5 := r3.cell 5 _ rfl
  have cl := r3.lt
  have RS := Lib.hid (fun (W : World) (hb : Below W3.heap.size W3 W) => rshapes_any ⟨hx, hy, hz, da, dc, D, ma, mc, ms, ho⟩ W (CN3.out.1.later hb) (FlatIn.later CN3.out.2 hb) (by show ms.length ≤ 1000; omega))
  have FF := Lib.hid (fun (W : World) (hb : Below W3.heap.size W3 W) => needed_any ⟨hx, hy, hz, da, dc, D, ma, mc, ms, ho⟩ W (CN3.out.1.later hb) (FlatIn.later CN3.out.2 hb) (by show ms.length ≤ 1000; omega))
  have RN := Lib.hid (fun (o : Nat) (ho2 : ho = (o : Int)) (hoN : o ≤ ms.length) (ha : ∀ (k : Nat) (n : Nd), ms[k]? = some n → ∀ v ∈ insN n, 0 ≤ v ∧ v ≤ (k : Int)) (W : World) (hb : Below W3.heap.size W3 W) => rneeded_any ⟨hx, hy, hz, da, dc, D, ma, mc, ms, ho⟩ W o ho2 hoN (FlatIn.later CN3.out.2 hb) (by show ms.length ≤ 1000; omega) ha)
  have GI := Lib.hid (fun h => graph_ins (g := GrQ.gr ⟨hx, hy, hz, da, dc, D, ma, mc, ms, ho⟩) h)
  have GA := Lib.hid (fun h => graph_ahead (g := GrQ.gr ⟨hx, hy, hz, da, dc, D, ma, mc, ms, ho⟩) h)
  unfold RShPost at RS
  unfold NdPost at FF
  obtain ⟨E, hE⟩ : ∃ E, E = graphE (GrQ.gr ⟨hx, hy, hz, da, dc, D, ma, mc, ms, ho⟩) := ⟨_, rfl⟩
  rw [← hE] at RS FF GI GA
  obtain ⟨ec, el⟩ := E
  unfold GrQ.val at RS FF RN
  dsimp only at RS FF RN GI GA
  clear hE r3
  by_cases h0 : ec = 0
  case neg =>
    have h0b : (ec != 0) = true := by simpa using h0
    have h0c : (ec == ec) = true := by simp
    have HO := Lib.hid h0
    clear h0
    go_upto_region 3 with (go_at_call 19; (with_reducible refine (FF.out _ (Below.refl _ _)).mono ?_); rintro e w4 ⟨hno, hb4, _⟩; obtain rfl := hno HO.out; have HB4 := Lib.hid hb4; replace c0 := (R3.out.over hb4).cell 0 _ rfl; replace c1 := (R3.out.over hb4).cell 1 _ rfl; replace c2 := (R3.out.over hb4).cell 2 _ rfl; replace c3 := (R3.out.over hb4).cell 3 _ rfl; replace c4 := (R3.out.over hb4).cell 4 _ rfl; replace c5 := (R3.out.over hb4).cell 5 _ rfl; replace cl := (R3.out.over hb4).lt; clear hb4 hno)
    go_wp2_with (first | (go_at_call 12; (with_reducible refine (RS.out _ HB4.out).mono ?_); rintro e w6 ⟨v, rfl, hb6, _, _⟩; have HB6 := Lib.hid hb6; clear hb6) | (go_at_call 20; (with_reducible refine (LV.out _).mono ?_); rintro e w8 ⟨rfl, hb8⟩; have HB8 := Lib.hid hb8; clear hb8))
    go_ret
    exact ⟨rfl, below_call B3.out (below_call (below_call HB4.out HB6.out) HB8.out)⟩
  subst h0
  obtain ⟨hi1, hi2, hi3⟩ := GI.out (by trivial)
  obtain ⟨o, rfl⟩ : ∃ o : Nat, ho = (o : Int) := ⟨ho.toNat, by have : 0 ≤ ho := hi2; omega⟩
  have hoN : o ≤ ms.length := by have : (o : Int) < ((ms.length + 1 : Nat) : Int) := hi3; omega
  have hah : ∀ (k : Nat) (n : Nd), ms[k]? = some n → ∀ v ∈ insN n, 0 ≤ v ∧ v ≤ (k : Int) := GA.out (by trivial)
  have RN2 := Lib.hid (fun (W : World) (hb : Below W3.heap.size W3 W) => RN.out o rfl hoN hah W hb)
  have hf : ∀ i, i < ms.length → ∀ v ∈ insF ms i, v ≤ i := by
    intro i hi v hv
    rw [insF_at (List.getElem?_eq_getElem hi)] at hv
    obtain ⟨z, hz, rfl⟩ := List.mem_map.1 hv
    have := hah i _ (List.getElem?_eq_getElem hi) z hz
    omega
  have NS := Lib.hid (show bkN (insF ms) ms.length (nd0 ms.length o) = fwsN (insF ms) ms.length (ms.length + 1) (nd0 ms.length o) from need_same hf hoN)
  have NLn := Lib.hid (show (bkN (insF ms) ms.length (nd0 ms.length o)).length = ms.length + 1 by rw [bkN_len hf]; simp [nd0])
  clear hi1 hi2 hi3 hah hf GI GA RN
  go_upto_region 3 with (go_at_call 19; (with_reducible refine (FF.out _ (Below.refl _ _)).mono ?_); rintro e w4 ⟨_, hb4, hyes⟩; obtain ⟨U, uc, rfl, hU, hrow⟩ := hyes (by trivial); simp only [Int.toNat_natCast] at hrow; have HB4 := Lib.hid hb4; have HROW := Lib.hid hrow; replace c0 := (R3.out.over hb4).cell 0 _ rfl; replace c1 := (R3.out.over hb4).cell 1 _ rfl; replace c2 := (R3.out.over hb4).cell 2 _ rfl; replace c3 := (R3.out.over hb4).cell 3 _ rfl; replace c4 := (R3.out.over hb4).cell 4 _ rfl; replace c5 := (R3.out.over hb4).cell 5 _ rfl; replace cl := (R3.out.over hb4).lt; clear hb4 hyes hrow)
  go_upto_region 6 with (go_at_call 12; (with_reducible refine (RS.out _ HB4.out).mono ?_); rintro e w5 ⟨v, rfl, hb5, _, _⟩; have HB45 := Lib.hid hb5; have HB5 := Lib.hid (below_call HB4.out hb5); replace c0 := (R3.out.over HB5.out).cell 0 _ rfl; replace c1 := (R3.out.over HB5.out).cell 1 _ rfl; replace c2 := (R3.out.over HB5.out).cell 2 _ rfl; replace c3 := (R3.out.over HB5.out).cell 3 _ rfl; replace c4 := (R3.out.over HB5.out).cell 4 _ rfl; replace c5 := (R3.out.over HB5.out).cell 5 _ rfl; replace cl := (R3.out.over HB5.out).lt; clear hb5)
  go_wp2_with (first
    | (go_at_call 22; (with_reducible refine (RN2.out _ HB5.out).mono ?_); rintro e w6 ⟨V, vc, rfl, hV, hrowV, hb6⟩; have HB6 := Lib.hid (below_call HB5.out hb6); rw [← NS.out] at hrowV; have r6 := (HROW.out.over HB45.out).over hb6; have BS := bools_same U V uc vc _ w6 (show (bkN (insF ms) ms.length (nd0 ms.length o)).length ≤ 100000 by rw [NLn.out]; omega) r6.lt hrowV.lt (fun j hj => r6.cell j _ (boolsN_at hj)) (fun j hj => hrowV.cell j _ (boolsN_at hj)); rw [NLn.out] at BS; have BSH := Lib.hid BS; clear hb6 hV hrowV r6 BS)
    | (go_at_call 21; (with_reducible refine BSH.out.mono ?_); rintro e w7 ⟨rfl, hb7⟩; have HB7 := Lib.hid hb7; clear hb7)
    | (go_at_call 20; (with_reducible refine (LV.out _).mono ?_); rintro e w8 ⟨rfl, hb8⟩; have HB8 := Lib.hid hb8; clear hb8))
  go_ret
  exact ⟨rfl, below_call B3.out (below_call (below_call HB6.out HB7.out) HB8.out)⟩
end Go.Proofs.Ytdbfakllcaojcaa
