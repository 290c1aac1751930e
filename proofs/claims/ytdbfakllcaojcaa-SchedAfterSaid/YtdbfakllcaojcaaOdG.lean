/- SchedAfter: the walk. -/
import Derived.Test.YtdbfakllcaojcaaOC
import Derived.Test.YtdbfakllcaojcaaLv28
import Derived.Test.YtdbfakllcaojcaaRsS
import Derived.Test.YtdbfakllcaojcaaNY
import Derived.Deep.RegionHeld3
import Derived.Handy
namespace Go.Proofs.Ytdbfakllcaojcaa
open Go Go.RowKit
set_option linter.unusedVariables false
set_option linter.unusedSimpArgs false
set_option maxRecDepth 100000

theorem own_capN {w : World} {B : Nat} {v : Value} {l : List Nat} (h : OwnL w B v l) : ∃ a c, v = .slice a l.length c ∧ l.length ≤ c ∧ c ≤ 9223372036854775807 := by
  obtain ⟨h1, ⟨rfl, h2⟩ | ⟨g, c, cur, rfl, hb, hg, hc, hm, _⟩⟩ := h
  · rw [h2]; exact ⟨none, 0, rfl, by omega, by omega⟩
  · exact ⟨_, c, rfl, hc, hm⟩
theorem todoK_zeroN {m : Od} (h : m.free 0 = true) : (m.todoK 0).length = 0 := by rw [todoK_zero h]; rfl
set_option maxHeartbeats 8000000 in
theorem walk_after (FW : FwC) (w : World) (g : GrQ) (hg : g.ok w) :
    Calls Try.prog 8 #[g.val] w fun e w' => e = .returned (.bool true) ∧ Below w.heap.size w w' := by
  obtain ⟨gx, gy, gz, ca, cc, C, na, nc, ns, go⟩ := g
  have FX := Lib.hid (fun W (hW : Below w.heap.size w W) => FW ⟨gx, gy, gz, ca, cc, C, na, nc, ns, go⟩ W ⟨hg.1, hg.2.1.later hW, FlatIn.later hg.2.2.1 hW, hg.2.2.2⟩)
  have LV := Lib.hid lives28
  clear FW hg
  unfold GrQ.val at FX ⊢
  dsimp only at FX ⊢
  obtain ⟨T, Z, Z0, NL⟩ := node_type
  have hL := NL.load
  have tA := NL.agg
  have tS := NL.size
  go_enter Try.func8, Try.ntmps8
  simp only [hL]
  clear hL
  have RB := Lib.hid (RowAt.new w [.int .i64 gx, .int .i64 gy, .int .i64 gz, .slice ca C.length cc, .slice na ns.length nc, .int .i64 go] 26)
  have BB : Below w.heap.size w (w.alloc (.cells #[.int .i64 gx, .int .i64 gy, .int .i64 gz, .slice ca C.length cc, .slice na ns.length nc, .int .i64 go] 26)) := Below.alloc (Below.refl _ _) (Nat.le_refl _) _
  have FY := Lib.hid (FX.out _ BB)
  have BW := Lib.hid BB
  clear BB FX
  have hs0 : (w.alloc (.cells #[.int .i64 gx, .int .i64 gy, .int .i64 gz, .slice ca C.length cc, .slice na ns.length nc, .int .i64 go] 26)).heap.size = w.heap.size + 1 := by simp
  have HS0 := Lib.hid hs0
  clear hs0
  go_wp2_with (go_at_call 10; (with_reducible refine FY.out.mono ?_); rintro e w2 ⟨⟨hx, hy, hz, da, dc, D, ma, mc, ms, ho⟩, rfl, hb2, hk2, hn2, _, hcl2, hqs2⟩; have HB2 := Lib.hid hb2; have HK2 := Lib.hid hk2; have HN2 := Lib.hid hn2; have HC2 := Lib.hid hcl2; have HQ2 := Lib.hid hqs2; have r2 := RB.out.over hb2; have R2 := Lib.hid r2; have b0 := r2.cell 0 _ rfl; have b1 := r2.cell 1 _ rfl; have b2 := r2.cell 2 _ rfl; have b3 := r2.cell 3 _ rfl; have b4 := r2.cell 4 _ rfl; have b5 := r2.cell 5 _ rfl; have p0 := r2.fr 0; have p1 := r2.fr 1; have p2 := r2.fr 2; have p3 := r2.fr 3; have p4 := r2.fr 4; have p5 := r2.fr 5; have blt := r2.lt; clear hb2 hk2 hn2 hcl2 hqs2 r2; unfold GrQ.val; dsimp only at *)
  have R3 := Lib.hid ((((((R2.out.set (l' := [.int .i64 hx, .int .i64 gy, .int .i64 gz, .slice ca C.length cc, .slice na ns.length nc, .int .i64 go]) 0 (.int .i64 hx) (by simp) rfl).set (l' := [.int .i64 hx, .int .i64 hy, .int .i64 gz, .slice ca C.length cc, .slice na ns.length nc, .int .i64 go]) 1 (.int .i64 hy) (by simp) rfl).set (l' := [.int .i64 hx, .int .i64 hy, .int .i64 hz, .slice ca C.length cc, .slice na ns.length nc, .int .i64 go]) 2 (.int .i64 hz) (by simp) rfl).set (l' := [.int .i64 hx, .int .i64 hy, .int .i64 hz, .slice da D.length dc, .slice na ns.length nc, .int .i64 go]) 3 (.slice da D.length dc) (by simp) rfl).set (l' := [.int .i64 hx, .int .i64 hy, .int .i64 hz, .slice da D.length dc, .slice ma ms.length mc, .int .i64 go]) 4 (.slice ma ms.length mc) (by simp) rfl).set (l' := [.int .i64 hx, .int .i64 hy, .int .i64 hz, .slice da D.length dc, .slice ma ms.length mc, .int .i64 ho]) 5 (.int .i64 ho) (by simp) rfl)
  have K3 := ((((((Kp.refl (w.heap.size + 1) w2).set w.heap.size 0 (.int .i64 hx) (by omega)).set w.heap.size 1 (.int .i64 hy) (by omega)).set w.heap.size 2 (.int .i64 hz) (by omega)).set w.heap.size 3 (.slice da D.length dc) (by omega)).set w.heap.size 4 (.slice ma ms.length mc) (by omega)).set w.heap.size 5 (.int .i64 ho) (by omega)
  have CN3 := Lib.hid (HK2.out _ (by rw [HS0.out]; exact K3))
  have B3 := Lib.hid (Below.setCell (Below.setCell (Below.setCell (Below.setCell (Below.setCell (Below.setCell (below_call BW.out HB2.out) (show w.heap.size ≤ (⟨w.heap.size, 0, none⟩ : Addr).block from Nat.le_refl _) (.int .i64 hx)) (show w.heap.size ≤ (⟨w.heap.size, 1, none⟩ : Addr).block from Nat.le_refl _) (.int .i64 hy)) (show w.heap.size ≤ (⟨w.heap.size, 2, none⟩ : Addr).block from Nat.le_refl _) (.int .i64 hz)) (show w.heap.size ≤ (⟨w.heap.size, 3, none⟩ : Addr).block from Nat.le_refl _) (.slice da D.length dc)) (show w.heap.size ≤ (⟨w.heap.size, 4, none⟩ : Addr).block from Nat.le_refl _) (.slice ma ms.length mc)) (show w.heap.size ≤ (⟨w.heap.size, 5, none⟩ : Addr).block from Nat.le_refl _) (.int .i64 ho))
  clear K3 b0 b1 b2 b3 b4 b5 p0 p1 p2 p3 p4 p5 blt R2 HB2 HK2 RB FY BW
  generalize (((((w2.setCell ⟨w.heap.size, 0, none⟩ (.int .i64 hx)).setCell ⟨w.heap.size, 1, none⟩ (.int .i64 hy)).setCell ⟨w.heap.size, 2, none⟩ (.int .i64 hz)).setCell ⟨w.heap.size, 3, none⟩ (.slice da D.length dc)).setCell ⟨w.heap.size, 4, none⟩ (.slice ma ms.length mc)).setCell ⟨w.heap.size, 5, none⟩ (.int .i64 ho) = W3 at *
  have r3 := R3.out
  have hm2 : ms.length ≤ 12 := HN2.out
  have hd2 : D.length ≤ 20 := HC2.out
  have c0 := r3.cell 0 _ rfl
  have c1 := r3.cell 1 _ rfl
  have c2 := r3.cell 2 _ rfl
  have c3 := r3.cell 3 _ rfl
  have c4 := r3.cell 4 _ rfl
  have c5 := r3.cell 5 _ rfl
  have cl := r3.lt
  have RS := Lib.hid (fun (W : World) (hb : Below W3.heap.size W3 W) => rshapes_any ⟨hx, hy, hz, da, dc, D, ma, mc, ms, ho⟩ W (CN3.out.1.later hb) (FlatIn.later CN3.out.2 hb) (by show ms.length ≤ 1000; omega))
  have FF := Lib.hid (fun (W : World) (hb : Below W3.heap.size W3 W) => order_any ⟨hx, hy, hz, da, dc, D, ma, mc, ms, ho⟩ W (CN3.out.1.later hb) (FlatIn.later CN3.out.2 hb) (by show ms.length ≤ 1000; omega))
  have RN := Lib.hid (fun (o : Nat) (ho2 : ho = (o : Int)) (hoN : o ≤ ms.length) (ha : ∀ (k : Nat) (n : Nd), ms[k]? = some n → ∀ v ∈ insN n, 0 ≤ v ∧ v ≤ (k : Int)) (W : World) (hb : Below W3.heap.size W3 W) => rneeded_any ⟨hx, hy, hz, da, dc, D, ma, mc, ms, ho⟩ W o ho2 hoN (FlatIn.later CN3.out.2 hb) (by show ms.length ≤ 1000; omega) ha)
  have GI := Lib.hid (fun h => graph_ins (g := GrQ.gr ⟨hx, hy, hz, da, dc, D, ma, mc, ms, ho⟩) h)
  have GA := Lib.hid (fun h => graph_ahead (g := GrQ.gr ⟨hx, hy, hz, da, dc, D, ma, mc, ms, ho⟩) h)
  unfold RShPost at RS
  unfold OrPost at FF
  obtain ⟨E, hE⟩ : ∃ E, E = graphE (GrQ.gr ⟨hx, hy, hz, da, dc, D, ma, mc, ms, ho⟩) := ⟨_, rfl⟩
  rw [← hE] at RS FF GI GA
  have HEE := Lib.hid hE
  obtain ⟨ec, el⟩ := E
  unfold GrQ.val at RS FF RN
  dsimp only at RS FF RN GI GA
  clear hE r3
  by_cases h0 : ec = 0
  case neg =>
    have h0b : (ec != 0) = true := by simpa using h0
    have h0c : (ec == ec) = true := by simp
    have HO := Lib.hid h0
    clear h0
    go_upto_region 3 with (go_at_call 23; (with_reducible refine (FF.out _ (Below.refl _ _)).mono ?_); rintro e w4 ⟨hno, hb4, _⟩; obtain rfl := hno HO.out; have HB4 := Lib.hid hb4; replace c0 := (R3.out.over hb4).cell 0 _ rfl; replace c1 := (R3.out.over hb4).cell 1 _ rfl; replace c2 := (R3.out.over hb4).cell 2 _ rfl; replace c3 := (R3.out.over hb4).cell 3 _ rfl; replace c4 := (R3.out.over hb4).cell 4 _ rfl; replace c5 := (R3.out.over hb4).cell 5 _ rfl; replace cl := (R3.out.over hb4).lt; clear hb4 hno)
    go_wp2_with (first | (go_at_call 12; (with_reducible refine (RS.out _ HB4.out).mono ?_); rintro e w6 ⟨v, rfl, hb6, _, _⟩; have HB6 := Lib.hid hb6; clear hb6) | (go_at_call 20; (with_reducible refine (LV.out _).mono ?_); rintro e w8 ⟨rfl, hb8⟩; have HB8 := Lib.hid hb8; clear hb8))
    go_ret
    exact ⟨rfl, below_call B3.out (below_call (below_call HB4.out HB6.out) HB8.out)⟩
  subst h0
  obtain ⟨hi1, hi2, hi3⟩ := GI.out (by trivial)
  obtain ⟨o, rfl⟩ : ∃ o : Nat, ho = (o : Int) := ⟨ho.toNat, by have : 0 ≤ ho := hi2; omega⟩
  have hoN : o ≤ ms.length := by have : (o : Int) < ((ms.length + 1 : Nat) : Int) := hi3; omega
  have hah : ∀ (k : Nat) (n : Nd), ms[k]? = some n → ∀ v ∈ insN n, 0 ≤ v ∧ v ≤ (k : Int) := GA.out (by trivial)
  have RN2 := Lib.hid (fun (W : World) (hb : Below W3.heap.size W3 W) => RN.out o rfl hoN hah W hb)
  have he0 : (graphE (GrQ.gr ⟨hx, hy, hz, da, dc, D, ma, mc, ms, (o : Int)⟩)).1 = 0 := by rw [← HEE.out]
  have hf : ∀ i, i < ms.length → ∀ v ∈ insF ms i, v ≤ i := by
    intro i hi v hv
    rw [insF_at (List.getElem?_eq_getElem hi)] at hv
    obtain ⟨z, hz, rfl⟩ := List.mem_map.1 hv
    have := hah i _ (List.getElem?_eq_getElem hi) z hz
    omega
  have NS := Lib.hid (show bkN (insF ms) ms.length (nd0 ms.length o) = fwsN (insF ms) ms.length (ms.length + 1) (nd0 ms.length o) from need_same hf hoN)
  have HE0 := Lib.hid he0
  have NLE := Lib.hid (show needL ⟨hx, hy, hz, da, dc, D, ma, mc, ms, (o : Int)⟩ = bkN (insF ms) ms.length (nd0 ms.length o) by unfold needL; simp)
  have OK := Lib.hid (odM_ok he0)
  have FRE := Lib.hid (fun (v : Nat) (hv : v ≤ ms.length) (W : World) (hb : Below W3.heap.size W3 W) => rfree_any ⟨hx, hy, hz, da, dc, D, ma, mc, ms, (o : Int)⟩ (needL ⟨hx, hy, hz, da, dc, D, ma, mc, ms, (o : Int)⟩) v hv W (FlatIn.later CN3.out.2 hb) (by show ms.length ≤ 1000; omega))
  have MRD := Lib.hid (show ∀ k n, ms[k]? = some n → (odM ⟨hx, hy, hz, da, dc, D, ma, mc, ms, (o : Int)⟩ (needL ⟨hx, hy, hz, da, dc, D, ma, mc, ms, (o : Int)⟩)).rd (k + 1) = (insN n).map Int.toNat from fun k n h => by
    show (if k + 1 = 0 then [] else insF ms (k + 1 - 1)) = _
    rw [if_neg (by omega), Nat.add_sub_cancel, insF_at h])
  have MND := Lib.hid (show ∀ v, (odM ⟨hx, hy, hz, da, dc, D, ma, mc, ms, (o : Int)⟩ (needL ⟨hx, hy, hz, da, dc, D, ma, mc, ms, (o : Int)⟩)).need v = (needL ⟨hx, hy, hz, da, dc, D, ma, mc, ms, (o : Int)⟩).getD v false from fun v => rfl)
  have MNN := Lib.hid (show (odM ⟨hx, hy, hz, da, dc, D, ma, mc, ms, (o : Int)⟩ (needL ⟨hx, hy, hz, da, dc, D, ma, mc, ms, (o : Int)⟩)).N = ms.length from rfl)
  have LOG := Lib.hid (show ordG ⟨hx, hy, hz, da, dc, D, ma, mc, ms, (o : Int)⟩ = (odM ⟨hx, hy, hz, da, dc, D, ma, mc, ms, (o : Int)⟩ (needL ⟨hx, hy, hz, da, dc, D, ma, mc, ms, (o : Int)⟩)).order (odM ⟨hx, hy, hz, da, dc, D, ma, mc, ms, (o : Int)⟩ (needL ⟨hx, hy, hz, da, dc, D, ma, mc, ms, (o : Int)⟩)).todo.length from rfl)
  have NLN := Lib.hid (needL_len he0)
  have INS := Lib.hid (fun (n : Nd) (W : World) => rins n W)
  unfold GrQ.val at FRE
  dsimp only at FRE NLN
  obtain ⟨nl, hnl⟩ : ∃ x, x = needL ⟨hx, hy, hz, da, dc, D, ma, mc, ms, (o : Int)⟩ := ⟨_, rfl⟩
  obtain ⟨m, hm⟩ : ∃ x, x = odM ⟨hx, hy, hz, da, dc, D, ma, mc, ms, (o : Int)⟩ nl := ⟨_, rfl⟩
  obtain ⟨L, hL⟩ : ∃ x, x = ordG ⟨hx, hy, hz, da, dc, D, ma, mc, ms, (o : Int)⟩ := ⟨_, rfl⟩
  rw [← hnl] at NLE OK FRE MRD MND MNN LOG NLN
  rw [← hm] at OK FRE MRD MND MNN LOG
  rw [← hL] at LOG FF
  have HAH := Lib.hid hah
  clear hi1 hi2 hi3 hah hf GI GA RN hnl hm hL he0
  go_upto_region 3 with (go_at_call 23; (with_reducible refine (FF.out _ (Below.refl _ _)).mono ?_); rintro e w4 ⟨_, hb4, hyes⟩; obtain ⟨lv, rfl, hlo⟩ := hyes (by trivial); obtain ⟨la, lc, rfl, hlc, hlcm⟩ := own_capN hlo; obtain ⟨la2, lc2, hle, _, hln⟩ := own_numsN (P := fun _ => True) hlo (fun _ _ => trivial); injection hle with hle1 _ hle3; subst hle1 hle3; have HB4 := Lib.hid hb4; have HLN := Lib.hid hln; replace c0 := (R3.out.over hb4).cell 0 _ rfl; replace c1 := (R3.out.over hb4).cell 1 _ rfl; replace c2 := (R3.out.over hb4).cell 2 _ rfl; replace c3 := (R3.out.over hb4).cell 3 _ rfl; replace c4 := (R3.out.over hb4).cell 4 _ rfl; replace c5 := (R3.out.over hb4).cell 5 _ rfl; replace cl := (R3.out.over hb4).lt; clear hb4 hyes hlo hln)
  go_upto_region 6 with (go_at_call 12; (with_reducible refine (RS.out _ HB4.out).mono ?_); rintro e w5 ⟨v, rfl, hb5, _, _⟩; have HB45 := Lib.hid hb5; have HB5 := Lib.hid (below_call HB4.out hb5); replace c0 := (R3.out.over HB5.out).cell 0 _ rfl; replace c1 := (R3.out.over HB5.out).cell 1 _ rfl; replace c2 := (R3.out.over HB5.out).cell 2 _ rfl; replace c3 := (R3.out.over HB5.out).cell 3 _ rfl; replace c4 := (R3.out.over HB5.out).cell 4 _ rfl; replace c5 := (R3.out.over HB5.out).cell 5 _ rfl; replace cl := (R3.out.over HB5.out).lt; clear hb5)
  go_upto_region 8 with (go_at_call 22; (with_reducible refine (RN2.out _ HB5.out).mono ?_); rintro e w6 ⟨V, vc, rfl, hV, hrowV, hb6⟩; have HB6 := Lib.hid (below_call HB5.out hb6); have HLN6 := Lib.hid ((HLN.out.over HB45.out).over hb6); rw [← NS.out, ← NLE.out] at hrowV; have HV := Lib.hid hrowV; clear hb6 hV hrowV)
  have hLl : L.length ≤ 12 := by
    have h1 := (order_spec OK.out m.todo.length (Nat.le_refl _)).2.1
    have h2 := todo_short OK.out
    rw [← LOG.out] at h1
    have := MNN.out
    omega
  have hLi : (L.length : Int) ≤ 12 := by omega
  have hlci : (L.length : Int) ≤ (lc : Int) := by omega
  have hlcj : (lc : Int) ≤ 9223372036854775807 := by omega
  have HLL := Lib.hid hLl
  clear c0 c1 c2 c3 c4 c5 cl FF RS HLN HB45 hLl hlc hlcm
  have RG6 := Lib.hid (R3.out.over HB6.out)
  obtain ⟨W6, hW6⟩ : ∃ W, W = w6 := ⟨_, rfl⟩
  rw [← hW6] at HB6 HLN6 HV RG6 ⊢
  clear hW6
  go_loopw [8, 9] (fun s8 s9 wr => ∃ v : Nat, v ≤ ms.length ∧ s9 = .int .i64 ((v + 1 : Nat) : Int) ∧ s8 = .int .i64 ((m.todoK v).length : Int) ∧ Below W6.heap.size W6 wr) (fun _ s9 _ => ms.length + 2 - (intOf s9).toNat)
  case atStart => exact ⟨0, Nat.zero_le _, rfl, by rw [todoK_zeroN OK.out.f0]; rfl, Below.refl _ _⟩
  case round =>
    obtain ⟨k, hk, rfl, rfl, hB⟩ := hrel
    have HB := Lib.hid hB
    have htl : (m.todoK k).length ≤ 13 := by unfold Od.todoK; have := List.length_filter_le m.want (List.range (k + 1)); simp at this; omega
    obtain ⟨tn, htn⟩ : ∃ t, t = (m.todoK k).length := ⟨_, rfl⟩
    rw [← htn]
    have HTN := Lib.hid htn
    have htb : tn ≤ 13 := by omega
    clear hB htn htl
    by_cases hkl : k < ms.length
    · obtain ⟨kp, hkp⟩ : ∃ x : Nat, x = k + 1 := ⟨_, rfl⟩
      have kp0 : (0 : Int) ≤ (kp : Int) := by omega
      have kp1 : (kp : Int) < (ms.length : Int) + 1 := by omega
      have HKP := Lib.hid hkp
      have HK := Lib.hid hkl
      have r1 := HV.out.over HB.out
      have u0 := r1.cell kp _ (boolsN_at (by rw [NLN.out]; omega))
      have ul := r1.lt
      have rg := RG6.out.over HB.out
      have c0 := rg.cell 0 _ rfl
      have c1 := rg.cell 1 _ rfl
      have c2 := rg.cell 2 _ rfl
      have c3 := rg.cell 3 _ rfl
      have c4 := rg.cell 4 _ rfl
      have c5 := rg.cell 5 _ rfl
      have cl := rg.lt
      have FR := Lib.hid (FRE.out kp (by omega) wr (below_call HB6.out HB.out))
      have HTK := Lib.hid (todoK_succ (m := m) k)
      have HWN := Lib.hid (show m.want (k + 1) = (nl.getD kp false && !m.free kp) by unfold Od.want; rw [MND.out, HKP.out])
      have IN := Lib.hid (fun (W : World) (hW : Below W6.heap.size W6 W) => rin_any la lc L kp W (HLN6.out.over hW) (by have := HLL.out; omega))
      have HMEM := Lib.hid (show m.want (k + 1) = true → kp ∈ L from fun h => by rw [LOG.out]; exact order_all OK.out (todo_mem.2 ⟨by rw [MNN.out]; omega, by rw [HKP.out]; exact h⟩))
      rw [← hkp]
      generalize nl.getD kp false = nv at *
      generalize m.free kp = fv at *
      clear rg r1 hkp hkl hk
      cases nv
      · go_wp2_with fail
        refine ⟨⟨kp, by have := HKP.out; have := HK.out; omega, by first | rfl | (push_cast; rfl), by rw [HKP.out, HTK.out, HWN.out, HTN.out]; rfl, HB.out⟩, by have := HKP.out; have := HK.out; simp [intOf]; omega⟩
      · cases fv
        · have hw : m.want (k + 1) = true := by rw [HWN.out]; rfl
          have hd : decide (kp ∈ L) = true := decide_eq_true (HMEM.out hw)
          rw [hd] at IN
          have HW := Lib.hid hw
          clear hw hd
          go_wp2_with (first
            | (go_at_call 26; (with_reducible refine FR.out.mono ?_); rintro e w7 ⟨rfl, hb7⟩; have HB7 := Lib.hid (below_call HB.out hb7); clear hb7)
            | (go_at_call 27; (with_reducible refine (IN.out _ HB7.out).mono ?_); rintro e w8 ⟨rfl, hb8⟩; have HB8 := Lib.hid (below_call HB7.out hb8); clear hb8))
          refine ⟨⟨kp, by have := HKP.out; have := HK.out; omega, by first | rfl | (push_cast; rfl), by rw [HKP.out, HTK.out, HW.out, HTN.out]; simp, HB8.out⟩, by have := HKP.out; have := HK.out; simp [intOf]; omega⟩
        · go_wp2_with (first
            | (go_at_call 26; (with_reducible refine FR.out.mono ?_); rintro e w7 ⟨rfl, hb7⟩; have HB7 := Lib.hid (below_call HB.out hb7); clear hb7))
          refine ⟨⟨kp, by have := HKP.out; have := HK.out; omega, by first | rfl | (push_cast; rfl), by rw [HKP.out, HTK.out, HWN.out, HTN.out]; rfl, HB7.out⟩, by have := HKP.out; have := HK.out; simp [intOf]; omega⟩
    · obtain rfl : k = ms.length := by omega
      have kx : ¬ (((ms.length + 1 : Nat) : Int) < (ms.length : Int) + 1) := by omega
      have HTT := Lib.hid (show tn = L.length by
        rw [HTN.out]
        have h1 := (order_spec OK.out m.todo.length (Nat.le_refl _)).2.1
        rw [← LOG.out] at h1
        rw [h1, ← MNN.out]; rfl)
      clear hkl hk
      have W7B := Lib.hid HB.out
      go_wp2_with fail
      have HLN8 := Lib.hid (HLN6.out.over HB.out)
      have HT := Lib.hid HTT.out
      obtain ⟨W8, hW8⟩ : ∃ W, W = wr := ⟨_, rfl⟩
      rw [← hW8] at HLN8 W7B
      have RG8 := Lib.hid (RG6.out.over W7B.out)
      have B38 := Lib.hid (below_call HB6.out W7B.out)
      clear HB HV
      go_loopw [10] (fun s10 wx => ∃ i : Nat, i ≤ L.length ∧ s10 = .int .i64 i ∧ Below W8.heap.size W8 wx) (fun s10 _ => L.length - (intOf s10).toNat)
      case atStart => exact ⟨0, Nat.zero_le _, rfl, by rw [hW8]; exact Below.refl _ _⟩
      case round =>
        obtain ⟨i, hi, rfl, hB⟩ := hrel
        have HB := Lib.hid hB
        clear hB
        by_cases hil : i < L.length
        · obtain ⟨x, hx⟩ : ∃ x, L[i]? = some x := ⟨_, List.getElem?_eq_getElem hil⟩
          obtain ⟨g, hla, _, hgl, hgc⟩ := (HLN8.out.over HB.out) i x hx
          subst hla
          obtain ⟨hxt, hxn, hxr⟩ := order_at OK.out m.todo.length (Nat.le_refl _) i x (by rw [← LOG.out]; exact hx)
          rw [← LOG.out] at hxn hxr
          have hx1 := todo_pos OK.out (todo_mem.1 hxt).2
          have hxN := (todo_mem.1 hxt).1
          rw [MNN.out] at hxN
          obtain ⟨j, rfl⟩ : ∃ j, x = j + 1 := ⟨x - 1, by omega⟩
          obtain ⟨nd, hnd⟩ : ∃ n, ms[j]? = some n := ⟨_, List.getElem?_eq_getElem (by omega)⟩
          obtain ⟨nb, noff, hna, hnb, hrg⟩ := nds_range CN3.out.2 j nd hnd
          subst hna
          have hrd := MRD.out j nd hnd
          obtain ⟨xp, hxp⟩ : ∃ x : Nat, x = j + 1 := ⟨_, rfl⟩
          rw [← hxp] at hgc hxn hxr hrd
          have HIN := Lib.hid (show ∀ z ∈ insN nd, ∃ y : Nat, z = (y : Int) ∧ y ≤ ms.length ∧ (m.free y = true ∨ y ∈ L.take i) from fun z hz => by
            have h1 := HAH.out j nd hnd z hz
            refine ⟨z.toNat, by omega, by omega, hxr _ ?_⟩
            rw [hrd]; exact List.mem_map.2 ⟨z, hz, rfl⟩)
          have t1 : decide ((xp : Int) < 1) = false := by simp; omega
          have t2 : decide ((ms.length : Int) + 1 ≤ (xp : Int)) = false := by simp; omega
          have x0 : (1 : Int) ≤ (xp : Int) := by omega
          have x1 : (xp : Int) < (ms.length : Int) + 1 := by omega
          have i0 : (0 : Int) ≤ (i : Int) := by omega
          have i1 : (i : Int) < (L.length : Int) := by omega
          have i2 : (i : Int) ≤ (lc : Int) := by omega
          have j0 : (0 : Int) ≤ (j : Int) := by omega
          have j1 : (j : Int) < (ms.length : Int) := by omega
          have hw : IntKind.i64.wrap ((xp : Int) - 1) = (j : Int) := by rw [hxp]; simp [IntKind.wrap, IntKind.signed, IntKind.bits]; omega
          have hw2 : (xp : Int) - 1 = (j : Int) := by omega
          have hw3 : IntKind.i64.wrap (j : Int) = (j : Int) := by simp [IntKind.wrap, IntKind.signed, IntKind.bits]; omega
          have IN := Lib.hid (show ∀ (y : Nat) (W : World), Below W8.heap.size W8 W → Calls Try.prog 27 #[.slice (some ⟨g, 0, none⟩) i lc, .int .i64 (y : Int)] W fun e w' => e = .returned (.bool (decide (y ∈ L.take i))) ∧ Below W.heap.size W w' from fun y W hW => by
            have h := rin_any (some ⟨g, 0, none⟩) lc (L.take i) y W ((HLN8.out.over hW).take i) (by rw [List.length_take]; omega)
            rw [show (L.take i).length = i by rw [List.length_take]; omega] at h
            exact h)
          have HXN := Lib.hid (show decide (xp ∈ L.take i) = false from decide_eq_false hxn)
          have HRG := Lib.hid (fun (W : World) (hW : Below W3.heap.size W3 W) => NL.read nd W nb (noff + j * 26) (fun q v hv => (hW.cell (p := ⟨nb, _, none⟩) hnb).trans (hrg q v hv)))
          have HI := Lib.hid hil
          have HGC := Lib.hid hgc
          have HGL := Lib.hid hgl
          have RI := Lib.hid (fun W => INS.out nd W)
          have hcb := CN3.out.2.2.1
          have hmc : (mc : Int) ≤ 9223372036854775807 := by omega
          have tLn := NL.len nd
          have hnl3 := hnb
          clear hx hil hi hxt hxn hxr hx1 hxN hrd hrg hnd hxp hgc hgl hcb
          obtain ⟨wo, hwo⟩ : ∃ W : World, W = wr := ⟨_, rfl⟩
          rw [← hwo] at HB HGC HGL ⊢
          clear hwo
          go_upto_region 17 with fail
          have PS := Lib.hid (show ∀ W', Below wo.heap.size wo W' → (fun (w' : World) => w'.cell? ⟨g, i, none⟩ = some (.int .i64 (xp : Int)) ∧ g < w'.heap.size) W' from fun W' h => ⟨(h.cell (p := ⟨g, i, none⟩) HGL.out).trans HGC.out, Nat.lt_of_lt_of_le HGL.out h.size⟩)
          refine wp_region_held_drew (S := (fun (w' : World) => w'.cell? ⟨g, i, none⟩ = some (.int .i64 (xp : Int)) ∧ g < w'.heap.size)) (by kernel_rfl) (by exact PS.out _ (Below.refl _ _).drew) (fun hHeld => ?_)
          refine wpAnyH_take (i := 0) (oi := _) (v := ?va0) rfl (by kernel_rfl) (by kernel_rfl) (by kernel_rfl) (fun _ _ _ h => h) (Or.inl ⟨by rfl, ?ya0⟩) hHeld ?ra0
          case ya0 => (intro wq hSw; (try dsimp only at hSw); go_simp; try with_reducible rfl)
          try simp only [Act.put, List.getElem_toArray, List.getElem_cons_zero, List.setIfInBounds_toArray, List.set_cons_zero, List.set_cons_succ]
          refine wpAnyH_take (i := 1) (oi := _) (v := ?va1) rfl (by kernel_rfl) (by kernel_rfl) (by kernel_rfl) (fun _ _ _ h => h) (Or.inl ⟨by rfl, ?ya1⟩) hHeld ?ra1
          case ya1 => (intro wq hSw; (try dsimp only at hSw); go_simp; try with_reducible rfl)
          try simp only [Act.put, List.getElem_toArray, List.getElem_cons_zero, List.getElem_cons_succ, List.setIfInBounds_toArray, List.set_cons_zero, List.set_cons_succ]
          refine wpAnyH_take (i := 2) (oi := _) (v := ?va2) rfl (by kernel_rfl) (by kernel_rfl) (by kernel_rfl) (fun _ _ _ h => h) (Or.inl ⟨by rfl, ?ya2⟩) hHeld ?ra2
          case ya2 => (intro wq hSw; (try dsimp only at hSw); go_simp; try with_reducible rfl)
          try simp only [Act.put, List.getElem_toArray, List.getElem_cons_zero, List.getElem_cons_succ, List.setIfInBounds_toArray, List.set_cons_zero, List.set_cons_succ]
          refine wpAnyH_take (i := 3) (oi := _) (v := ?va3) rfl (by kernel_rfl) (by kernel_rfl) (by kernel_rfl) (fun _ _ _ h => h) (Or.inl ⟨by rfl, ?ya3⟩) hHeld ?ra3
          case ya3 => (intro wq hSw; (try dsimp only at hSw); go_simp; try with_reducible rfl)
          try simp only [Act.put, List.getElem_toArray, List.getElem_cons_zero, List.getElem_cons_succ, List.setIfInBounds_toArray, List.set_cons_zero, List.set_cons_succ]
          refine wpAnyH_take (i := 4) (oi := _) (v := ?va4) rfl (by kernel_rfl) (by kernel_rfl) (by kernel_rfl) (fun _ _ _ h => h) (Or.inl ⟨by rfl, ?ya4⟩) hHeld ?ra4
          case ya4 => (intro wq hSw; (try dsimp only at hSw); go_simp; try with_reducible rfl)
          try simp only [Act.put, List.getElem_toArray, List.getElem_cons_zero, List.getElem_cons_succ, List.setIfInBounds_toArray, List.set_cons_zero, List.set_cons_succ]
          refine wpAnyH_take (i := 5) (oi := _) (v := ?va5) rfl (by kernel_rfl) (by kernel_rfl) (by kernel_rfl) (fun _ _ _ h => h) (Or.inl ⟨by rfl, ?ya5⟩) hHeld ?ra5
          case ya5 => (intro wq hSw; (try dsimp only at hSw); go_simp; try with_reducible rfl)
          try simp only [Act.put, List.getElem_toArray, List.getElem_cons_zero, List.getElem_cons_succ, List.setIfInBounds_toArray, List.set_cons_zero, List.set_cons_succ]
          refine wpAnyH_take (i := 6) (oi := _) (v := ?va6) rfl (by kernel_rfl) (by kernel_rfl) (by kernel_rfl) (fun _ _ _ h => h) (Or.inl ⟨by rfl, ?ya6⟩) hHeld ?ra6
          case ya6 => (intro wq hSw; (try dsimp only at hSw); go_simp; try with_reducible rfl)
          try simp only [Act.put, List.getElem_toArray, List.getElem_cons_zero, List.getElem_cons_succ, List.setIfInBounds_toArray, List.set_cons_zero, List.set_cons_succ]
          refine wpAnyH_take (i := 7) (oi := _) (v := ?va7) rfl (by kernel_rfl) (by kernel_rfl) (by kernel_rfl) (fun _ _ _ h => h) (Or.inl ⟨by rfl, ?ya7⟩) hHeld ?ra7
          case ya7 => (intro wq hSw; (try dsimp only at hSw); go_simp; try with_reducible rfl)
          try simp only [Act.put, List.getElem_toArray, List.getElem_cons_zero, List.getElem_cons_succ, List.setIfInBounds_toArray, List.set_cons_zero, List.set_cons_succ]
          refine wpAnyH_take (i := 8) (oi := _) (v := ?va8) rfl (by kernel_rfl) (by kernel_rfl) (by kernel_rfl) (fun _ _ _ h => h) (Or.inl ⟨by rfl, ?ya8⟩) hHeld ?ra8
          case ya8 => (intro wq hSw; (try dsimp only at hSw); go_simp; try with_reducible rfl)
          try simp only [Act.put, List.getElem_toArray, List.getElem_cons_zero, List.getElem_cons_succ, List.setIfInBounds_toArray, List.set_cons_zero, List.set_cons_succ]
          refine wpAnyH_take (i := 9) (oi := _) (v := ?va9) rfl (by kernel_rfl) (by kernel_rfl) (by kernel_rfl) (fun _ _ _ h => h) (Or.inl ⟨by rfl, ?ya9⟩) hHeld ?ra9
          case ya9 => (intro wq hSw; (try dsimp only at hSw); go_simp; try with_reducible rfl)
          try simp only [Act.put, List.getElem_toArray, List.getElem_cons_zero, List.getElem_cons_succ, List.setIfInBounds_toArray, List.set_cons_zero, List.set_cons_succ]
          refine wpAnyH_take (i := 10) (oi := _) (v := ?va10) rfl (by kernel_rfl) (by kernel_rfl) (by kernel_rfl) (fun _ _ _ h => h) (Or.inl ⟨by rfl, ?ya10⟩) hHeld ?ra10
          case ya10 => (intro wq hSw; (try dsimp only at hSw); go_simp; try with_reducible rfl)
          try simp only [Act.put, List.getElem_toArray, List.getElem_cons_zero, List.getElem_cons_succ, List.setIfInBounds_toArray, List.set_cons_zero, List.set_cons_succ]
          refine wpAnyH_take (i := 11) (oi := _) (v := ?va11) rfl (by kernel_rfl) (by kernel_rfl) (by kernel_rfl) (fun _ _ _ h => h) (Or.inl ⟨by rfl, ?ya11⟩) hHeld ?ra11
          case ya11 => (intro wq hSw; (try dsimp only at hSw); go_simp; try with_reducible rfl)
          try simp only [Act.put, List.getElem_toArray, List.getElem_cons_zero, List.getElem_cons_succ, List.setIfInBounds_toArray, List.set_cons_zero, List.set_cons_succ]
          refine wpAnyH_take (i := 12) (oi := _) (v := ?va12) rfl (by kernel_rfl) (by kernel_rfl) (by kernel_rfl) (fun _ _ _ h => h) (Or.inl ⟨by rfl, ?ya12⟩) hHeld ?ra12
          case ya12 => (intro wq hSw; (try dsimp only at hSw); go_simp; try with_reducible rfl)
          try simp only [Act.put, List.getElem_toArray, List.getElem_cons_zero, List.getElem_cons_succ, List.setIfInBounds_toArray, List.set_cons_zero, List.set_cons_succ]
          refine wpAnyH_take (i := 13) (oi := _) (v := ?va13) rfl (by kernel_rfl) (by kernel_rfl) (by kernel_rfl) (fun _ _ _ h => h) (Or.inl ⟨by rfl, ?ya13⟩) hHeld ?ra13
          case ya13 => (intro wq hSw; (try dsimp only at hSw); go_simp; try with_reducible rfl)
          try simp only [Act.put, List.getElem_toArray, List.getElem_cons_zero, List.getElem_cons_succ, List.setIfInBounds_toArray, List.set_cons_zero, List.set_cons_succ]
          refine wpAnyH_take (i := 14) (oi := _) (v := ?va14) rfl (by kernel_rfl) (by kernel_rfl) (by kernel_rfl) (fun _ _ _ h => h) (Or.inl ⟨by rfl, ?ya14⟩) hHeld ?ra14
          case ya14 => (intro wq hSw; (try dsimp only at hSw); go_simp; try with_reducible rfl)
          try simp only [Act.put, List.getElem_toArray, List.getElem_cons_zero, List.getElem_cons_succ, List.setIfInBounds_toArray, List.set_cons_zero, List.set_cons_succ]
          refine wpAnyH_take (i := 15) (oi := _) (v := ?va15) rfl (by kernel_rfl) (by kernel_rfl) (by kernel_rfl) (fun _ _ _ h => h) (Or.inl ⟨by rfl, ?ya15⟩) hHeld ?ra15
          case ya15 => (intro wq hSw; (try dsimp only at hSw); go_simp; try with_reducible rfl)
          try simp only [Act.put, List.getElem_toArray, List.getElem_cons_zero, List.getElem_cons_succ, List.setIfInBounds_toArray, List.set_cons_zero, List.set_cons_succ]
          refine wpAnyH_take (i := 16) (oi := _) (v := ?va16) rfl (by kernel_rfl) (by kernel_rfl) (by kernel_rfl) (fun _ _ _ h => h) (Or.inl ⟨by rfl, ?ya16⟩) hHeld ?ra16
          case ya16 => (intro wq hSw; (try dsimp only at hSw); go_simp; try with_reducible rfl)
          try simp only [Act.put, List.getElem_toArray, List.getElem_cons_zero, List.getElem_cons_succ, List.setIfInBounds_toArray, List.set_cons_zero, List.set_cons_succ]
          refine wpAnyH_take (i := 17) (oi := _) (v := ?va17) rfl (by kernel_rfl) (by kernel_rfl) (by kernel_rfl) (fun _ _ _ h => h) (Or.inl ⟨by rfl, ?ya17⟩) hHeld ?ra17
          case ya17 => (intro wq hSw; (try dsimp only at hSw); go_simp; try with_reducible rfl)
          try simp only [Act.put, List.getElem_toArray, List.getElem_cons_zero, List.getElem_cons_succ, List.setIfInBounds_toArray, List.set_cons_zero, List.set_cons_succ]
          refine wpAnyH_take (i := 18) (oi := _) (v := ?va18) rfl (by kernel_rfl) (by kernel_rfl) (by kernel_rfl) (fun _ _ _ h => h) (Or.inl ⟨by rfl, ?ya18⟩) hHeld ?ra18
          case ya18 => (intro wq hSw; (try dsimp only at hSw); go_simp; try with_reducible rfl)
          try simp only [Act.put, List.getElem_toArray, List.getElem_cons_zero, List.getElem_cons_succ, List.setIfInBounds_toArray, List.set_cons_zero, List.set_cons_succ]
          refine wpAnyH_take (i := 19) (oi := _) (v := ?va19) rfl (by kernel_rfl) (by kernel_rfl) (by kernel_rfl) (fun _ _ _ h => h) (Or.inl ⟨by rfl, ?ya19⟩) hHeld ?ra19
          case ya19 => (intro wq hSw; (try dsimp only at hSw); go_simp; try with_reducible rfl)
          try simp only [Act.put, List.getElem_toArray, List.getElem_cons_zero, List.getElem_cons_succ, List.setIfInBounds_toArray, List.set_cons_zero, List.set_cons_succ]
          refine wpAnyH_take (i := 20) (oi := _) (v := ?va20) rfl (by kernel_rfl) (by kernel_rfl) (by kernel_rfl) (fun _ _ _ h => h) (Or.inl ⟨by rfl, ?ya20⟩) hHeld ?ra20
          case ya20 => (intro wq hSw; (try dsimp only at hSw); go_simp; try with_reducible rfl)
          try simp only [Act.put, List.getElem_toArray, List.getElem_cons_zero, List.getElem_cons_succ, List.setIfInBounds_toArray, List.set_cons_zero, List.set_cons_succ]
          refine wpAnyH_take (i := 21) (oi := _) (v := ?va21) rfl (by kernel_rfl) (by kernel_rfl) (by kernel_rfl) (fun _ _ _ h => h) (Or.inl ⟨by rfl, ?ya21⟩) hHeld ?ra21
          case ya21 => (intro wq hSw; (try dsimp only at hSw); go_simp; try with_reducible rfl)
          try simp only [Act.put, List.getElem_toArray, List.getElem_cons_zero, List.getElem_cons_succ, List.setIfInBounds_toArray, List.set_cons_zero, List.set_cons_succ]
          refine wpAnyH_ready (rs := [22]) (by kernel_rfl) (by simp) ?_
          refine AllReadyH.cons (o := _) rfl (fun K hK => ?_) AllReadyH.nil
          go_simp
          have HIX := IN.out xp _ (HB.out.trans ((Below.refl wo.heap.size wo).drew.mono HB.out.size)); rw [HXN.out] at HIX; (with_reducible refine (HIX).mono ?_); rintro e w9 ⟨rfl, hb9⟩; have hIw9 : Below wo.heap.size wo w9 := (by first | exact hb9 | exact below_call (Below.refl wo.heap.size wo).drew hb9)
          refine hK.out _ _ (PS.out w9 hIw9) (fun hHeld2 => ?_)
          clear hK K hHeld
          have hHeld := hHeld2
          clear hHeld2
          try simp only [Act.put, List.getElem_toArray, List.getElem_cons_zero, List.getElem_cons_succ, List.setIfInBounds_toArray, List.set_cons_zero, List.set_cons_succ]
          refine wpAnyH_take (i := 23) (oi := _) (v := ?va23) rfl (by kernel_rfl) (by kernel_rfl) (by kernel_rfl) (fun _ _ _ h => h) (Or.inl ⟨by rfl, ?ya23⟩) hHeld ?ra23
          case ya23 => (intro wq hSw; (try dsimp only at hSw); go_simp; try with_reducible rfl)
          try simp only [Act.put, List.getElem_toArray, List.getElem_cons_zero, List.getElem_cons_succ, List.setIfInBounds_toArray, List.set_cons_zero, List.set_cons_succ]
          refine wpAnyH_done (by kernel_rfl) ?_ _
          try go_simp
          clear hHeld
          go_upto_region 19 with fail
          have HW9 := Lib.hid (HB.out.trans (hIw9.mono HB.out.size))
          have B39 := Lib.hid (below_call B38.out HW9.out)
          have RG9 := Lib.hid (RG8.out.over HW9.out)
          have gl9 := RG9.out.lt
          have gc9 := (hIw9.cell (p := ⟨g, i, none⟩) HGL.out).trans HGC.out
          have gg9 := Nat.lt_of_lt_of_le HGL.out hIw9.size
          have PT := Lib.hid (show ∀ W', Below w9.heap.size w9 W' → (fun (w' : World) => w'.cell? ⟨w.heap.size, 4, none⟩ = some (.slice (some ⟨nb, noff, none⟩) ms.length mc) ∧ w'.cell? ⟨g, i, none⟩ = some (.int .i64 (xp : Int)) ∧ (loadCellsFrom ⟨nb, noff + j * 26, none⟩ 0 Z #[]).run Try.prog w' = .ok nd.cells.toArray w' ∧ g < w'.heap.size ∧ w.heap.size < w'.heap.size ∧ nb < w'.heap.size) W' from fun W' h => ⟨(RG9.out.over h).cell 4 _ rfl, (h.cell (p := ⟨g, i, none⟩) gg9).trans gc9, HRG.out W' (below_call B39.out h), Nat.lt_of_lt_of_le gg9 h.size, (RG9.out.over h).lt, Nat.lt_of_lt_of_le hnl3 (below_call B39.out h).size⟩)
          clear hIw9 gl9 gc9 gg9
          refine wp_region_held_drew (S := (fun (w' : World) => w'.cell? ⟨w.heap.size, 4, none⟩ = some (.slice (some ⟨nb, noff, none⟩) ms.length mc) ∧ w'.cell? ⟨g, i, none⟩ = some (.int .i64 (xp : Int)) ∧ (loadCellsFrom ⟨nb, noff + j * 26, none⟩ 0 Z #[]).run Try.prog w' = .ok nd.cells.toArray w' ∧ g < w'.heap.size ∧ w.heap.size < w'.heap.size ∧ nb < w'.heap.size)) (by kernel_rfl) (by exact PT.out _ (Below.refl _ _).drew) (fun hHeld => ?_)
          refine wpAnyH_take (i := 0) (oi := _) (v := ?vb0) rfl (by kernel_rfl) (by kernel_rfl) (by kernel_rfl) (fun _ _ _ h => h) (Or.inl ⟨by rfl, ?yb0⟩) hHeld ?rb0
          case yb0 => (intro wq hSw; (try dsimp only at hSw); go_simp; try with_reducible rfl)
          try simp only [Act.put, List.getElem_toArray, List.getElem_cons_zero, List.setIfInBounds_toArray, List.set_cons_zero, List.set_cons_succ]
          refine wpAnyH_take (i := 1) (oi := _) (v := ?vb1) rfl (by kernel_rfl) (by kernel_rfl) (by kernel_rfl) (fun _ _ _ h => h) (Or.inl ⟨by rfl, ?yb1⟩) hHeld ?rb1
          case yb1 => (intro wq hSw; (try dsimp only at hSw); go_simp; try with_reducible rfl)
          try simp only [Act.put, List.getElem_toArray, List.getElem_cons_zero, List.getElem_cons_succ, List.setIfInBounds_toArray, List.set_cons_zero, List.set_cons_succ]
          refine wpAnyH_take (i := 2) (oi := _) (v := ?vb2) rfl (by kernel_rfl) (by kernel_rfl) (by kernel_rfl) (fun _ _ _ h => h) (Or.inl ⟨by rfl, ?yb2⟩) hHeld ?rb2
          case yb2 => (intro wq hSw; (try dsimp only at hSw); go_simp; try with_reducible rfl)
          try simp only [Act.put, List.getElem_toArray, List.getElem_cons_zero, List.getElem_cons_succ, List.setIfInBounds_toArray, List.set_cons_zero, List.set_cons_succ]
          refine wpAnyH_take (i := 3) (oi := _) (v := ?vb3) rfl (by kernel_rfl) (by kernel_rfl) (by kernel_rfl) (fun _ _ _ h => h) (Or.inl ⟨by rfl, ?yb3⟩) hHeld ?rb3
          case yb3 => (intro wq hSw; (try dsimp only at hSw); go_simp; try with_reducible rfl)
          try simp only [Act.put, List.getElem_toArray, List.getElem_cons_zero, List.getElem_cons_succ, List.setIfInBounds_toArray, List.set_cons_zero, List.set_cons_succ]
          refine wpAnyH_take (i := 4) (oi := _) (v := ?vb4) rfl (by kernel_rfl) (by kernel_rfl) (by kernel_rfl) (fun _ _ _ h => h) (Or.inl ⟨by rfl, ?yb4⟩) hHeld ?rb4
          case yb4 => (intro wq hSw; (try dsimp only at hSw); go_simp; try with_reducible rfl)
          try simp only [Act.put, List.getElem_toArray, List.getElem_cons_zero, List.getElem_cons_succ, List.setIfInBounds_toArray, List.set_cons_zero, List.set_cons_succ]
          refine wpAnyH_take (i := 5) (oi := _) (v := ?vb5) rfl (by kernel_rfl) (by kernel_rfl) (by kernel_rfl) (fun _ _ _ h => h) (Or.inl ⟨by rfl, ?yb5⟩) hHeld ?rb5
          case yb5 => (intro wq hSw; (try dsimp only at hSw); go_simp; try with_reducible rfl)
          try simp only [Act.put, List.getElem_toArray, List.getElem_cons_zero, List.getElem_cons_succ, List.setIfInBounds_toArray, List.set_cons_zero, List.set_cons_succ]
          refine wpAnyH_take (i := 6) (oi := _) (v := ?vb6) rfl (by kernel_rfl) (by kernel_rfl) (by kernel_rfl) (fun _ _ _ h => h) (Or.inl ⟨by rfl, ?yb6⟩) hHeld ?rb6
          case yb6 => (intro wq hSw; (try dsimp only at hSw); go_simp; try with_reducible rfl)
          try simp only [Act.put, List.getElem_toArray, List.getElem_cons_zero, List.getElem_cons_succ, List.setIfInBounds_toArray, List.set_cons_zero, List.set_cons_succ]
          refine wpAnyH_take (i := 7) (oi := _) (v := ?vb7) rfl (by kernel_rfl) (by kernel_rfl) (by kernel_rfl) (fun _ _ _ h => h) (Or.inl ⟨by rfl, ?yb7⟩) hHeld ?rb7
          case yb7 => (intro wq hSw; (try dsimp only at hSw); go_simp; try with_reducible rfl)
          try simp only [Act.put, List.getElem_toArray, List.getElem_cons_zero, List.getElem_cons_succ, List.setIfInBounds_toArray, List.set_cons_zero, List.set_cons_succ]
          refine wpAnyH_take (i := 8) (oi := _) (v := ?vb8) rfl (by kernel_rfl) (by kernel_rfl) (by kernel_rfl) (fun _ _ _ h => h) (Or.inl ⟨by rfl, ?yb8⟩) hHeld ?rb8
          case yb8 => (intro wq hSw; (try dsimp only at hSw); go_simp; try with_reducible rfl)
          try simp only [Act.put, List.getElem_toArray, List.getElem_cons_zero, List.getElem_cons_succ, List.setIfInBounds_toArray, List.set_cons_zero, List.set_cons_succ]
          refine wpAnyH_ready (rs := [9]) (by kernel_rfl) (by simp) ?_
          refine AllReadyH.cons (o := _) rfl (fun K hK => ?_) AllReadyH.nil
          go_simp
          (with_reducible refine (RI.out _).mono ?_); rintro e w10 ⟨at0, ci, rfl, hb10, hin⟩; have hIw10 : Below w9.heap.size w9 w10 := (by first | exact hb10 | exact below_call (Below.refl w9.heap.size w9).drew hb10)
          refine hK.out _ _ (PT.out w10 hIw10) (fun hHeld2 => ?_)
          clear hK K hHeld
          have hHeld := hHeld2
          clear hHeld2
          try simp only [Act.put, List.getElem_toArray, List.getElem_cons_zero, List.getElem_cons_succ, List.setIfInBounds_toArray, List.set_cons_zero, List.set_cons_succ]
          refine wpAnyH_take (i := 10) (oi := _) (v := ?vb10) rfl (by kernel_rfl) (by kernel_rfl) (by kernel_rfl) (fun _ _ _ h => h) (Or.inl ⟨by rfl, ?yb10⟩) hHeld ?rb10
          case yb10 => (intro wq hSw; (try dsimp only at hSw); go_simp; try with_reducible rfl)
          try simp only [Act.put, List.getElem_toArray, List.getElem_cons_zero, List.getElem_cons_succ, List.setIfInBounds_toArray, List.set_cons_zero, List.set_cons_succ]
          refine wpAnyH_done (by kernel_rfl) ?_ _
          try go_simp
          clear hHeld
          have HIW := Lib.hid hIw10
          have HW10 := Lib.hid (HW9.out.trans (hIw10.mono HW9.out.size))
          have HAT := Lib.hid hin
          have hil2 : ((insN nd).length : Int) ≤ 2 := by have := ins_len nd; omega
          clear hIw10 hin
          go_wp2_with fail
          go_loopw [12] (fun s12 wx => ∃ q : Nat, q ≤ (insN nd).length ∧ s12 = .int .i64 q ∧ Below w10.heap.size w10 wx) (fun s12 _ => (insN nd).length - (intOf s12).toNat)
          case atStart => exact ⟨0, Nat.zero_le _, rfl, Below.refl _ _⟩
          case round =>
            obtain ⟨q, hq, rfl, hB⟩ := hrel
            have HBq := Lib.hid hB
            have HWq := Lib.hid (HW10.out.trans (hB.mono HW10.out.size))
            clear hB
            obtain ⟨wo2, hwo2⟩ : ∃ W : World, W = wr := ⟨_, rfl⟩
            rw [← hwo2] at HBq HWq ⊢
            clear hwo2
            by_cases hql : q < (insN nd).length
            · obtain ⟨z, hzz⟩ : ∃ z, (insN nd)[q]? = some z := ⟨_, List.getElem?_eq_getElem hql⟩
              obtain ⟨y, rfl, hyN, hyo⟩ := HIN.out z (List.mem_of_getElem? hzz)
              obtain ⟨gi, hat, _, hgi, hci⟩ := HAT.out q _ hzz
              subst hat
              have PQ := Lib.hid (show ∀ W', Below wo2.heap.size wo2 W' → (fun (w' : World) => w'.cell? ⟨w.heap.size, 0, none⟩ = some (.int .i64 hx) ∧ w'.cell? ⟨w.heap.size, 1, none⟩ = some (.int .i64 hy) ∧ w'.cell? ⟨w.heap.size, 2, none⟩ = some (.int .i64 hz) ∧ w'.cell? ⟨w.heap.size, 3, none⟩ = some (.slice da D.length dc) ∧ w'.cell? ⟨w.heap.size, 4, none⟩ = some (.slice (some ⟨nb, noff, none⟩) ms.length mc) ∧ w'.cell? ⟨w.heap.size, 5, none⟩ = some (.int .i64 (o : Int)) ∧ w.heap.size < w'.heap.size ∧ w'.cell? ⟨gi, q, none⟩ = some (.int .i64 (y : Int)) ∧ gi < w'.heap.size) W' from fun W' h => ⟨(RG8.out.over (HWq.out.trans (h.mono HWq.out.size))).cell 0 _ rfl, (RG8.out.over (HWq.out.trans (h.mono HWq.out.size))).cell 1 _ rfl, (RG8.out.over (HWq.out.trans (h.mono HWq.out.size))).cell 2 _ rfl, (RG8.out.over (HWq.out.trans (h.mono HWq.out.size))).cell 3 _ rfl, (RG8.out.over (HWq.out.trans (h.mono HWq.out.size))).cell 4 _ rfl, (RG8.out.over (HWq.out.trans (h.mono HWq.out.size))).cell 5 _ rfl, (RG8.out.over (HWq.out.trans (h.mono HWq.out.size))).lt, ((HBq.out.trans (h.mono HBq.out.size)).cell (p := ⟨gi, q, none⟩) hgi).trans hci, Nat.lt_of_lt_of_le hgi (HBq.out.trans (h.mono HBq.out.size)).size⟩)
              have FR := Lib.hid (fun W hW => FRE.out y hyN W hW)
              have IY := Lib.hid (fun W hW => IN.out y W hW)
              have q0 : (0 : Int) ≤ (q : Int) := by omega
              have q1 : (q : Int) < ((insN nd).length : Int) := by omega
              have HQ := Lib.hid hql
              have BQ3 := Lib.hid (below_call B38.out HWq.out)
              clear hzz hql hq hci hgi
              go_upto_region 23 with fail
              rcases hyo with hf | hm
              · rw [hf] at FR
                clear hf IY
                refine wp_region_held_drew (S := (fun (w' : World) => w'.cell? ⟨w.heap.size, 0, none⟩ = some (.int .i64 hx) ∧ w'.cell? ⟨w.heap.size, 1, none⟩ = some (.int .i64 hy) ∧ w'.cell? ⟨w.heap.size, 2, none⟩ = some (.int .i64 hz) ∧ w'.cell? ⟨w.heap.size, 3, none⟩ = some (.slice da D.length dc) ∧ w'.cell? ⟨w.heap.size, 4, none⟩ = some (.slice (some ⟨nb, noff, none⟩) ms.length mc) ∧ w'.cell? ⟨w.heap.size, 5, none⟩ = some (.int .i64 (o : Int)) ∧ w.heap.size < w'.heap.size ∧ w'.cell? ⟨gi, q, none⟩ = some (.int .i64 (y : Int)) ∧ gi < w'.heap.size)) (by kernel_rfl) (by exact PQ.out _ (Below.refl _ _).drew) (fun hHeld => ?_)
                refine wpAnyH_take (i := 0) (oi := _) (v := ?vc0) rfl (by kernel_rfl) (by kernel_rfl) (by kernel_rfl) (fun _ _ _ h => h) (Or.inl ⟨by rfl, ?yc0⟩) hHeld ?rc0
                case yc0 => (intro wq hSw; (try dsimp only at hSw); go_simp; try with_reducible rfl)
                try simp only [Act.put, List.getElem_toArray, List.getElem_cons_zero, List.setIfInBounds_toArray, List.set_cons_zero, List.set_cons_succ]
                refine wpAnyH_take (i := 1) (oi := _) (v := ?vc1) rfl (by kernel_rfl) (by kernel_rfl) (by kernel_rfl) (fun _ _ _ h => h) (Or.inl ⟨by rfl, ?yc1⟩) hHeld ?rc1
                case yc1 => (intro wq hSw; (try dsimp only at hSw); go_simp; try with_reducible rfl)
                try simp only [Act.put, List.getElem_toArray, List.getElem_cons_zero, List.getElem_cons_succ, List.setIfInBounds_toArray, List.set_cons_zero, List.set_cons_succ]
                refine wpAnyH_take (i := 2) (oi := _) (v := ?vc2) rfl (by kernel_rfl) (by kernel_rfl) (by kernel_rfl) (fun _ _ _ h => h) (Or.inl ⟨by rfl, ?yc2⟩) hHeld ?rc2
                case yc2 => (intro wq hSw; (try dsimp only at hSw); go_simp; try with_reducible rfl)
                try simp only [Act.put, List.getElem_toArray, List.getElem_cons_zero, List.getElem_cons_succ, List.setIfInBounds_toArray, List.set_cons_zero, List.set_cons_succ]
                refine wpAnyH_take (i := 3) (oi := _) (v := ?vc3) rfl (by kernel_rfl) (by kernel_rfl) (by kernel_rfl) (fun _ _ _ h => h) (Or.inl ⟨by rfl, ?yc3⟩) hHeld ?rc3
                case yc3 => (intro wq hSw; (try dsimp only at hSw); go_simp; try with_reducible rfl)
                try simp only [Act.put, List.getElem_toArray, List.getElem_cons_zero, List.getElem_cons_succ, List.setIfInBounds_toArray, List.set_cons_zero, List.set_cons_succ]
                refine wpAnyH_take (i := 4) (oi := _) (v := ?vc4) rfl (by kernel_rfl) (by kernel_rfl) (by kernel_rfl) (fun _ _ _ h => h) (Or.inl ⟨by rfl, ?yc4⟩) hHeld ?rc4
                case yc4 => (intro wq hSw; (try dsimp only at hSw); go_simp; try with_reducible rfl)
                try simp only [Act.put, List.getElem_toArray, List.getElem_cons_zero, List.getElem_cons_succ, List.setIfInBounds_toArray, List.set_cons_zero, List.set_cons_succ]
                refine wpAnyH_ready (rs := [5]) (by kernel_rfl) (by simp) ?_
                refine AllReadyH.cons (o := _) rfl (fun K hK => ?_) AllReadyH.nil
                go_simp
                (with_reducible refine (FR.out _ (BQ3.out.trans ((Below.refl wo2.heap.size wo2).drew.mono BQ3.out.size))).mono ?_); rintro e w11 ⟨rfl, hb11⟩; have hIw11 : Below wo2.heap.size wo2 w11 := (by first | exact hb11 | exact below_call (Below.refl wo2.heap.size wo2).drew hb11)
                refine hK.out _ _ (PQ.out w11 hIw11) (fun hHeld2 => ?_)
                clear hK K hHeld
                have hHeld := hHeld2
                clear hHeld2
                try simp only [Act.put, List.getElem_toArray, List.getElem_cons_zero, List.getElem_cons_succ, List.setIfInBounds_toArray, List.set_cons_zero, List.set_cons_succ]
                refine wpAnyH_take (i := 6) (oi := _) (v := ?vc6) rfl (by kernel_rfl) (by kernel_rfl) (by kernel_rfl) (fun _ _ _ h => h) (Or.inl ⟨by rfl, ?yc6⟩) hHeld ?rc6
                case yc6 => (intro wq hSw; (try dsimp only at hSw); go_simp; try with_reducible rfl)
                try simp only [Act.put, List.getElem_toArray, List.getElem_cons_zero, List.getElem_cons_succ, List.setIfInBounds_toArray, List.set_cons_zero, List.set_cons_succ]
                refine wpAnyH_take (i := 7) (oi := _) (v := ?vc7) rfl (by kernel_rfl) (by kernel_rfl) (by kernel_rfl) (fun _ _ _ h => h) (Or.inl ⟨by rfl, ?yc7⟩) hHeld ?rc7
                case yc7 => (intro wq hSw; (try dsimp only at hSw); go_simp; try with_reducible rfl)
                try simp only [Act.put, List.getElem_toArray, List.getElem_cons_zero, List.getElem_cons_succ, List.setIfInBounds_toArray, List.set_cons_zero, List.set_cons_succ]
                refine wpAnyH_take (i := 8) (oi := _) (v := undef) rfl (by kernel_rfl) (by kernel_rfl) (by kernel_rfl) (fun _ _ _ h => h) (Or.inr ⟨by rfl, rfl⟩) hHeld ?_
                try simp only [Act.put, List.getElem_toArray, List.getElem_cons_zero, List.getElem_cons_succ, List.setIfInBounds_toArray, List.set_cons_zero, List.set_cons_succ]
                refine wpAnyH_take (i := 9) (oi := _) (v := undef) rfl (by kernel_rfl) (by kernel_rfl) (by kernel_rfl) (fun _ _ _ h => h) (Or.inr ⟨by rfl, rfl⟩) hHeld ?_
                try simp only [Act.put, List.getElem_toArray, List.getElem_cons_zero, List.getElem_cons_succ, List.setIfInBounds_toArray, List.set_cons_zero, List.set_cons_succ]
                refine wpAnyH_take (i := 10) (oi := _) (v := undef) rfl (by kernel_rfl) (by kernel_rfl) (by kernel_rfl) (fun _ _ _ h => h) (Or.inr ⟨by rfl, rfl⟩) hHeld ?_
                try simp only [Act.put, List.getElem_toArray, List.getElem_cons_zero, List.getElem_cons_succ, List.setIfInBounds_toArray, List.set_cons_zero, List.set_cons_succ]
                refine wpAnyH_take (i := 11) (oi := _) (v := undef) rfl (by kernel_rfl) (by kernel_rfl) (by kernel_rfl) (fun _ _ _ h => h) (Or.inr ⟨by rfl, rfl⟩) hHeld ?_
                try simp only [Act.put, List.getElem_toArray, List.getElem_cons_zero, List.getElem_cons_succ, List.setIfInBounds_toArray, List.set_cons_zero, List.set_cons_succ]
                refine wpAnyH_take (i := 12) (oi := _) (v := undef) rfl (by kernel_rfl) (by kernel_rfl) (by kernel_rfl) (fun _ _ _ h => h) (Or.inr ⟨by rfl, rfl⟩) hHeld ?_
                try simp only [Act.put, List.getElem_toArray, List.getElem_cons_zero, List.getElem_cons_succ, List.setIfInBounds_toArray, List.set_cons_zero, List.set_cons_succ]
                refine wpAnyH_take (i := 13) (oi := _) (v := undef) rfl (by kernel_rfl) (by kernel_rfl) (by kernel_rfl) (fun _ _ _ h => h) (Or.inr ⟨by rfl, rfl⟩) hHeld ?_
                try simp only [Act.put, List.getElem_toArray, List.getElem_cons_zero, List.getElem_cons_succ, List.setIfInBounds_toArray, List.set_cons_zero, List.set_cons_succ]
                refine wpAnyH_take (i := 14) (oi := _) (v := undef) rfl (by kernel_rfl) (by kernel_rfl) (by kernel_rfl) (fun _ _ _ h => h) (Or.inr ⟨by rfl, rfl⟩) hHeld ?_
                try simp only [Act.put, List.getElem_toArray, List.getElem_cons_zero, List.getElem_cons_succ, List.setIfInBounds_toArray, List.set_cons_zero, List.set_cons_succ]
                refine wpAnyH_take (i := 15) (oi := _) (v := undef) rfl (by kernel_rfl) (by kernel_rfl) (by kernel_rfl) (fun _ _ _ h => h) (Or.inr ⟨by rfl, rfl⟩) hHeld ?_
                try simp only [Act.put, List.getElem_toArray, List.getElem_cons_zero, List.getElem_cons_succ, List.setIfInBounds_toArray, List.set_cons_zero, List.set_cons_succ]
                refine wpAnyH_take (i := 16) (oi := _) (v := undef) rfl (by kernel_rfl) (by kernel_rfl) (by kernel_rfl) (fun _ _ _ h => h) (Or.inr ⟨by rfl, rfl⟩) hHeld ?_
                try simp only [Act.put, List.getElem_toArray, List.getElem_cons_zero, List.getElem_cons_succ, List.setIfInBounds_toArray, List.set_cons_zero, List.set_cons_succ]
                refine wpAnyH_take (i := 17) (oi := _) (v := ?vc17) rfl (by kernel_rfl) (by kernel_rfl) (by kernel_rfl) (fun _ _ _ h => h) (Or.inl ⟨by rfl, ?yc17⟩) hHeld ?rc17
                case yc17 => (intro wq hSw; (try dsimp only at hSw); go_simp; try with_reducible rfl)
                try simp only [Act.put, List.getElem_toArray, List.getElem_cons_zero, List.getElem_cons_succ, List.setIfInBounds_toArray, List.set_cons_zero, List.set_cons_succ]
                refine wpAnyH_done (by kernel_rfl) ?_ _
                try go_simp
                clear hHeld
                go_wp2_with fail
                exact ⟨⟨q + 1, by have := HQ.out; omega, rfl, HBq.out.trans (hIw11.mono HBq.out.size)⟩, by have := HQ.out; simp [intOf]; omega⟩
              · have hd : decide (y ∈ L.take i) = true := decide_eq_true hm
                rw [hd] at IY
                clear hd hm
                generalize m.free y = fv at *
                cases fv
                · refine wp_region_held_drew (S := (fun (w' : World) => w'.cell? ⟨w.heap.size, 0, none⟩ = some (.int .i64 hx) ∧ w'.cell? ⟨w.heap.size, 1, none⟩ = some (.int .i64 hy) ∧ w'.cell? ⟨w.heap.size, 2, none⟩ = some (.int .i64 hz) ∧ w'.cell? ⟨w.heap.size, 3, none⟩ = some (.slice da D.length dc) ∧ w'.cell? ⟨w.heap.size, 4, none⟩ = some (.slice (some ⟨nb, noff, none⟩) ms.length mc) ∧ w'.cell? ⟨w.heap.size, 5, none⟩ = some (.int .i64 (o : Int)) ∧ w.heap.size < w'.heap.size ∧ w'.cell? ⟨gi, q, none⟩ = some (.int .i64 (y : Int)) ∧ gi < w'.heap.size)) (by kernel_rfl) (by exact PQ.out _ (Below.refl _ _).drew) (fun hHeld => ?_)
                  refine wpAnyH_take (i := 0) (oi := _) (v := ?vd0) rfl (by kernel_rfl) (by kernel_rfl) (by kernel_rfl) (fun _ _ _ h => h) (Or.inl ⟨by rfl, ?yd0⟩) hHeld ?rd0
                  case yd0 => (intro wq hSw; (try dsimp only at hSw); go_simp; try with_reducible rfl)
                  try simp only [Act.put, List.getElem_toArray, List.getElem_cons_zero, List.setIfInBounds_toArray, List.set_cons_zero, List.set_cons_succ]
                  refine wpAnyH_take (i := 1) (oi := _) (v := ?vd1) rfl (by kernel_rfl) (by kernel_rfl) (by kernel_rfl) (fun _ _ _ h => h) (Or.inl ⟨by rfl, ?yd1⟩) hHeld ?rd1
                  case yd1 => (intro wq hSw; (try dsimp only at hSw); go_simp; try with_reducible rfl)
                  try simp only [Act.put, List.getElem_toArray, List.getElem_cons_zero, List.getElem_cons_succ, List.setIfInBounds_toArray, List.set_cons_zero, List.set_cons_succ]
                  refine wpAnyH_take (i := 2) (oi := _) (v := ?vd2) rfl (by kernel_rfl) (by kernel_rfl) (by kernel_rfl) (fun _ _ _ h => h) (Or.inl ⟨by rfl, ?yd2⟩) hHeld ?rd2
                  case yd2 => (intro wq hSw; (try dsimp only at hSw); go_simp; try with_reducible rfl)
                  try simp only [Act.put, List.getElem_toArray, List.getElem_cons_zero, List.getElem_cons_succ, List.setIfInBounds_toArray, List.set_cons_zero, List.set_cons_succ]
                  refine wpAnyH_take (i := 3) (oi := _) (v := ?vd3) rfl (by kernel_rfl) (by kernel_rfl) (by kernel_rfl) (fun _ _ _ h => h) (Or.inl ⟨by rfl, ?yd3⟩) hHeld ?rd3
                  case yd3 => (intro wq hSw; (try dsimp only at hSw); go_simp; try with_reducible rfl)
                  try simp only [Act.put, List.getElem_toArray, List.getElem_cons_zero, List.getElem_cons_succ, List.setIfInBounds_toArray, List.set_cons_zero, List.set_cons_succ]
                  refine wpAnyH_take (i := 4) (oi := _) (v := ?vd4) rfl (by kernel_rfl) (by kernel_rfl) (by kernel_rfl) (fun _ _ _ h => h) (Or.inl ⟨by rfl, ?yd4⟩) hHeld ?rd4
                  case yd4 => (intro wq hSw; (try dsimp only at hSw); go_simp; try with_reducible rfl)
                  try simp only [Act.put, List.getElem_toArray, List.getElem_cons_zero, List.getElem_cons_succ, List.setIfInBounds_toArray, List.set_cons_zero, List.set_cons_succ]
                  refine wpAnyH_ready (rs := [5]) (by kernel_rfl) (by simp) ?_
                  refine AllReadyH.cons (o := _) rfl (fun K hK => ?_) AllReadyH.nil
                  go_simp
                  (with_reducible refine (FR.out _ (BQ3.out.trans ((Below.refl wo2.heap.size wo2).drew.mono BQ3.out.size))).mono ?_); rintro e w11 ⟨rfl, hb11⟩; have hIw11 : Below wo2.heap.size wo2 w11 := (by first | exact hb11 | exact below_call (Below.refl wo2.heap.size wo2).drew hb11)
                  refine hK.out _ _ (PQ.out w11 hIw11) (fun hHeld2 => ?_)
                  clear hK K hHeld
                  have hHeld := hHeld2
                  clear hHeld2
                  try simp only [Act.put, List.getElem_toArray, List.getElem_cons_zero, List.getElem_cons_succ, List.setIfInBounds_toArray, List.set_cons_zero, List.set_cons_succ]
                  refine wpAnyH_take (i := 6) (oi := _) (v := ?vd6) rfl (by kernel_rfl) (by kernel_rfl) (by kernel_rfl) (fun _ _ _ h => h) (Or.inl ⟨by rfl, ?yd6⟩) hHeld ?rd6
                  case yd6 => (intro wq hSw; (try dsimp only at hSw); go_simp; try with_reducible rfl)
                  try simp only [Act.put, List.getElem_toArray, List.getElem_cons_zero, List.getElem_cons_succ, List.setIfInBounds_toArray, List.set_cons_zero, List.set_cons_succ]
                  refine wpAnyH_take (i := 7) (oi := _) (v := ?vd7) rfl (by kernel_rfl) (by kernel_rfl) (by kernel_rfl) (fun _ _ _ h => h) (Or.inl ⟨by rfl, ?yd7⟩) hHeld ?rd7
                  case yd7 => (intro wq hSw; (try dsimp only at hSw); go_simp; try with_reducible rfl)
                  try simp only [Act.put, List.getElem_toArray, List.getElem_cons_zero, List.getElem_cons_succ, List.setIfInBounds_toArray, List.set_cons_zero, List.set_cons_succ]
                  refine wpAnyH_take (i := 8) (oi := _) (v := ?vd8) rfl (by kernel_rfl) (by kernel_rfl) (by kernel_rfl) (fun _ _ _ h => h) (Or.inl ⟨by rfl, ?yd8⟩) hHeld ?rd8
                  case yd8 => (intro wq hSw; (try dsimp only at hSw); go_simp; try with_reducible rfl)
                  try simp only [Act.put, List.getElem_toArray, List.getElem_cons_zero, List.getElem_cons_succ, List.setIfInBounds_toArray, List.set_cons_zero, List.set_cons_succ]
                  refine wpAnyH_take (i := 9) (oi := _) (v := ?vd9) rfl (by kernel_rfl) (by kernel_rfl) (by kernel_rfl) (fun _ _ _ h => h) (Or.inl ⟨by rfl, ?yd9⟩) hHeld ?rd9
                  case yd9 => (intro wq hSw; (try dsimp only at hSw); go_simp; try with_reducible rfl)
                  try simp only [Act.put, List.getElem_toArray, List.getElem_cons_zero, List.getElem_cons_succ, List.setIfInBounds_toArray, List.set_cons_zero, List.set_cons_succ]
                  refine wpAnyH_take (i := 10) (oi := _) (v := ?vd10) rfl (by kernel_rfl) (by kernel_rfl) (by kernel_rfl) (fun _ _ _ h => h) (Or.inl ⟨by rfl, ?yd10⟩) hHeld ?rd10
                  case yd10 => (intro wq hSw; (try dsimp only at hSw); go_simp; try with_reducible rfl)
                  try simp only [Act.put, List.getElem_toArray, List.getElem_cons_zero, List.getElem_cons_succ, List.setIfInBounds_toArray, List.set_cons_zero, List.set_cons_succ]
                  refine wpAnyH_take (i := 11) (oi := _) (v := ?vd11) rfl (by kernel_rfl) (by kernel_rfl) (by kernel_rfl) (fun _ _ _ h => h) (Or.inl ⟨by rfl, ?yd11⟩) hHeld ?rd11
                  case yd11 => (intro wq hSw; (try dsimp only at hSw); go_simp; try with_reducible rfl)
                  try simp only [Act.put, List.getElem_toArray, List.getElem_cons_zero, List.getElem_cons_succ, List.setIfInBounds_toArray, List.set_cons_zero, List.set_cons_succ]
                  refine wpAnyH_take (i := 12) (oi := _) (v := ?vd12) rfl (by kernel_rfl) (by kernel_rfl) (by kernel_rfl) (fun _ _ _ h => h) (Or.inl ⟨by rfl, ?yd12⟩) hHeld ?rd12
                  case yd12 => (intro wq hSw; (try dsimp only at hSw); go_simp; try with_reducible rfl)
                  try simp only [Act.put, List.getElem_toArray, List.getElem_cons_zero, List.getElem_cons_succ, List.setIfInBounds_toArray, List.set_cons_zero, List.set_cons_succ]
                  refine wpAnyH_take (i := 13) (oi := _) (v := ?vd13) rfl (by kernel_rfl) (by kernel_rfl) (by kernel_rfl) (fun _ _ _ h => h) (Or.inl ⟨by rfl, ?yd13⟩) hHeld ?rd13
                  case yd13 => (intro wq hSw; (try dsimp only at hSw); go_simp; try with_reducible rfl)
                  try simp only [Act.put, List.getElem_toArray, List.getElem_cons_zero, List.getElem_cons_succ, List.setIfInBounds_toArray, List.set_cons_zero, List.set_cons_succ]
                  refine wpAnyH_take (i := 14) (oi := _) (v := ?vd14) rfl (by kernel_rfl) (by kernel_rfl) (by kernel_rfl) (fun _ _ _ h => h) (Or.inl ⟨by rfl, ?yd14⟩) hHeld ?rd14
                  case yd14 => (intro wq hSw; (try dsimp only at hSw); go_simp; try with_reducible rfl)
                  try simp only [Act.put, List.getElem_toArray, List.getElem_cons_zero, List.getElem_cons_succ, List.setIfInBounds_toArray, List.set_cons_zero, List.set_cons_succ]
                  refine wpAnyH_ready (rs := [15]) (by kernel_rfl) (by simp) ?_
                  refine AllReadyH.cons (o := _) rfl (fun K hK => ?_) AllReadyH.nil
                  go_simp
                  (with_reducible refine (IY.out _ (HWq.out.trans (hIw11.mono HWq.out.size))).mono ?_); rintro e w12 ⟨rfl, hb12⟩; have hIw12 := below_call hIw11 hb12
                  refine hK.out _ _ (PQ.out w12 hIw12) (fun hHeld2 => ?_)
                  clear hK K hHeld
                  have hHeld := hHeld2
                  clear hHeld2
                  try simp only [Act.put, List.getElem_toArray, List.getElem_cons_zero, List.getElem_cons_succ, List.setIfInBounds_toArray, List.set_cons_zero, List.set_cons_succ]
                  refine wpAnyH_take (i := 16) (oi := _) (v := ?vd16) rfl (by kernel_rfl) (by kernel_rfl) (by kernel_rfl) (fun _ _ _ h => h) (Or.inl ⟨by rfl, ?yd16⟩) hHeld ?rd16
                  case yd16 => (intro wq hSw; (try dsimp only at hSw); go_simp; try with_reducible rfl)
                  try simp only [Act.put, List.getElem_toArray, List.getElem_cons_zero, List.getElem_cons_succ, List.setIfInBounds_toArray, List.set_cons_zero, List.set_cons_succ]
                  refine wpAnyH_take (i := 17) (oi := _) (v := ?vd17) rfl (by kernel_rfl) (by kernel_rfl) (by kernel_rfl) (fun _ _ _ h => h) (Or.inl ⟨by rfl, ?yd17⟩) hHeld ?rd17
                  case yd17 => (intro wq hSw; (try dsimp only at hSw); go_simp; try with_reducible rfl)
                  try simp only [Act.put, List.getElem_toArray, List.getElem_cons_zero, List.getElem_cons_succ, List.setIfInBounds_toArray, List.set_cons_zero, List.set_cons_succ]
                  refine wpAnyH_done (by kernel_rfl) ?_ _
                  try go_simp
                  clear hHeld
                  go_wp2_with fail
                  exact ⟨⟨q + 1, by have := HQ.out; omega, rfl, HBq.out.trans (hIw12.mono HBq.out.size)⟩, by have := HQ.out; simp [intOf]; omega⟩
                · refine wp_region_held_drew (S := (fun (w' : World) => w'.cell? ⟨w.heap.size, 0, none⟩ = some (.int .i64 hx) ∧ w'.cell? ⟨w.heap.size, 1, none⟩ = some (.int .i64 hy) ∧ w'.cell? ⟨w.heap.size, 2, none⟩ = some (.int .i64 hz) ∧ w'.cell? ⟨w.heap.size, 3, none⟩ = some (.slice da D.length dc) ∧ w'.cell? ⟨w.heap.size, 4, none⟩ = some (.slice (some ⟨nb, noff, none⟩) ms.length mc) ∧ w'.cell? ⟨w.heap.size, 5, none⟩ = some (.int .i64 (o : Int)) ∧ w.heap.size < w'.heap.size ∧ w'.cell? ⟨gi, q, none⟩ = some (.int .i64 (y : Int)) ∧ gi < w'.heap.size)) (by kernel_rfl) (by exact PQ.out _ (Below.refl _ _).drew) (fun hHeld => ?_)
                  refine wpAnyH_take (i := 0) (oi := _) (v := ?ve0) rfl (by kernel_rfl) (by kernel_rfl) (by kernel_rfl) (fun _ _ _ h => h) (Or.inl ⟨by rfl, ?ye0⟩) hHeld ?re0
                  case ye0 => (intro wq hSw; (try dsimp only at hSw); go_simp; try with_reducible rfl)
                  try simp only [Act.put, List.getElem_toArray, List.getElem_cons_zero, List.setIfInBounds_toArray, List.set_cons_zero, List.set_cons_succ]
                  refine wpAnyH_take (i := 1) (oi := _) (v := ?ve1) rfl (by kernel_rfl) (by kernel_rfl) (by kernel_rfl) (fun _ _ _ h => h) (Or.inl ⟨by rfl, ?ye1⟩) hHeld ?re1
                  case ye1 => (intro wq hSw; (try dsimp only at hSw); go_simp; try with_reducible rfl)
                  try simp only [Act.put, List.getElem_toArray, List.getElem_cons_zero, List.getElem_cons_succ, List.setIfInBounds_toArray, List.set_cons_zero, List.set_cons_succ]
                  refine wpAnyH_take (i := 2) (oi := _) (v := ?ve2) rfl (by kernel_rfl) (by kernel_rfl) (by kernel_rfl) (fun _ _ _ h => h) (Or.inl ⟨by rfl, ?ye2⟩) hHeld ?re2
                  case ye2 => (intro wq hSw; (try dsimp only at hSw); go_simp; try with_reducible rfl)
                  try simp only [Act.put, List.getElem_toArray, List.getElem_cons_zero, List.getElem_cons_succ, List.setIfInBounds_toArray, List.set_cons_zero, List.set_cons_succ]
                  refine wpAnyH_take (i := 3) (oi := _) (v := ?ve3) rfl (by kernel_rfl) (by kernel_rfl) (by kernel_rfl) (fun _ _ _ h => h) (Or.inl ⟨by rfl, ?ye3⟩) hHeld ?re3
                  case ye3 => (intro wq hSw; (try dsimp only at hSw); go_simp; try with_reducible rfl)
                  try simp only [Act.put, List.getElem_toArray, List.getElem_cons_zero, List.getElem_cons_succ, List.setIfInBounds_toArray, List.set_cons_zero, List.set_cons_succ]
                  refine wpAnyH_take (i := 4) (oi := _) (v := ?ve4) rfl (by kernel_rfl) (by kernel_rfl) (by kernel_rfl) (fun _ _ _ h => h) (Or.inl ⟨by rfl, ?ye4⟩) hHeld ?re4
                  case ye4 => (intro wq hSw; (try dsimp only at hSw); go_simp; try with_reducible rfl)
                  try simp only [Act.put, List.getElem_toArray, List.getElem_cons_zero, List.getElem_cons_succ, List.setIfInBounds_toArray, List.set_cons_zero, List.set_cons_succ]
                  refine wpAnyH_ready (rs := [5]) (by kernel_rfl) (by simp) ?_
                  refine AllReadyH.cons (o := _) rfl (fun K hK => ?_) AllReadyH.nil
                  go_simp
                  (with_reducible refine (FR.out _ (BQ3.out.trans ((Below.refl wo2.heap.size wo2).drew.mono BQ3.out.size))).mono ?_); rintro e w11 ⟨rfl, hb11⟩; have hIw11 : Below wo2.heap.size wo2 w11 := (by first | exact hb11 | exact below_call (Below.refl wo2.heap.size wo2).drew hb11)
                  refine hK.out _ _ (PQ.out w11 hIw11) (fun hHeld2 => ?_)
                  clear hK K hHeld
                  have hHeld := hHeld2
                  clear hHeld2
                  try simp only [Act.put, List.getElem_toArray, List.getElem_cons_zero, List.getElem_cons_succ, List.setIfInBounds_toArray, List.set_cons_zero, List.set_cons_succ]
                  refine wpAnyH_take (i := 6) (oi := _) (v := ?ve6) rfl (by kernel_rfl) (by kernel_rfl) (by kernel_rfl) (fun _ _ _ h => h) (Or.inl ⟨by rfl, ?ye6⟩) hHeld ?re6
                  case ye6 => (intro wq hSw; (try dsimp only at hSw); go_simp; try with_reducible rfl)
                  try simp only [Act.put, List.getElem_toArray, List.getElem_cons_zero, List.getElem_cons_succ, List.setIfInBounds_toArray, List.set_cons_zero, List.set_cons_succ]
                  refine wpAnyH_take (i := 7) (oi := _) (v := ?ve7) rfl (by kernel_rfl) (by kernel_rfl) (by kernel_rfl) (fun _ _ _ h => h) (Or.inl ⟨by rfl, ?ye7⟩) hHeld ?re7
                  case ye7 => (intro wq hSw; (try dsimp only at hSw); go_simp; try with_reducible rfl)
                  try simp only [Act.put, List.getElem_toArray, List.getElem_cons_zero, List.getElem_cons_succ, List.setIfInBounds_toArray, List.set_cons_zero, List.set_cons_succ]
                  refine wpAnyH_take (i := 8) (oi := _) (v := undef) rfl (by kernel_rfl) (by kernel_rfl) (by kernel_rfl) (fun _ _ _ h => h) (Or.inr ⟨by rfl, rfl⟩) hHeld ?_
                  try simp only [Act.put, List.getElem_toArray, List.getElem_cons_zero, List.getElem_cons_succ, List.setIfInBounds_toArray, List.set_cons_zero, List.set_cons_succ]
                  refine wpAnyH_take (i := 9) (oi := _) (v := undef) rfl (by kernel_rfl) (by kernel_rfl) (by kernel_rfl) (fun _ _ _ h => h) (Or.inr ⟨by rfl, rfl⟩) hHeld ?_
                  try simp only [Act.put, List.getElem_toArray, List.getElem_cons_zero, List.getElem_cons_succ, List.setIfInBounds_toArray, List.set_cons_zero, List.set_cons_succ]
                  refine wpAnyH_take (i := 10) (oi := _) (v := undef) rfl (by kernel_rfl) (by kernel_rfl) (by kernel_rfl) (fun _ _ _ h => h) (Or.inr ⟨by rfl, rfl⟩) hHeld ?_
                  try simp only [Act.put, List.getElem_toArray, List.getElem_cons_zero, List.getElem_cons_succ, List.setIfInBounds_toArray, List.set_cons_zero, List.set_cons_succ]
                  refine wpAnyH_take (i := 11) (oi := _) (v := undef) rfl (by kernel_rfl) (by kernel_rfl) (by kernel_rfl) (fun _ _ _ h => h) (Or.inr ⟨by rfl, rfl⟩) hHeld ?_
                  try simp only [Act.put, List.getElem_toArray, List.getElem_cons_zero, List.getElem_cons_succ, List.setIfInBounds_toArray, List.set_cons_zero, List.set_cons_succ]
                  refine wpAnyH_take (i := 12) (oi := _) (v := undef) rfl (by kernel_rfl) (by kernel_rfl) (by kernel_rfl) (fun _ _ _ h => h) (Or.inr ⟨by rfl, rfl⟩) hHeld ?_
                  try simp only [Act.put, List.getElem_toArray, List.getElem_cons_zero, List.getElem_cons_succ, List.setIfInBounds_toArray, List.set_cons_zero, List.set_cons_succ]
                  refine wpAnyH_take (i := 13) (oi := _) (v := undef) rfl (by kernel_rfl) (by kernel_rfl) (by kernel_rfl) (fun _ _ _ h => h) (Or.inr ⟨by rfl, rfl⟩) hHeld ?_
                  try simp only [Act.put, List.getElem_toArray, List.getElem_cons_zero, List.getElem_cons_succ, List.setIfInBounds_toArray, List.set_cons_zero, List.set_cons_succ]
                  refine wpAnyH_take (i := 14) (oi := _) (v := undef) rfl (by kernel_rfl) (by kernel_rfl) (by kernel_rfl) (fun _ _ _ h => h) (Or.inr ⟨by rfl, rfl⟩) hHeld ?_
                  try simp only [Act.put, List.getElem_toArray, List.getElem_cons_zero, List.getElem_cons_succ, List.setIfInBounds_toArray, List.set_cons_zero, List.set_cons_succ]
                  refine wpAnyH_take (i := 15) (oi := _) (v := undef) rfl (by kernel_rfl) (by kernel_rfl) (by kernel_rfl) (fun _ _ _ h => h) (Or.inr ⟨by rfl, rfl⟩) hHeld ?_
                  try simp only [Act.put, List.getElem_toArray, List.getElem_cons_zero, List.getElem_cons_succ, List.setIfInBounds_toArray, List.set_cons_zero, List.set_cons_succ]
                  refine wpAnyH_take (i := 16) (oi := _) (v := undef) rfl (by kernel_rfl) (by kernel_rfl) (by kernel_rfl) (fun _ _ _ h => h) (Or.inr ⟨by rfl, rfl⟩) hHeld ?_
                  try simp only [Act.put, List.getElem_toArray, List.getElem_cons_zero, List.getElem_cons_succ, List.setIfInBounds_toArray, List.set_cons_zero, List.set_cons_succ]
                  refine wpAnyH_take (i := 17) (oi := _) (v := ?ve17) rfl (by kernel_rfl) (by kernel_rfl) (by kernel_rfl) (fun _ _ _ h => h) (Or.inl ⟨by rfl, ?ye17⟩) hHeld ?re17
                  case ye17 => (intro wq hSw; (try dsimp only at hSw); go_simp; try with_reducible rfl)
                  try simp only [Act.put, List.getElem_toArray, List.getElem_cons_zero, List.getElem_cons_succ, List.setIfInBounds_toArray, List.set_cons_zero, List.set_cons_succ]
                  refine wpAnyH_done (by kernel_rfl) ?_ _
                  try go_simp
                  clear hHeld
                  go_wp2_with fail
                  exact ⟨⟨q + 1, by have := HQ.out; omega, rfl, HBq.out.trans (hIw11.mono HBq.out.size)⟩, by have := HQ.out; simp [intOf]; omega⟩
            · obtain rfl : q = (insN nd).length := by omega
              have q1 : ¬ (((insN nd).length : Int) < ((insN nd).length : Int)) := by omega
              clear hql hq
              go_wp2_with fail
              exact ⟨⟨i + 1, by have := HI.out; omega, rfl, HWq.out⟩, by have := HI.out; simp [intOf]; omega⟩
        · obtain rfl : i = L.length := by omega
          have i1 : ¬ ((L.length : Int) < (L.length : Int)) := by omega
          have t5 : ((L.length : Int) == (tn : Int)) = true := by rw [HT.out]; simp
          have BZ := Lib.hid (below_call B38.out HB.out)
          clear hil hi
          go_wp2_with (go_at_call 20; (with_reducible refine (LV.out _).mono ?_); rintro e w12 ⟨rfl, hb12⟩; have HB12 := Lib.hid hb12; clear hb12)
          go_ret
          exact ⟨rfl, below_call B3.out (below_call BZ.out HB12.out)⟩
end Go.Proofs.Ytdbfakllcaojcaa
