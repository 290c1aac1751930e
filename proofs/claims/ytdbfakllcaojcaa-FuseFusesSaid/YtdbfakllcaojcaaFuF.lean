/- fuse.Fuse. -/
import Derived.Test.YtdbfakllcaojcaaFS
import Derived.Test.YtdbfakllcaojcaaFB
import Derived.Deep.DeepCutAuto
namespace Go.Proofs.Ytdbfakllcaojcaa
open Go Go.RowKit
set_option linter.unusedVariables false
set_option linter.unusedSimpArgs false
set_option maxRecDepth 100000

theorem results_cell_mid3 {P : Program} {fn : Func} {p u v : Tmp} {ty : TypeId} (h : fn.results = #[.cell p ty, .tmp u, .tmp v]) (tmps : Array Value) (w : World) (g : Nat) (cs : Array Value)
    (hp : tmps.getD p undef = .pointer (some ⟨g, 0, none⟩)) (hl : (loadVar ty ⟨g, 0, none⟩).run P w = .ok (.agg cs) w) : (results fn tmps).run P w = .ok (.tuple #[.agg cs, tmps.getD u undef, tmps.getD v undef]) w := by
  have hp' : tmps[p]?.getD undef = .pointer (some ⟨g, 0, none⟩) := by simpa using hp
  simp [results, h, hp', asAddr, hl]
/-- a whole network is written into a row of six -/
theorem row6 {w : World} {B : Nat} {a0 a1 a2 a3 a4 a5 : Value} (h : RowAt w B [a0, a1, a2, a3, a4, a5]) (b0 b1 b2 b3 b4 b5 : Value) : RowAt ((((((w.setCell ⟨B, 0, none⟩ b0).setCell ⟨B, 1, none⟩ b1).setCell ⟨B, 2, none⟩ b2).setCell ⟨B, 3, none⟩ b3).setCell ⟨B, 4, none⟩ b4).setCell ⟨B, 5, none⟩ b5) B [b0, b1, b2, b3, b4, b5] :=
  ((((((h.set (l' := [b0, a1, a2, a3, a4, a5]) 0 _ (by show 0 < 6; omega) rfl).set (l' := [b0, b1, a2, a3, a4, a5]) 1 _ (by show 1 < 6; omega) rfl).set (l' := [b0, b1, b2, a3, a4, a5]) 2 _ (by show 2 < 6; omega) rfl).set (l' := [b0, b1, b2, b3, a4, a5]) 3 _ (by show 3 < 6; omega) rfl).set (l' := [b0, b1, b2, b3, b4, a5]) 4 _ (by show 4 < 6; omega) rfl).set (l' := [b0, b1, b2, b3, b4, b5]) 5 _ (by show 5 < 6; omega) rfl)
theorem below6 {w W : World} {n B : Nat} (h : Below n w W) (hB : n ≤ B) (b0 b1 b2 b3 b4 b5 : Value) : Below n w ((((((W.setCell ⟨B, 0, none⟩ b0).setCell ⟨B, 1, none⟩ b1).setCell ⟨B, 2, none⟩ b2).setCell ⟨B, 3, none⟩ b3).setCell ⟨B, 4, none⟩ b4).setCell ⟨B, 5, none⟩ b5) :=
  Below.setCell (Below.setCell (Below.setCell (Below.setCell (Below.setCell (Below.setCell h hB _) hB _) hB _) hB _) hB _) hB _
theorem grown_b12 {w w' : World} {B j1 j2 : Nat} (h : w.grownBy w' (some B)) (v1 v2 : Value) : w.grownBy ((w'.setCell ⟨B, j1, none⟩ v1).setCell ⟨B, j2, none⟩ v2) (some B) := grownN_set (grownN_set h)
/-- what Fuse tells -/
def FfPost (g : GrQ) (w : World) (e : Ending) (w' : World) : Prop :=
  Below w.heap.size w w' ∧
  ((graphE g.gr).1 ≠ 0 → e = .returned (.tuple #[.agg #[.int .i64 0, .int .i64 0, .int .i64 0, .slice none 0 0, .slice none 0 0, .int .i64 0], .int .i64 0, .int .i64 (graphE g.gr).1])) ∧
  ((graphE g.gr).1 = 0 → ∃ (h : GrQ) (S : FuS), S = fuN ⟨g.ns, usesR g, 0⟩ g.ns.length ∧ e = .returned (.tuple #[h.val, .int .i64 S.m, .int .i64 0]) ∧ h.x = g.x ∧ h.y = g.y ∧ h.z = g.z ∧ h.o = g.o ∧ h.C.map CnQ.cn = g.C.map CnQ.cn ∧ h.ns = S.ns ∧ CnsIn w' h.ca h.C h.cc ∧ NdsIn w' h.na h.ns h.nc)
set_option maxHeartbeats 8000000 in
theorem fuse_any (CP : CpC) (g : GrQ) (w : World) (hC : CnsIn w g.ca g.C g.cc) (hN : NdsIn w g.na g.ns g.nc) (hn : g.ns.length ≤ 1000) (hc : g.C.length ≤ 1000) (hq : ∀ q ∈ g.C, q.bs.length ≤ 1000000 ∧ q.ws.length ≤ 1000000) :
    Calls Try.prog 15 #[g.val] w (FfPost g w) := by
  obtain ⟨T, Z, Z0, NL⟩ := node_type
  have hL := NL.load
  have hAl := NL.alloc
  have hSt := NL.store
  have tA := NL.agg
  have tS := NL.size
  have tZ := NL.zero
  have WFN := Lib.hid (nds_wf hN)
  have IS := Lib.hid (fun (h : (graphE g.gr).1 = 0) => fuI_start (g := g.gr) (L := usesR g) h (usesR_len g) (fun i hi => usesR_at g h i hi))
  obtain ⟨E, hE⟩ : ∃ E, E = graphE g.gr := ⟨_, rfl⟩
  obtain ⟨R, hR⟩ : ∃ r, r = usesR g := ⟨_, rfl⟩
  have FU := Lib.hid (fun (W : World) (hb : Below w.heap.size w W) => uses_any g W (hC.later hb) (FlatIn.later hN hb) hn)
  have CPG := Lib.hid (fun (W : World) (hb : Below w.heap.size w W) => CP g W (hC.later hb) (FlatIn.later hN hb) hn hc hq)
  unfold FfPost
  unfold FuPost at FU
  unfold CpPost at CPG
  rw [← hE, ← hR] at IS FU ⊢
  have RL := Lib.hid (show R.length = g.ns.length + 1 by rw [hR]; exact usesR_len g)
  obtain ⟨gx, gy, gz, ca, cc, C, na, nc, ns, go⟩ := g
  obtain ⟨ec, el⟩ := E
  unfold GrQ.val at FU CPG ⊢
  dsimp only at *
  have RG0 := RowAt.new w [.int .i64 gx, .int .i64 gy, .int .i64 gz, .slice ca C.length cc, .slice na ns.length nc, .int .i64 go] 26
  have hal := Below.alloc (Below.refl (w.alloc (.cells #[.int .i64 gx, .int .i64 gy, .int .i64 gz, .slice ca C.length cc, .slice na ns.length nc, .int .i64 go] 26)).heap.size (w.alloc (.cells #[.int .i64 gx, .int .i64 gy, .int .i64 gz, .slice ca C.length cc, .slice na ns.length nc, .int .i64 go] 26))) (Nat.le_refl _) (.cells #[.int .i64 0, .int .i64 0, .int .i64 0, .slice none 0 0, .slice none 0 0, .int .i64 0] 26)
  have R1 := RowAt.new (w.alloc (.cells #[.int .i64 gx, .int .i64 gy, .int .i64 gz, .slice ca C.length cc, .slice na ns.length nc, .int .i64 go] 26)) [.int .i64 0, .int .i64 0, .int .i64 0, .slice none 0 0, .slice none 0 0, .int .i64 0] 26
  rw [size_alloc1] at R1
  have RG := Lib.hid (RG0.over hal)
  have RZ := Lib.hid R1
  have BW := Lib.hid (below_call (Below.alloc (Below.refl w.heap.size w) (Nat.le_refl _) (.cells #[.int .i64 gx, .int .i64 gy, .int .i64 gz, .slice ca C.length cc, .slice na ns.length nc, .int .i64 go] 26)) hal)
  clear RG0 R1 hal hC hN hq hR hE
  go_enter Try.func15, Try.ntmps15
  simp only [hL, hAl, hSt]
  clear hL hAl hSt
  go_upto_region 1 with fail
  generalize (w.alloc (.cells #[.int .i64 gx, .int .i64 gy, .int .i64 gz, .slice ca C.length cc, .slice na ns.length nc, .int .i64 go] 26)).alloc (.cells #[.int .i64 0, .int .i64 0, .int .i64 0, .slice none 0 0, .slice none 0 0, .int .i64 0] 26) = W1 at *
  have r0 := RG.out.cell 0 _ rfl
  have r1 := RG.out.cell 1 _ rfl
  have r2 := RG.out.cell 2 _ rfl
  have r3 := RG.out.cell 3 _ rfl
  have r4 := RG.out.cell 4 _ rfl
  have r5 := RG.out.cell 5 _ rfl
  have rl := RG.out.lt
  by_cases h0 : ec = 0
  case neg =>
    have h0b : (ec != 0) = true := by simpa using h0
    have HO := Lib.hid h0
    clear h0
    go_upto_region 2 with (go_at_call 11; (with_reducible refine (FU.out _ BW.out).mono ?_); rintro e w4 ⟨hno, hb4, hyes⟩; obtain rfl := hno HO.out; have HB4 := Lib.hid hb4; clear hb4 hyes)
    have RZ4 := Lib.hid (RZ.out.over (below_alloc1 (o := .cells #[.slice none 0 0] 28) HB4.out))
    have B4 := Lib.hid (below_call BW.out (below_alloc1 (o := .cells #[.slice none 0 0] 28) HB4.out))
    clear r0 r1 r2 r3 r4 r5 rl
    generalize w4.alloc (.cells #[.slice none 0 0] 28) = W5 at *
    have z0 := RZ4.out.cell 0 _ rfl
    have z1 := RZ4.out.cell 1 _ rfl
    have z2 := RZ4.out.cell 2 _ rfl
    have z3 := RZ4.out.cell 3 _ rfl
    have z4 := RZ4.out.cell 4 _ rfl
    have z5 := RZ4.out.cell 5 _ rfl
    have zf0 := RZ4.out.fr 0
    have zf1 := RZ4.out.fr 1
    have zf2 := RZ4.out.fr 2
    have zf3 := RZ4.out.fr 3
    have zf4 := RZ4.out.fr 4
    have zf5 := RZ4.out.fr 5
    have zl := RZ4.out.lt
    go_wp2_with fail
    refine bodyPost_ret (results_cell_mid3 rfl _ _ (w.heap.size + 1) _ rfl (load_row (row6 RZ4.out _ _ _ _ _ _) 26 _ Try.underlying26 rfl (by kernel_rfl))) rfl ?_
    exact ⟨below6 B4.out (Nat.le_succ _) _ _ _ _ _ _, fun _ => rfl, fun h => absurd h HO.out⟩
  subst h0
  go_upto_region 2 with (go_at_call 11; (with_reducible refine (FU.out _ BW.out).mono ?_); rintro e w4 ⟨_, hb4, hyes⟩; obtain ⟨U, uc, rfl, hU, hrow⟩ := hyes rfl; have HB4 := Lib.hid hb4; have HU := Lib.hid hrow; have HUg := Lib.hid hU; clear hb4 hyes hrow hU)
  have hUl := HU.out.lt
  have R5 := RowAt.new w4 [.slice (some ⟨U, 0, none⟩) (ns.length + 1) uc] 28
  have hal5 := Below.alloc (Below.refl w4.heap.size w4) (Nat.le_refl _) (.cells #[.slice (some ⟨U, 0, none⟩) (ns.length + 1) uc] 28)
  have RP := Lib.hid R5
  have HU5 := Lib.hid (HU.out.over hal5)
  have B5 := Lib.hid (below_call BW.out (below_call HB4.out hal5))
  have RG5 := Lib.hid (RG.out.over (below_call HB4.out hal5))
  have RZ5 := Lib.hid (RZ.out.over (below_call HB4.out hal5))
  have hPU : U < w4.heap.size := hUl
  have hwz : w.heap.size + 1 < w4.heap.size := Nat.lt_of_lt_of_le RZ.out.lt HB4.out.size
  have hUw : W1.heap.size ≤ U := HUg.out
  clear R5 hal5 hUl r0 r1 r2 r3 r4 r5 rl
  generalize w4.alloc (.cells #[.slice (some ⟨U, 0, none⟩) (ns.length + 1) uc] 28) = W5 at *
  have pl := RP.out.lt
  have r0 := RG5.out.cell 0 _ rfl
  have r1 := RG5.out.cell 1 _ rfl
  have r2 := RG5.out.cell 2 _ rfl
  have r3 := RG5.out.cell 3 _ rfl
  have r4 := RG5.out.cell 4 _ rfl
  have r5 := RG5.out.cell 5 _ rfl
  have rl := RG5.out.lt
  go_upto_region 5 with (go_at_call 37; (with_reducible refine (CPG.out _ B5.out).mono ?_); rintro e w6 ⟨v, v2, D, rfl, hb6, hDm, hoD, hqD, hoN⟩; obtain ⟨da, dc, rfl⟩ := own_slice2 hoD; obtain ⟨ma, mc, rfl⟩ := own_slice2 hoN; have HB6 := Lib.hid hb6; have HDM := Lib.hid hDm; have OD := Lib.hid hoD; have QD := Lib.hid hqD; have ON := Lib.hid hoN; clear hb6 hDm hoD hqD hoN)
  have hal6 := Below.alloc (Below.refl w6.heap.size w6) (Nat.le_refl _) (.cells #[.int .i64 gx, .int .i64 gy, .int .i64 gz, .slice da D.length dc, .slice ma ns.length mc, .int .i64 go] 26)
  have RPG := Lib.hid (RowAt.new w6 [.int .i64 gx, .int .i64 gy, .int .i64 gz, .slice da D.length dc, .slice ma ns.length mc, .int .i64 go] 26)
  have hb56 := below_call HB6.out hal6
  have RPc := Lib.hid (RP.out.over hb56)
  have HUc := Lib.hid (HU5.out.over hb56)
  have RZc := Lib.hid (RZ5.out.over hb56)
  have Bc := Lib.hid (below_call B5.out hb56)
  have ODc := Lib.hid (own_laterW OD.out hal6)
  have ONc := Lib.hid (own_laterW ON.out hal6)
  have QDc := Lib.hid (show ∀ q ∈ D, OwnC _ W5.heap.size q from fun q hq => (QD.out q hq).over hal6)
  have hNB : ∃ NB, (0 < ns.length → ma = some ⟨NB, 0, none⟩ ∧ NB ≠ U) ∧ NB ≠ w4.heap.size ∧ NB < w6.heap.size ∧ W1.heap.size ≤ NB ∧ (ns.length = 0 → NB = U) ∧ (0 < ns.length → W5.heap.size ≤ NB ∧ RowAt (w6.alloc (.cells #[.int .i64 gx, .int .i64 gy, .int .i64 gz, .slice da D.length dc, .slice ma ns.length mc, .int .i64 go] 26)) NB (nd26 ns)) := by
    have h56 := HB6.out.size
    rcases Nat.eq_zero_or_pos ns.length with h | h
    · exact ⟨U, fun h2 => by omega, by omega, by omega, hUw, fun _ => rfl, fun h2 => by omega⟩
    · rcases own_slice ON.out with ⟨h1, h2⟩ | ⟨g, c, h1⟩
      · omega
      · injection h1 with h3 h4 h5
        subst h3 h5
        have hl := own_lt ON.out
        exact ⟨g, fun _ => ⟨rfl, by omega⟩, by omega, hl.2.1, by have := B5.out.size; have := HB4.out.size; omega, fun h2 => by omega, fun _ => ⟨hl.1, row_of_own ONc.out⟩⟩
  obtain ⟨NB, nb1, nb2, nb3, nb4, nb5, nb6⟩ := hNB
  have NB1 := Lib.hid nb1
  have NB5 := Lib.hid nb5
  have NB6 := Lib.hid nb6
  have hPw : w4.heap.size < w6.heap.size := Nat.lt_of_lt_of_le pl HB6.out.size
  clear hal6 hb56 nb1 nb5 nb6 r0 r1 r2 r3 r4 r5 rl
  obtain ⟨wz, hwz2⟩ : ∃ wz, wz = w6.alloc (.cells #[.int .i64 gx, .int .i64 gy, .int .i64 gz, .slice da D.length dc, .slice ma ns.length mc, .int .i64 go] 26) := ⟨_, rfl⟩
  rw [← hwz2] at RPG RPc HUc RZc Bc ODc ONc QDc NB6 ⊢
  clear hwz2
  have g4 := RPG.out.cell 4 _ rfl
  have gl := RPG.out.lt
  obtain ⟨fr, hfr, -⟩ := IS.out trivial
  obtain ⟨F, hF⟩ : ∃ F : Nat → FuS, F = fuN ⟨ns, R, 0⟩ := ⟨_, rfl⟩
  have HF := Lib.hid hF
  have FI := Lib.hid (fun (k : Nat) (hk : k ≤ ns.length) => (by rw [hF]; exact fuN_inv hfr rfl k hk : FuI (C.map CnQ.cn) go _ fr ns.length (F k) ∧ (F k).m ≤ k))
  have F0 := Lib.hid (show F 0 = ⟨ns, R, 0⟩ by rw [hF]; rfl)
  have FS := Lib.hid (show ∀ k, F (k + 1) = fuStep (F k) k by intro k; rw [hF]; rfl)
  clear hfr hF
  go_wp2_with fail
  go_loopw [9, 28] (fun s9 s28 wr => ∃ k : Nat, k ≤ ns.length ∧ s28 = .int .i64 k ∧ s9 = .int .i64 (F k).m ∧ RowAt wr U (intsV (F k).L) ∧ (0 < ns.length → RowAt wr NB (nd26 (F k).ns)) ∧ (∀ n ∈ (F k).ns, AreInts kN n.cells) ∧ K2 U NB wz wr) (fun _ s28 _ => ns.length - (intOf s28).toNat)
  case atStart => exact ⟨0, Nat.zero_le _, rfl, by rw [F0.out]; rfl, by rw [F0.out]; exact HUc.out, fun h => by rw [F0.out]; exact (NB6.out h).2, by rw [F0.out]; exact WFN.out, K2.refl _ _ _⟩
  case round =>
    obtain ⟨k, hk, rfl, rfl, hru, hrn, hai, hK⟩ := hrel
    have HRU := Lib.hid hru
    have HRN := Lib.hid hrn
    have HAI := Lib.hid hai
    have HK2 := Lib.hid hK
    clear hru hrn hai hK
    by_cases hkl : k < ns.length
    · have hkF := FI.out k hk
      obtain ⟨hI, hm⟩ := hkF
      have HI := Lib.hid hI
      have HM := Lib.hid hm
      obtain ⟨n, hn1⟩ : ∃ n, (F k).ns[k]? = some n := ⟨_, List.getElem?_eq_getElem (by rw [hI.len]; exact hkl)⟩
      have hpos : 0 < ns.length := by omega
      obtain ⟨hma, hNU⟩ := NB1.out hpos
      subst hma
      have hrow := HRN.out hpos
      have HROW := Lib.hid hrow
      obtain ⟨_, ⟨a0, a1⟩, hnum⟩ := hI.node hn1
      have HNUM := Lib.hid hnum
      have tR := NL.read n wr NB (k * 26) (fun j u hu => node_range hrow hn1 j u hu)
      have tL := NL.len n
      have tB := NL.st1 n wr
      have tR2 := NL.read n (wr.alloc (.cells n.cells.toArray T)) wr.heap.size 0 (RowAt.new wr n.cells T).range
      have hb7 : Below wr.heap.size wr (wr.alloc (.cells n.cells.toArray T)) := Below.alloc (Below.refl _ _) (Nat.le_refl _) _
      have HPr := Lib.hid ((RPc.out.k2 HK2.out (by omega) (Ne.symm nb2)).over hb7)
      have HGr := Lib.hid ((RPG.out.k2 HK2.out (by omega) (by omega)).over hb7)
      have HUr := Lib.hid (HRU.out.over hb7)
      have HNr := Lib.hid (hrow.over hb7)
      have HBX := Lib.hid (RowAt.new wr n.cells T)
      have eL : (F k).L.length = ns.length + 1 := hI.lenL
      have eN : (F k).ns.length = ns.length := hI.len
      have CAN := can_any w4.heap.size U uc w6.heap.size NB mc (F k).L (F k).ns n (wr.alloc (.cells n.cells.toArray T)) (by rw [eL]; exact HPr.out) HUr.out HGr.out.lt (by rw [eN]; exact HGr.out.cell 4 _ rfl) HNr.out.lt (fun i m hm => HNr.out.cell _ _ (by have := nd26_at _ i m hm 0 _ rfl; simpa using this)) a0 (by rw [eL]; omega) (by rw [eL, eN]) (by rw [eN]; exact hn)
      have HCAN := Lib.hid CAN
      have HB7 := Lib.hid hb7
      have HN1 := Lib.hid hn1
      have kl0 : (0 : Int) ≤ (k : Int) := by omega
      have kl1 : (k : Int) < (ns.length : Int) := by omega
      have HKL := Lib.hid hkl
      have HA0 := Lib.hid (show 0 ≤ n.a ∧ n.a < (k : Int) + 1 from ⟨a0, a1⟩)
      have eF : fuStep (F k) k = if canB (F k).L (F k).ns n = true then ⟨(F k).ns.set k (brought ((F k).ns.getD (n.a.toNat - 1) default) n), addAll 1 (addAll (-1) (F k).L (insN n)) (insN (brought ((F k).ns.getD (n.a.toNat - 1) default) n)), (F k).m + 1⟩ else F k := by
        have en : (F k).ns.getD k default = n := by simp [List.getD, hn1]
        unfold fuStep
        simp only [en]
      have EF := Lib.hid ((FS.out k).trans eF)
      clear hI hm hn1 hrow hnum hb7 CAN hkl a0 a1 eL eN eF hpos
      by_cases hcb : canB (F k).L (F k).ns n = true
      case neg =>
        have hcf : canB (F k).L (F k).ns n = false := by simpa using hcb
        have HEQ := Lib.hid (show F (k + 1) = F k by rw [EF.out, if_neg hcb])
        have HCB := Lib.hid hcf
        clear hcb hcf
        go_wp2_with (go_at_call 38; (with_reducible refine HCAN.out.mono ?_); rintro e w8 ⟨rfl, hb8⟩; rw [HCB.out]; have HB8 := Lib.hid hb8; clear hb8)
        exact ⟨⟨k + 1, HKL.out, rfl, by rw [HEQ.out], by rw [HEQ.out]; exact HUr.out.over HB8.out, fun _ => by rw [HEQ.out]; exact HNr.out.over HB8.out, by rw [HEQ.out]; exact HAI.out, (HK2.out.trans (K2.of_below HB7.out)).trans (K2.of_below HB8.out)⟩, by have := HKL.out; simp [intOf]; omega⟩
      obtain ⟨hc9, hca, hc1, hcl⟩ : n.op = 9 ∧ 0 < n.a ∧ (F k).L.getD n.a.toNat 0 = 1 ∧ hL ((F k).ns.getD (n.a.toNat - 1) default).op = true := by
        unfold canB at hcb
        simpa [Bool.and_eq_true] using hcb
      obtain ⟨c, hcc⟩ : ∃ c : Nat, n.a = (c : Int) + 1 := ⟨n.a.toNat - 1, by omega⟩
      have hcN : c < ns.length := by have := HA0.out; omega
      have hct : n.a.toNat - 1 = c := by omega
      rw [hct] at hcl EF
      obtain ⟨m, hm1⟩ : ∃ m, (F k).ns[c]? = some m := ⟨_, List.getElem?_eq_getElem (by have := HI.out.len; omega)⟩
      have hmd : (F k).ns.getD c default = m := by simp [List.getD, hm1]
      rw [hmd] at hcl EF
      have HEQ := Lib.hid (show F (k + 1) = ⟨(F k).ns.set k (brought m n), addAll 1 (addAll (-1) (F k).L (insN n)) (insN m), (F k).m + 1⟩ by rw [EF.out, if_pos hcb, brought_ins])
      have HCB := Lib.hid hcb
      have HM1 := Lib.hid hm1
      have BM := bounds_of (HI.out.node hm1).2.2
      have BN := bounds_of HNUM.out
      have tLm := NL.len m
      clear hcb hc9 hca hc1 hcl hct hm1 hmd EF
      go_upto_region 11 with (go_at_call 38; (with_reducible refine HCAN.out.mono ?_); rintro e w8 ⟨rfl, hb8⟩; rw [HCB.out]; have HB8 := Lib.hid hb8; have HBX8 := Lib.hid (HBX.out.over hb8); have HP8 := Lib.hid (HPr.out.over hb8); have HG8 := Lib.hid (HGr.out.over hb8); have HU8 := Lib.hid (HUr.out.over hb8); have HN8 := Lib.hid (HNr.out.over hb8); clear hb8)
      have g48 := HG8.out.cell 4 _ rfl
      have gl8 := HG8.out.lt
      have e18 : w8.cell? ⟨wr.heap.size, 1, none⟩ = some (.int .i64 n.a) := HBX8.out.cell 1 _ rfl
      have el8 := HBX8.out.lt
      rw [hcc] at e18
      have ew : IntKind.i64.wrap ((c : Int) + 1 - 1) = (c : Int) := by simp [IntKind.wrap, IntKind.signed, IntKind.bits]; omega
      have ew2 : (c : Int) + 1 - 1 = (c : Int) := by omega
      have cl0 : (0 : Int) ≤ (c : Int) := by omega
      have cl1 : (c : Int) < (ns.length : Int) := by omega
      have tRm := NL.read m w8 NB (c * 26) (fun j u hu => node_range HN8.out HM1.out j u hu)
      have tBm := NL.st1 m w8
      clear tR tR2 tB
      go_upto_region 12 with fail
      have hal9 : Below w8.heap.size w8 (w8.alloc (.cells m.cells.toArray T)) := Below.alloc (Below.refl _ _) (Nat.le_refl _) _
      have HB12 := Lib.hid (RowAt.new w8 m.cells T)
      have HBX9 := Lib.hid (HBX8.out.over hal9)
      have HP9 := Lib.hid (HP8.out.over hal9)
      have HG9 := Lib.hid (HG8.out.over hal9)
      have HU9 := Lib.hid (HU8.out.over hal9)
      have HN9 := Lib.hid (HN8.out.over hal9)
      have HB9 := Lib.hid (below_call (below_call HB7.out HB8.out) hal9)
      clear hal9 tRm tBm g48 gl8 e18 el8
      obtain ⟨W9, hW9⟩ : ∃ W, W = w8.alloc (.cells m.cells.toArray T) := ⟨_, rfl⟩
      rw [← hW9] at HB12 HBX9 HP9 HG9 HU9 HN9 HB9 ⊢
      clear hW9
      have WI1 := Lib.hid (fun W => fwithin_any m.lo n W BM.1 BN.1 BN.2.1)
      have WI2 := Lib.hid (fun W => fwithin_any m.hi n W BM.2.1 BN.1 BN.2.1)
      go_cut [] (fun wx => RowAt wx w8.heap.size (brought m n).cells ∧ W9.grownBy wx (some w8.heap.size))
      case first =>
            have b12 := HB12.out.lt
            have PS := Lib.hid (show ∀ W', Below W9.heap.size W9 W' → (fun w' => w'.cell? ⟨w8.heap.size, 18, none⟩ = some (.int .i64 m.lo) ∧ w'.cell? ⟨w8.heap.size, 19, none⟩ = some (.int .i64 m.hi) ∧ (loadCellsFrom ⟨wr.heap.size, 0, none⟩ 0 Z #[]).run Try.prog w' = .ok n.cells.toArray w' ∧ Below W9.heap.size W9 w') W' from fun W' hb => ⟨(HB12.out.over hb).cell 18 _ rfl, (HB12.out.over hb).cell 19 _ rfl, NL.read n W' wr.heap.size 0 (HBX9.out.over hb).range, hb⟩)
            refine wp_region_heldD (S := fun w' => w'.cell? ⟨w8.heap.size, 18, none⟩ = some (.int .i64 m.lo) ∧ w'.cell? ⟨w8.heap.size, 19, none⟩ = some (.int .i64 m.hi) ∧ (loadCellsFrom ⟨wr.heap.size, 0, none⟩ 0 Z #[]).run Try.prog w' = .ok n.cells.toArray w' ∧ Below W9.heap.size W9 w') (D := [9, 10, 11]) (by kernel_rfl) ?_
            have hHeld : (fun w' => w'.cell? ⟨w8.heap.size, 18, none⟩ = some (.int .i64 m.lo) ∧ w'.cell? ⟨w8.heap.size, 19, none⟩ = some (.int .i64 m.hi) ∧ (loadCellsFrom ⟨wr.heap.size, 0, none⟩ 0 Z #[]).run Try.prog w' = .ok n.cells.toArray w' ∧ Below W9.heap.size W9 w') _ := PS.out _ (Below.refl W9.heap.size W9).drew
            refine wpAnyD_takeP (i := 0) (oi := _) (v := ?v0) rfl (by kernel_rfl) (by kernel_rfl) (by kernel_rfl) (fun _ _ _ h => h) (Or.inl ⟨by rfl, ?y0⟩) ?_
            case y0 => (intro wq hSw; go_simp; try with_reducible rfl)
            try simp only [Act.put, List.getElem_toArray, List.getElem_cons_zero, List.setIfInBounds_toArray, List.set_cons_zero, List.set_cons_succ]
            refine wpAnyD_take [] (i := 1) (oi := _) (v := ?v1) rfl (by kernel_rfl) (by kernel_rfl) (by kernel_rfl) (by kernel_rfl) (by kernel_rfl) (fun _ _ _ h => h) (Or.inl ⟨by rfl, ?y1⟩) hHeld ?_
            case y1 => (intro wq hSw; (try dsimp only at hSw); go_simp; try with_reducible rfl)
            try simp only [Act.put, List.getElem_toArray, List.getElem_cons_zero, List.getElem_cons_succ, List.setIfInBounds_toArray, List.set_cons_zero, List.set_cons_succ]
            refine wpAnyD_take [] (i := 2) (oi := _) (v := ?v2) rfl (by kernel_rfl) (by kernel_rfl) (by kernel_rfl) (by kernel_rfl) (by kernel_rfl) (fun _ _ _ h => h) (Or.inl ⟨by rfl, ?y2⟩) hHeld ?_
            case y2 => (intro wq hSw; (try dsimp only at hSw); go_simp; try with_reducible rfl)
            try simp only [Act.put, List.getElem_toArray, List.getElem_cons_zero, List.getElem_cons_succ, List.setIfInBounds_toArray, List.set_cons_zero, List.set_cons_succ]
            refine wpAnyD_takeP (i := 4) (oi := _) (v := ?v4) rfl (by kernel_rfl) (by kernel_rfl) (by kernel_rfl) (fun _ _ _ h => h) (Or.inl ⟨by rfl, ?y4⟩) ?_
            case y4 => (intro wq hSw; go_simp; try with_reducible rfl)
            try simp only [Act.put, List.getElem_toArray, List.getElem_cons_zero, List.getElem_cons_succ, List.setIfInBounds_toArray, List.set_cons_zero, List.set_cons_succ]
            refine wpAnyD_take [] (i := 5) (oi := _) (v := ?v5) rfl (by kernel_rfl) (by kernel_rfl) (by kernel_rfl) (by kernel_rfl) (by kernel_rfl) (fun _ _ _ h => h) (Or.inl ⟨by rfl, ?y5⟩) hHeld ?_
            case y5 => (intro wq hSw; (try dsimp only at hSw); go_simp; try with_reducible rfl)
            try simp only [Act.put, List.getElem_toArray, List.getElem_cons_zero, List.getElem_cons_succ, List.setIfInBounds_toArray, List.set_cons_zero, List.set_cons_succ]
            refine wpAnyD_take [7] (i := 6) (oi := _) (v := ?v6) rfl (by kernel_rfl) (by kernel_rfl) (by kernel_rfl) (by kernel_rfl) (by kernel_rfl) (fun _ _ _ h => h) (Or.inl ⟨by rfl, ?y6⟩) hHeld ?_
            case y6 => (intro wq hSw; (try dsimp only at hSw); go_simp; try with_reducible rfl)
            try simp only [Act.put, List.getElem_toArray, List.getElem_cons_zero, List.getElem_cons_succ, List.setIfInBounds_toArray, List.set_cons_zero, List.set_cons_succ]
            refine wpAnyD_step (i := 3) (o := _) (by kernel_rfl) rfl (fun K hK => ?_)
            try simp only [Act.put, List.getElem_toArray, List.getElem_cons_zero, List.getElem_cons_succ, List.setIfInBounds_toArray, List.set_cons_zero, List.set_cons_succ]
            go_simp
            go_at_call 40
            refine (WI1.out _).mono ?_
            rintro e w10 ⟨rfl, hb10⟩
            have hbA := below_call (Below.refl W9.heap.size W9).drew hb10
            clear hb10
            have hHeld3 : (fun w' => w'.cell? ⟨w8.heap.size, 18, none⟩ = some (.int .i64 m.lo) ∧ w'.cell? ⟨w8.heap.size, 19, none⟩ = some (.int .i64 m.hi) ∧ (loadCellsFrom ⟨wr.heap.size, 0, none⟩ 0 Z #[]).run Try.prog w' = .ok n.cells.toArray w' ∧ Below W9.heap.size W9 w') _ := PS.out _ hbA
            refine hK.out _ _ ⟨fun _ _ => hHeld3, ?_⟩
            clear hK K
            try simp only [Act.put, List.getElem_toArray, List.getElem_cons_zero, List.getElem_cons_succ, List.setIfInBounds_toArray, List.set_cons_zero, List.set_cons_succ]
            refine wpAnyD_takeP (i := 8) (oi := _) (v := ?v8) rfl (by kernel_rfl) (by kernel_rfl) (by kernel_rfl) (fun _ _ _ h => h) (Or.inl ⟨by rfl, ?y8⟩) ?_
            case y8 => (intro wq hSw; go_simp; try with_reducible rfl)
            try simp only [Act.put, List.getElem_toArray, List.getElem_cons_zero, List.getElem_cons_succ, List.setIfInBounds_toArray, List.set_cons_zero, List.set_cons_succ]
            refine wpAnyD_step (i := 7) (o := _) (by kernel_rfl) rfl (fun K hK => ?_)
            try simp only [Act.put, List.getElem_toArray, List.getElem_cons_zero, List.getElem_cons_succ, List.setIfInBounds_toArray, List.set_cons_zero, List.set_cons_succ]
            go_simp
            go_at_call 40
            refine (WI2.out _).mono ?_
            rintro e w11 ⟨rfl, hb11⟩
            have hbB := below_call hbA hb11
            clear hb11
            have RB := Lib.hid (HB12.out.over hbB)
            have c18 := RB.out.cell 18 _ rfl
            have c19 := RB.out.cell 19 _ rfl
            have f18 := RB.out.fr 18
            have f19 := RB.out.fr 19
            have hHeld7 : (fun w' => w'.cell? ⟨w8.heap.size, 18, none⟩ = some (.int .i64 m.lo) ∧ w'.cell? ⟨w8.heap.size, 19, none⟩ = some (.int .i64 m.hi) ∧ (loadCellsFrom ⟨wr.heap.size, 0, none⟩ 0 Z #[]).run Try.prog w' = .ok n.cells.toArray w' ∧ Below W9.heap.size W9 w') _ := PS.out _ hbB
            refine hK.out _ _ ⟨fun _ _ => hHeld7, ?_⟩
            clear hK K
            try simp only [Act.put, List.getElem_toArray, List.getElem_cons_zero, List.getElem_cons_succ, List.setIfInBounds_toArray, List.set_cons_zero, List.set_cons_succ]
            refine wpAnyD_step (i := 9) (o := _) (by kernel_rfl) rfl (fun K hK => ?_)
            try simp only [Act.put, List.getElem_toArray, List.getElem_cons_zero, List.getElem_cons_succ, List.setIfInBounds_toArray, List.set_cons_zero, List.set_cons_succ]
            go_simp
            refine hK.out _ _ ⟨fun h => absurd h (by decide), ?_⟩
            clear hK K
            try simp only [Act.put, List.getElem_toArray, List.getElem_cons_zero, List.getElem_cons_succ, List.setIfInBounds_toArray, List.set_cons_zero, List.set_cons_succ]
            refine wpAnyD_step (i := 10) (o := _) (by kernel_rfl) rfl (fun K hK => ?_)
            try simp only [Act.put, List.getElem_toArray, List.getElem_cons_zero, List.getElem_cons_succ, List.setIfInBounds_toArray, List.set_cons_zero, List.set_cons_succ]
            go_simp
            refine hK.out _ _ ⟨fun h => absurd h (by decide), ?_⟩
            clear hK K
            try simp only [Act.put, List.getElem_toArray, List.getElem_cons_zero, List.getElem_cons_succ, List.setIfInBounds_toArray, List.set_cons_zero, List.set_cons_succ]
            refine wpAnyD_step (i := 11) (o := _) (by kernel_rfl) rfl (fun K hK => ?_)
            try simp only [Act.put, List.getElem_toArray, List.getElem_cons_zero, List.getElem_cons_succ, List.setIfInBounds_toArray, List.set_cons_zero, List.set_cons_succ]
            go_simp
            refine hK.out _ _ ⟨fun h => absurd h (by decide), ?_⟩
            clear hK K
            try simp only [Act.put, List.getElem_toArray, List.getElem_cons_zero, List.getElem_cons_succ, List.setIfInBounds_toArray, List.set_cons_zero, List.set_cons_succ]
            refine wpAnyD_done (by kernel_rfl) ?_ _
            go_wp2_with fail
            go_meet
            exact ⟨by rw [← cells_brought]; exact ((RB.out.set 18 _ (by show 18 < 26; omega) rfl).set 19 _ (by rw [List.length_set]; show 19 < 26; omega) rfl), grown_b12 (below_grown hbB _) _ _⟩
      case rest =>
        obtain ⟨h12, hg12⟩ := hcut
        have ne1 : some w4.heap.size ≠ some w8.heap.size := by intro e; have := Option.some.inj e; have := HP8.out.lt; omega
        have ne2 : some w6.heap.size ≠ some w8.heap.size := by intro e; have := Option.some.inj e; have := HG8.out.lt; omega
        have ne3 : some U ≠ some w8.heap.size := by intro e; have := Option.some.inj e; have := HU8.out.lt; omega
        have ne4 : some NB ≠ some w8.heap.size := by intro e; have := Option.some.inj e; have := HN8.out.lt; omega
        have ne5 : some wr.heap.size ≠ some w8.heap.size := by intro e; have := Option.some.inj e; have := HBX8.out.lt; omega
        have HP12 := Lib.hid (HP9.out.far hg12 ne1)
        have HG12 := Lib.hid (HG9.out.far hg12 ne2)
        have HU12 := Lib.hid (HU9.out.far hg12 ne3)
        have HN12 := Lib.hid (HN9.out.far hg12 ne4)
        have HBX12 := Lib.hid (HBX9.out.far hg12 ne5)
        have H12 := Lib.hid h12
        have HG12g := Lib.hid hg12
        have nu : NB ≠ w8.heap.size := fun e => ne4 (by rw [e])
        have nx : NB ≠ wr.heap.size := by have := HRN.out (by omega : 0 < ns.length); have := this.lt; omega
        have tLb := NL.len (brought m n)
        have tRb := NL.read (brought m n) wc w8.heap.size 0 h12.range
        have hkN : k < (F k).ns.length := by rw [HI.out.len]; exact HKL.out
        have HKN := Lib.hid hkN
        clear hkN
        have tSt := (node_stored HN12.out HKN.out (brought m n)).1
        have g12 := HG12.out.cell 4 _ rfl
        have gl12 := HG12.out.lt
        clear h12 hg12 ne1 ne2 ne3 ne4 ne5
        go_upto_region 14 with fail
        have HN13 := Lib.hid (node_stored HN12.out HKN.out (brought m n)).2
        have hgs := grown_setCells NB (brought m n).cells wc (k * 26)
        have HP13 := Lib.hid (HP12.out.far hgs (by intro e; exact nb2 (Option.some.inj e).symm))
        have HG13 := Lib.hid (HG12.out.far hgs (by intro e; have := Option.some.inj e; omega))
        have HU13 := Lib.hid (HU12.out.far hgs (by intro e; exact hNU (Option.some.inj e).symm))
        have HBX13 := Lib.hid (HBX12.out.far hgs (by intro e; exact nx (Option.some.inj e).symm))
        have H13 := Lib.hid (H12.out.far hgs (by intro e; exact nu (Option.some.inj e).symm))
        have HS13 := Lib.hid hgs
        clear hgs tRb tSt g12 gl12
        generalize wc.setCells NB (k * 26) (brought m n).cells = W13 at *
        have p13 := HP13.out.cell 0 _ rfl
        have pl13 := HP13.out.lt
        have tRn := NL.read n W13 wr.heap.size 0 HBX13.out.range
        have eL : (F k).L.length = ns.length + 1 := HI.out.lenL
        have bd := HI.out.bd
        have CT1 := count_any U uc (F k).L n (-1) W13 (by decide) HU13.out (fun v hv => by rw [eL]; exact HI.out.ins n (List.mem_of_getElem? HN1.out) v hv) (fun x hx => by have := bd x hx; omega) (by rw [eL]; omega)
        rw [eL] at CT1
        push_cast at CT1
        have HCT1 := Lib.hid CT1
        have EL := Lib.hid eL
        clear CT1 eL bd
        go_upto_region 15 with (go_at_call 30; (with_reducible refine HCT1.out.mono ?_); rintro e w14 ⟨rfl, hg14, hr14⟩; have HG14 := Lib.hid hg14; have HR14 := Lib.hid hr14; clear hg14 hr14)
        have HP14 := Lib.hid (HP13.out.far HG14.out (by intro e; have := Option.some.inj e; omega))
        have H14 := Lib.hid (H13.out.far HG14.out (by intro e; have := Option.some.inj e; have := HU8.out.lt; omega))
        have HN14 := Lib.hid (HN13.out.far HG14.out (by intro e; exact hNU (Option.some.inj e)))
        clear p13 pl13 tRn
        have p14 := HP14.out.cell 0 _ rfl
        have pl14 := HP14.out.lt
        have tRb2 := NL.read (brought m n) w14 w8.heap.size 0 H14.out.range
        have eL2 : (addAll (-1) (F k).L (insN n)).length = ns.length + 1 := by rw [addAll_len]; exact EL.out
        have bd2 := addAll_bd (b := -1) (by decide) (insN n) (F k).L 3000 (fun x hx => by have := HI.out.bd x hx; omega) (by decide)
        have il := ins_len n
        have CT2 := count_any U uc (addAll (-1) (F k).L (insN n)) (brought m n) 1 w14 (by decide) HR14.out (fun v hv => by rw [eL2]; exact HI.out.ins m (List.mem_of_getElem? HM1.out) v (by rw [brought_ins] at hv; exact hv)) (fun x hx => by have := bd2 x hx; omega) (by rw [eL2]; omega)
        rw [eL2] at CT2
        push_cast at CT2
        have HCT2 := Lib.hid CT2
        have hfm : (F k).m ≤ 1000 := by have := HM.out; omega
        have hfw : IntKind.i64.wrap (((F k).m : Int) + 1) = ((F k).m : Int) + 1 := by simp [IntKind.wrap, IntKind.signed, IntKind.bits]; omega
        clear CT2 eL2 bd2 il
        go_wp2_with (go_at_call 30; (with_reducible refine HCT2.out.mono ?_); rintro e w15 ⟨rfl, hg15, hr15⟩; have HG15 := Lib.hid hg15; have HR15 := Lib.hid hr15; clear hg15 hr15)
        refine ⟨⟨k + 1, HKL.out, rfl, by rw [HEQ.out]; simp, ?_, fun _ => ?_, ?_, ?_⟩, by have := HKL.out; simp [intOf]; omega⟩
        · rw [HEQ.out]
          have := HR15.out
          rw [brought_ins] at this
          exact this
        · rw [HEQ.out]
          exact HN14.out.far HG15.out (by intro e; exact hNU (Option.some.inj e))
        · rw [HEQ.out]
          intro x hx
          rcases List.mem_or_eq_of_mem_set hx with h | rfl
          · exact HAI.out x h
          · have c1 := clampI_in (x := m.lo) BN.2.2
            have c2 := clampI_in (x := m.hi) BN.2.2
            exact areInts_brought (HAI.out m (List.mem_of_getElem? HM1.out)) (by omega) (by omega)
        · have K9 := HK2.out.trans (K2.of_below (U := U) (X := NB) HB9.out)
          have hsz : wz.heap.size ≤ w8.heap.size := Nat.le_trans HK2.out.size (Nat.le_trans HB7.out.size HB8.out.size)
          exact (((K9.of_new hsz HG12g.out).trans (K2.of_x HS13.out)).trans (K2.of_u HG14.out)).trans (K2.of_u HG15.out)
    · obtain rfl : k = ns.length := by omega
      have hzl := RZ.out.lt
      have RGr := Lib.hid (RPG.out.k2 HK2.out (by omega) (by omega))
      have RZr := Lib.hid (RZc.out.k2 HK2.out (by omega) (by omega))
      have q0 := RGr.out.cell 0 _ rfl
      have q1 := RGr.out.cell 1 _ rfl
      have q2 := RGr.out.cell 2 _ rfl
      have q3 := RGr.out.cell 3 _ rfl
      have q4 := RGr.out.cell 4 _ rfl
      have q5 := RGr.out.cell 5 _ rfl
      have ql := RGr.out.lt
      have z0 := RZr.out.cell 0 _ rfl
      have z1 := RZr.out.cell 1 _ rfl
      have z2 := RZr.out.cell 2 _ rfl
      have z3 := RZr.out.cell 3 _ rfl
      have z4 := RZr.out.cell 4 _ rfl
      have z5 := RZr.out.cell 5 _ rfl
      have zf0 := RZr.out.fr 0
      have zf1 := RZr.out.fr 1
      have zf2 := RZr.out.fr 2
      have zf3 := RZr.out.fr 3
      have zf4 := RZr.out.fr 4
      have zf5 := RZr.out.fr 5
      have zl := RZr.out.lt
      have kl1 : ¬ ((ns.length : Int) < (ns.length : Int)) := by omega
      have zne : w.heap.size + 1 ≠ w6.heap.size := by omega
      clear hkl
      go_wp2_with fail
      refine bodyPost_ret (results_cell_mid3 rfl _ _ (w.heap.size + 1) _ rfl (load_row (row6 RZr.out _ _ _ _ _ _) 26 _ Try.underlying26 rfl (by kernel_rfl))) rfl ?_
      have hFN := FI.out ns.length (Nat.le_refl _)
      have hW5 : w.heap.size + 1 < W5.heap.size := by omega
      have hBw : Below w.heap.size w wr := Bc.out.trans (HK2.out.below (by have := BW.out.size; omega) (by have := BW.out.size; omega) Bc.out.size)
      obtain ⟨hcn, hnd⟩ := ff_end HK2.out (show U < W5.heap.size by omega) hW5 (by omega) ODc.out QDc.out ONc.out rfl (fun h => NB5.out h) (fun h => (NB1.out h).1) HRN.out hFN.1.len HAI.out (.int .i64 gx) (.int .i64 gy) (.int .i64 gz) (.slice da D.length dc) (.slice ma ns.length mc) (.int .i64 go)
      refine ⟨below6 hBw (Nat.le_succ _) _ _ _ _ _ _, ⟨gx, gy, gz, da, dc, D, ma, mc, (F ns.length).ns, go⟩, ?_, rfl, rfl, rfl, rfl, HDM.out, by rw [HF.out], hcn, hnd⟩
      rw [hFN.1.len, HF.out]
      rfl
end Go.Proofs.Ytdbfakllcaojcaa
