/- live.Lives walked. -/
import Derived.Test.YtmifojpmomdmeaaLvC
import Derived.Deep.DeepCutAuto
import Derived.BigRegion
import Derived.Deep.RegionHeld3
import Derived.Carry
namespace Go.Proofs.Ytmifojpmomdmeaa
open Go Go.RowKit Go.Maps
set_option linter.unusedVariables false
set_option linter.unusedSimpArgs false
set_option maxRecDepth 100000

set_option maxHeartbeats 8000000 in
theorem lives_any (g : GrQ) (over : Bool) (w : World) (hC : CnsIn w g.ca g.C g.cc) (hN : NdsIn w g.na g.ns g.nc) (hn : g.ns.length ≤ 1000) :
    Calls Try.prog 9 #[g.val, .bool over] w (LvPost g over w) := by
  obtain ⟨E, hE⟩ : ∃ E, E = graphE g.gr := ⟨_, rfl⟩
  have B0 : Below w.heap.size w (w.alloc (.cells #[.int .i64 g.x, .int .i64 g.y, .int .i64 g.z, .slice g.ca g.C.length g.cc, .slice g.na g.ns.length g.nc, .int .i64 g.o] 26)) := Below.alloc (Below.refl _ _) (Nat.le_refl _) _
  have OR := order_any g (w.alloc (.cells #[.int .i64 g.x, .int .i64 g.y, .int .i64 g.z, .slice g.ca g.C.length g.cc, .slice g.na g.ns.length g.nc, .int .i64 g.o] 26)) (hC.later B0) (FlatIn.later hN B0) hn
  have SYA := Lib.hid (fun (W : World) (hW : Below w.heap.size w W) => shapes_all g W (hC.later hW) (FlatIn.later hN hW) hn)
  obtain ⟨m, hm⟩ : ∃ m, m = lvM g over := ⟨_, rfl⟩
  have hML : ordG g = m.L := by rw [hm]; rfl
  have HLM := Lib.hid (fun (he : (graphE g.gr).1 = 0) => show m.L.length ≤ g.ns.length ∧ ∀ v ∈ m.L, 1 ≤ v ∧ v ≤ g.ns.length by rw [← hML]; exact ord_mem he)
  have HMI := Lib.hid (show ∀ v, 1 ≤ v → v ≤ g.ns.length → m.ins v = insF g.ns (v - 1) from fun v h1 _ => by rw [hm]; show (if v = 0 then [] else _) = _; rw [if_neg (by omega)])
  have HMT := Lib.hid (show ∀ v, 1 ≤ v → v ≤ g.ns.length → m.tk v = decide (opF g.ns (v - 1) = 9 ∨ opF g.ns (v - 1) = 11 ∨ opF g.ns (v - 1) = 7 ∨ opF g.ns (v - 1) = 8) from fun v _ _ => by rw [hm]; rfl)
  have HMS := Lib.hid (show ∀ v, m.sz v = sizeG ((graphE g.gr).2.getD v default) from fun v => by rw [hm]; rfl)
  have HMV := Lib.hid (show m.over = over by rw [hm]; rfl)
  have HMO := Lib.hid (fun (he : (graphE g.gr).1 = 0) => show (m.out : Int) = g.o by rw [hm]; have : 0 ≤ g.o := (graph_ins he).2.1; show (g.o.toNat : Int) = g.o; omega)
  have LRA := Lib.hid (fun (he : (graphE g.gr).1 = 0) (P : Nat → Prop) (W : World) (hW : Below w.heap.size w W) (la : Option Addr) (lc : Nat) (hnu : NumsAt P W la m.L) (hlc : lc ≤ 9223372036854775807) => last_any g m la lc W (FlatIn.later hN hW) hn (HLM.out he).2 (Nat.le_trans (HLM.out he).1 hn) hnu hlc (graph_ahead he) HMI.out)
  have TKA := Lib.hid (fun (he : (graphE g.gr).1 = 0) (i B b n : Nat) (p : Nat → Option Nat) (W : World) (hW : Below w.heap.size w W) (hi : i < m.L.length) (hB : RowAt W B (intsV (mapI (g.ns.length + 1) m.last))) (hM : MapAt W b n p) => takes_any g m i B b n p W (FlatIn.later hN hW) hn ((HLM.out he).2 _ (by rw [List.getD, List.getElem?_eq_getElem hi]; exact List.getElem_mem hi)) (by have := (HLM.out he).1; omega) (graph_ahead he) HMI.out HMT.out (HMO.out he) hB hM)
  have GKA := Lib.hid (fun (he : (graphE g.gr).1 = 0) => graph_ok he)
  unfold LvPost
  unfold OrPost at OR
  rw [hML] at OR
  unfold ShPost at SYA
  rw [← hE] at OR SYA LRA TKA HLM HMO HMS GKA ⊢
  rw [← hm]
  have RG := Lib.hid (RowAt.new w [.int .i64 g.x, .int .i64 g.y, .int .i64 g.z, .slice g.ca g.C.length g.cc, .slice g.na g.ns.length g.nc, .int .i64 g.o] 26)
  have BW := Lib.hid B0
  have ORH := Lib.hid OR
  obtain ⟨gx, gy, gz, ca, cc, C, na, nc, ns, go⟩ := g
  obtain ⟨ec, el⟩ := E
  unfold GrQ.val at ORH SYA LRA TKA ⊢
  dsimp only at *
  have HE := Lib.hid hE
  clear B0 OR hC hN hE hm hML HMI HMT
  by_cases h0 : ec = 0
  case neg =>
    have h0b : (ec != 0) = true := by simpa using h0
    have HO := Lib.hid h0
    clear h0
    go_enter Try.func9, Try.ntmps9
    go_wp2_with (go_at_call 17; (with_reducible refine ORH.out.mono ?_); rintro e w2 ⟨hno, hb2, _⟩; obtain rfl := hno HO.out; have HB2 := Lib.hid (below_call BW.out hb2); clear hb2 hno)
    go_returns
    exact ⟨fun _ => rfl, HB2.out, fun h => absurd h HO.out⟩
  subst h0
  have LR := Lib.hid (LRA.out rfl)
  have TK := Lib.hid (TKA.out rfl)
  have hln := Nat.le_trans (HLM.out rfl).1 hn
  have HLB := Lib.hid (HLM.out rfl).2
  have HGO := Lib.hid (HMO.out rfl)
  have HEL := Lib.hid (GKA.out rfl)
  have hli : (m.L.length : Int) ≤ 1000 := by omega
  clear LRA TKA HLM HMO GKA
  go_enter Try.func9, Try.ntmps9
  go_upto_region 4 with (go_at_call 17; (with_reducible refine ORH.out.mono ?_); rintro e w2 ⟨_, hb2, hyes⟩; obtain ⟨ov, rfl, hov⟩ := hyes (by trivial); have HB2 := Lib.hid (below_call BW.out hb2); have HOV := Lib.hid hov; have RG2 := RG.out.over hb2; have c0 := RG2.cell 0 _ rfl; have c1 := RG2.cell 1 _ rfl; have c2 := RG2.cell 2 _ rfl; have c3 := RG2.cell 3 _ rfl; have c4 := RG2.cell 4 _ rfl; have c5 := RG2.cell 5 _ rfl; have cl := RG2.lt; have RH2 := Lib.hid RG2; clear hb2 hyes hov RG2)
  have SY2 := Lib.hid (SYA.out _ HB2.out)
  go_upto_region 5 with (go_at_call 18; (with_reducible refine SY2.out.mono ?_); rintro e w3 ⟨sv, rfl, hb3, _, hyes⟩; have hown := hyes (by trivial); have HB3 := Lib.hid (HB2.out.trans (hb3.mono HB2.out.size)); have RG3 := RH2.out.over hb3; obtain ⟨sb, scap, rfl, hsb, hsl, hsh⟩ := own_sh hown (by rw [HEL.out.2]; show 0 < ns.length + 1; omega); have HSH := Lib.hid hsh; have HOV3 := Lib.hid (own_overN HOV.out (Out.of_below (fun _ => False) hb3) (fun _ _ => id)); have c0 := RG3.cell 0 _ rfl; have c1 := RG3.cell 1 _ rfl; have c2 := RG3.cell 2 _ rfl; have c3 := RG3.cell 3 _ rfl; have c4 := RG3.cell 4 _ rfl; have c5 := RG3.cell 5 _ rfl; have cl := RG3.lt; have RH3 := Lib.hid RG3; clear hb3 hyes hown hsh RG3)
  obtain ⟨oa, oc, rfl, hoc, hnu⟩ := own_numsN (P := fun g => g < w3.heap.size) HOV3.out (fun g hg => (World.ownsRow.lt HOV3.out g hg).2)
  have HNU3 := Lib.hid hnu
  have LR3 := Lib.hid (LR.out _ w3 HB3.out oa oc hnu hoc)
  have hoi : (oc : Int) ≤ 9223372036854775807 := by omega
  clear hnu hoc LR HOV HOV3 SYA SY2 RG BW RH2 ORH
  go_upto_region 6 with (go_at_call 19; (with_reducible refine LR3.out.mono ?_); rintro e w4 ⟨B, rfl, hBl, hBr, hb4⟩; have HBR := Lib.hid hBr; have HB4 := Lib.hid (HB3.out.trans (hb4.mono HB3.out.size)); have HB34 := Lib.hid hb4; have HNU4 := Lib.hid (HNU3.out.over hb4); have HSH4 := Lib.hid (HSH.out.later hb4); have RH4 := Lib.hid (RH3.out.over hb4); clear hb4 hBr)
  clear c0 c1 c2 c3 c4 c5 cl LR3 HSH HNU3 RH3
  have hmk := fun (W : World) => run_makeMap (P := Try.prog) 57 W
  go_upto_region 8 with fail
  have hal : Below w4.heap.size w4 (w4.alloc (.map #[] 0)) := Below.alloc (Below.refl _ _) (Nat.le_refl _) _
  have HM5 := Lib.hid (MapAt.made w4)
  have HB5 := Lib.hid (HB4.out.trans (hal.mono HB4.out.size))
  have HBR5 := Lib.hid (HBR.out.over hal)
  have HNU5 := Lib.hid (HNU4.out.over hal)
  have HSH5 := Lib.hid (HSH4.out.later hal)
  have RH5 := Lib.hid (RH4.out.over hal)
  have h34 := HB34.out.size
  have hBlt := HBR.out.lt
  obtain ⟨b, hb⟩ : ∃ b, b = w4.heap.size := ⟨_, rfl⟩
  rw [← hb] at HM5 hBlt ⊢
  have HBB := Lib.hid (show B < b ∧ sb < b ∧ w3.heap.size ≤ b ∧ w.heap.size < b by have := HB3.out.size; have := RH4.out.lt; omega)
  clear HB4 HB34 HBR HNU4 HSH4 RH4 hal h34 hBlt hb
  generalize w4.alloc (.map #[] 0) = W5 at *
  clear HB2 hsb c0 c1 c2 c3 c4 c5 cl hBl hmk
  go_wp2_with fail
  go_loopw [11, 38] (fun s11 s38 wr => ∃ k : Nat, k ≤ m.L.length ∧ s38 = .int .i64 k ∧ OwnF wr W5.heap.size s11 (m.lives.take k) ∧ MapAt wr b k (m.freeK k) ∧ Out (fun j => j = b) W5 wr) (fun _ s38 _ => m.L.length - (intOf s38).toNat)
  case atStart => exact ⟨0, Nat.zero_le _, rfl, World.ownsRow_nil _ _ _ _, HM5.out, Out.refl _ _⟩
  case round =>
    obtain ⟨k, hk, rfl, ho, hmp, hO⟩ := hrel
    have HO := Lib.hid ho
    have HMP := Lib.hid hmp
    have HU := Lib.hid hO
    have HBr := Lib.hid (hO.below HB5.out (Nat.le_refl _) (fun j hj => by subst hj; exact Nat.le_of_lt HBB.out.2.2.2))
    clear ho hmp hO
    by_cases hkl : k < m.L.length
    · obtain ⟨v, hv⟩ : ∃ v, m.L[k]? = some v := ⟨_, List.getElem?_eq_getElem hkl⟩
      obtain ⟨v1, v2⟩ := HLB.out v (List.mem_of_getElem? hv)
      obtain ⟨gq, hoa, _, hgl, hgc⟩ := (HNU5.out.outN HU.out (fun j hj e => by have := HBB.out; omega)) k v hv
      subst hoa
      have hvN : v < ns.length + 1 := by omega
      have RBr := Lib.hid (HBR5.out.outN HU.out (by have := HBB.out; omega))
      have d0 := RBr.out.cell v _ (mapI_at _ hvN)
      have dl := RBr.out.lt
      have RGr := RH5.out.outN HU.out (by have := HBB.out; omega)
      have c0 := RGr.cell 0 _ rfl
      have c1 := RGr.cell 1 _ rfl
      have c2 := RGr.cell 2 _ rfl
      have c3 := RGr.cell 3 _ rfl
      have c4 := RGr.cell 4 _ rfl
      have c5 := RGr.cell 5 _ rfl
      have cl := RGr.lt
      have ell : el.length = ns.length + 1 := HEL.out.2
      obtain ⟨s1, hs1⟩ : ∃ s, el[v]? = some s := ⟨_, List.getElem?_eq_getElem (by omega)⟩
      obtain ⟨sg, soff, hse, hlt, q0, q1, q2⟩ := HSH5.out v s1 hs1
      obtain ⟨hse1, hse2⟩ : sb = sg ∧ 0 = soff := by simpa using hse
      subst hse1 hse2
      have hsn : ¬ (sb = b) := by have := HBB.out; omega
      have x0 := (HU.out.cell (p := ⟨sb, 0 + v * 3, none⟩) hlt hsn).trans q0
      have x1 := (HU.out.cell (p := ⟨sb, 0 + v * 3 + 1, none⟩) hlt hsn).trans q1
      have x2 := (HU.out.cell (p := ⟨sb, 0 + v * 3 + 2, none⟩) hlt hsn).trans q2
      simp only [Nat.zero_add] at x0 x1 x2
      have shl := Nat.lt_of_lt_of_le hlt HU.out.size
      have HSZ := Lib.hid (show m.sz v = sizeG s1 by rw [HMS.out v]; simp [List.getD, hs1])
      have HV := Lib.hid (show m.L.getD k 0 = v by simp [List.getD, hv])
      have v0 : (0 : Int) ≤ (v : Int) := by omega
      have vn : (v : Int) < (ns.length : Int) + 1 := by omega
      have ve : (v : Int) < (el.length : Int) := by omega
      have k0 : (0 : Int) ≤ (k : Int) := by omega
      have k1 : (k : Int) < (m.L.length : Int) := by omega
      have HK := Lib.hid hkl
      have HVN := Lib.hid hvN
      obtain ⟨l, hll⟩ : ∃ l, l = m.last v := ⟨_, rfl⟩
      rw [← hll] at d0
      have HLL := Lib.hid hll
      clear ell q0 q1 q2 hse hs1 RGr hsn hlt hvN hkl hv hll hk v1 v2
      have HTO := Lib.hid (show m.to k = if (v : Int) = go then (m.L.length : Int) else max (k : Int) l by
        unfold Lv.to
        rw [HV.out, ← HLL.out]
        have := HGO.out
        by_cases e : v = m.out
        · rw [if_pos e, if_pos (by omega)]
        · rw [if_neg e, if_neg (by omega)])
      go_upto_region 11 with fail
      go_upto_if 52 with fail
      go_cut [15] (fun s15 wx => s15 = .int .i64 (m.to k) ∧ wx = wr)
      case first =>
        by_cases e : (v : Int) = go
        · have HT2 := Lib.hid (HTO.out.trans (if_pos e))
          go_wp2_with fail
          go_meet
          exact ⟨by rw [HT2.out], rfl⟩
        · have HT2 := Lib.hid (HTO.out.trans (if_neg e))
          go_wp2_with fail
          go_meet
          exact ⟨by rw [HT2.out], rfl⟩
      case rest =>
        obtain ⟨rfl, rfl⟩ := hcut
        have SZ := Lib.hid (fun W => size_sh s1 W)
        obtain ⟨tt, htt⟩ : ∃ x, x = m.to k := ⟨_, rfl⟩
        rw [← htt]
        have HTT := Lib.hid htt
        clear htt
        clear HTO d0 dl
        go_upto_region 15 with (go_at_call 20; (with_reducible refine (SZ.out _).mono ?_); rintro e w9 ⟨rfl, hb9⟩; have HB9 := Lib.hid hb9; clear hb9)
        have hal : Below w9.heap.size w9 (w9.alloc (.cells #[.int .i64 (v : Int), .int .i64 (v : Int), .int .i64 (sizeG s1), .int .i64 (k : Int), .int .i64 tt] 38)) := Below.alloc (Below.refl _ _) (Nat.le_refl _) _
        have RA := Lib.hid (RowAt.new w9 (Lf.cells ⟨v, v, sizeG s1, k, tt⟩) 38)
        have hb6 : Below wc.heap.size wc (w9.alloc (.cells #[.int .i64 (v : Int), .int .i64 (v : Int), .int .i64 (sizeG s1), .int .i64 (k : Int), .int .i64 tt] 38)) := below_call HB9.out hal
        have HA9 := Lib.hid HB9.out.size
        unfold Lf.cells at RA
        obtain ⟨A, hA⟩ : ∃ A, A = w9.heap.size := ⟨_, rfl⟩
        rw [← hA] at RA HA9 ⊢
        obtain ⟨W, hW⟩ : ∃ W, W = w9.alloc (.cells #[.int .i64 (v : Int), .int .i64 (v : Int), .int .i64 (sizeG s1), .int .i64 (k : Int), .int .i64 tt] 38) := ⟨_, rfl⟩
        have hE : w9.alloc (.cells [Value.int .i64 (v : Int), .int .i64 (v : Int), .int .i64 (sizeG s1), .int .i64 (k : Int), .int .i64 tt].toArray 38) = W := by rw [hW]
        rw [hE] at RA
        rw [← hW] at hb6 ⊢
        have HB6 := Lib.hid hb6
        clear hal hA hW hE hb6
        have RG6 := ((RH5.out.outN HU.out (by have := HBB.out; omega)).over HB6.out)
        have c0 := RG6.cell 0 _ rfl
        have c1 := RG6.cell 1 _ rfl
        have c2 := RG6.cell 2 _ rfl
        have c3 := RG6.cell 3 _ rfl
        have c4 := RG6.cell 4 _ rfl
        have c5 := RG6.cell 5 _ rfl
        have cl := RG6.lt
        have RH6 := Lib.hid RG6
        have MP6 := Lib.hid (HMP.out.over HB6.out)
        have TK6 := TK.out k B b k _ W (HBr.out.trans (HB6.out.mono HBr.out.size)) HK.out (RBr.out.over HB6.out) MP6.out
        rw [HV.out] at TK6
        have TKH := Lib.hid TK6
        clear RG6 TK6
        go_upto_region 16 with (go_at_call 21; (with_reducible refine TKH.out.mono ?_); rintro e w7 ⟨rfl, hb7⟩; have HB7 := Lib.hid hb7; clear hb7)
        have RA7 := Lib.hid (RA.out.over HB7.out)
        have MP7 := Lib.hid (MP6.out.over HB7.out)
        have OU7' := Lib.hid (show Out (fun j => j = b) wc w7 from (Out.of_below _ HB6.out).trans (Out.of_below _ HB7.out))
        have HAB := Lib.hid (show ¬ (A = b) by have := HA9.out; have := HMP.out.lt; omega)
        have HVL := Lib.hid (show v ≤ 1000000 by have := HVN.out; omega)
        have HLT := Lib.hid (show (m.lives.take k).length ≤ 1000000 by rw [List.length_take, lives_len]; omega)
        have HNB := Lib.hid (show ∀ g, u11.ownBlock = some g → ¬ (g = b) from fun g hg e => by have := (World.ownsRow.lt HO.out g hg).1; have := HM5.out.lt; omega)
        have HLF := Lib.hid (show ∀ c, m.buf k (m.freeK k) = c → m.life k = ⟨v, c, sizeG s1, k, tt⟩ from fun c hc => by unfold Lv.life; rw [HV.out, hc, HSZ.out, HTT.out])
        clear c0 c1 c2 c3 c4 c5 cl x0 x1 x2 shl hgc hgl TKH SZ
        cases htk : m.takes k (m.freeK k) with
        | none =>
          have hto : m.takesO k (m.freeK k) = none := by unfold Lv.takesO; rw [htk]; split <;> rfl
          have OU7 := Lib.hid OU7'.out
          have RAX := Lib.hid RA7.out
          have HCL := Lib.hid HVL.out
          have HLK := Lib.hid (HLF.out v (by rw [buf_none hto, HV.out]))
          have HFR := Lib.hid (free_none hto HV.out)
          have a0 := RA7.out.cell 0 _ rfl
          have a1 := RA7.out.cell 1 _ rfl
          have al := RA7.out.lt
          clear htk hto
          go_wp2_with (first
            | (at_mapUpdate; refine map_store _ rfl _ _ _ 57 rfl Try.underlying57 b k (m.freeK k) rfl MP7.out (by have := HK.out; omega) v v rfl rfl HVL.out HCL.out ?_; intro w8 hm8 ho8; have HM8 := Lib.hid hm8; have HO8 := Lib.hid (OU7.out.trans ho8); have RA8 := RAX.out.outN ho8 HAB.out; have a0 := RA8.cell 0 _ rfl; have a1 := RA8.cell 1 _ rfl; have a2 := RA8.cell 2 _ rfl; have a3 := RA8.cell 3 _ rfl; have a4 := RA8.cell 4 _ rfl; have al := RA8.lt; clear hm8 ho8 RA8)
            | (at_builtin; refine app_lf _ rfl (.tmp 88) (.tmp 90) rfl W5.heap.size u11 (m.lives.take k) rfl (own_overF HO.out (HO8.out.trans (Out.of_below _ (Below.alloc (Below.refl _ _) (Nat.le_refl _) _))) HNB.out) ⟨v, v, sizeG s1, k, tt⟩ _ rfl (RowAt.new w8 (Lf.cells ⟨v, v, sizeG s1, k, tt⟩) _) HLT.out (Nat.le_trans (HU.out.trans HO8.out).size (Below.alloc (Below.refl _ _) (Nat.le_refl _) _).size) ?_; intro v' w10 h1 h2; have HV1 := Lib.hid h1; have HV2 := Lib.hid h2; clear h1 h2))
          have al2 := Below.alloc (Below.refl w8.heap.size w8) (Nat.le_refl _) (.cells (Lf.cells ⟨v, v, sizeG s1, k, tt⟩).toArray 38)
          have hfar : ∀ j, u11.ownBlock = some j → W5.heap.size ≤ j := fun j hj => (World.ownsRow.lt HO.out j hj).1
          refine ⟨⟨k + 1, HK.out, rfl, ?_, ?_, (((HU.out.trans HO8.out).trans (Out.of_below _ al2)).far HV2.out hfar)⟩, by have := HK.out; simp [intOf]; omega⟩
          · rw [lives_succ HK.out, HLK.out]; exact HV1.out
          · rw [show m.freeK (k + 1) = m.free k (m.freeK k) from rfl, HFR.out]
            exact (HM8.out.over al2).outN HV2.out (fun hb => by have := hfar b hb; have := HM5.out.lt; omega)
        | some r =>
          cases over with
          | false =>
            have hto : m.takesO k (m.freeK k) = none := by unfold Lv.takesO; rw [HMV.out]; rfl
            have OU7 := Lib.hid OU7'.out
            have RAX := Lib.hid RA7.out
            have HCL := Lib.hid HVL.out
            have HLK := Lib.hid (HLF.out v (by rw [buf_none hto, HV.out]))
            have HFR := Lib.hid (free_none hto HV.out)
            have a0 := RA7.out.cell 0 _ rfl
            have a1 := RA7.out.cell 1 _ rfl
            have al := RA7.out.lt
            clear htk hto
            go_wp2_with (first
              | (at_mapUpdate; refine map_store _ rfl _ _ _ 57 rfl Try.underlying57 b k (m.freeK k) rfl MP7.out (by have := HK.out; omega) v v rfl rfl HVL.out HCL.out ?_; intro w8 hm8 ho8; have HM8 := Lib.hid hm8; have HO8 := Lib.hid (OU7.out.trans ho8); have RA8 := RAX.out.outN ho8 HAB.out; have a0 := RA8.cell 0 _ rfl; have a1 := RA8.cell 1 _ rfl; have a2 := RA8.cell 2 _ rfl; have a3 := RA8.cell 3 _ rfl; have a4 := RA8.cell 4 _ rfl; have al := RA8.lt; clear hm8 ho8 RA8)
              | (at_builtin; refine app_lf _ rfl (.tmp 88) (.tmp 90) rfl W5.heap.size u11 (m.lives.take k) rfl (own_overF HO.out (HO8.out.trans (Out.of_below _ (Below.alloc (Below.refl _ _) (Nat.le_refl _) _))) HNB.out) ⟨v, v, sizeG s1, k, tt⟩ _ rfl (RowAt.new w8 (Lf.cells ⟨v, v, sizeG s1, k, tt⟩) _) HLT.out (Nat.le_trans (HU.out.trans HO8.out).size (Below.alloc (Below.refl _ _) (Nat.le_refl _) _).size) ?_; intro v' w10 h1 h2; have HV1 := Lib.hid h1; have HV2 := Lib.hid h2; clear h1 h2))
            have al2 := Below.alloc (Below.refl w8.heap.size w8) (Nat.le_refl _) (.cells (Lf.cells ⟨v, v, sizeG s1, k, tt⟩).toArray 38)
            have hfar : ∀ j, u11.ownBlock = some j → W5.heap.size ≤ j := fun j hj => (World.ownsRow.lt HO.out j hj).1
            refine ⟨⟨k + 1, HK.out, rfl, ?_, ?_, (((HU.out.trans HO8.out).trans (Out.of_below _ al2)).far HV2.out hfar)⟩, by have := HK.out; simp [intOf]; omega⟩
            · rw [lives_succ HK.out, HLK.out]; exact HV1.out
            · rw [show m.freeK (k + 1) = m.free k (m.freeK k) from rfl, HFR.out]
              exact (HM8.out.over al2).outN HV2.out (fun hb => by have := hfar b hb; have := HM5.out.lt; omega)
          | true =>
            have hto : m.takesO k (m.freeK k) = some r := by unfold Lv.takesO; rw [HMV.out, if_pos rfl, htk]
            obtain ⟨_, _, hri, ⟨e, hpe⟩, _, _⟩ := takes_spec hto
            have hmm := freeK_mem k (Nat.le_of_lt HK.out) _ _ hpe
            have HRL := Lib.hid (show r ≤ 1000000 by have := (HLB.out r hmm.1).2; omega)
            have HCL := Lib.hid (show e ≤ 1000000 by have := (HLB.out e hmm.2).2; omega)
            have HPE := Lib.hid hpe
            have HLK := Lib.hid (HLF.out e (buf_some hto hpe))
            have HFR := Lib.hid (free_some hto hpe HV.out)
            have a1 := RA7.out.cell 1 _ rfl
            have af := RA7.out.fr 1
            have al := RA7.out.lt
            have OSB := Lib.hid (out_setB w7 A 1 (.int .i64 (e : Int)) 0)
            have MPS := Lib.hid (MP7.out.outN OSB.out (fun hh => HAB.out hh.symm))
            have RAS := Lib.hid (RA7.out.set 1 (.int .i64 (e : Int)) (by simp) rfl)
            clear htk hto hpe hmm hri
            go_wp2_with (first
              | (at_lookup; refine look_at _ rfl _ _ 57 rfl Try.underlying57 b k (m.freeK k) rfl MP7.out r rfl HRL.out e HPE.out ?_)
              | (at_delete; refine map_delete _ rfl _ _ 57 rfl Try.underlying57 b k (m.freeK k) rfl MPS.out r rfl HRL.out ?_; intro w71 hm71 ho71; have MPD := Lib.hid hm71; have OU7 := Lib.hid (((OU7'.out).far OSB.out (fun j hj => by have hjA : j = A := hj; have := HA9.out; have := HB9.out.size; omega)).trans ho71); have RAX := Lib.hid (RAS.out.outN ho71 HAB.out); clear hm71 ho71; have b1 := RAX.out.cell 1 _ rfl; have bl := RAX.out.lt)
              | (at_mapUpdate; refine map_store _ rfl _ _ _ 57 rfl Try.underlying57 b k (fun z => if z = r then none else m.freeK k z) rfl MPD.out (by have := HK.out; omega) v e rfl rfl HVL.out HCL.out ?_; intro w8 hm8 ho8; have HM8 := Lib.hid hm8; have HO8 := Lib.hid (OU7.out.trans ho8); have RA8 := RAX.out.outN ho8 HAB.out; have a0 := RA8.cell 0 _ rfl; have a1 := RA8.cell 1 _ rfl; have a2 := RA8.cell 2 _ rfl; have a3 := RA8.cell 3 _ rfl; have a4 := RA8.cell 4 _ rfl; have al := RA8.lt; clear hm8 ho8 RA8)
              | (at_builtin; refine app_lf _ rfl (.tmp 88) (.tmp 90) rfl W5.heap.size u11 (m.lives.take k) rfl (own_overF HO.out (HO8.out.trans (Out.of_below _ (Below.alloc (Below.refl _ _) (Nat.le_refl _) _))) HNB.out) ⟨v, e, sizeG s1, k, tt⟩ _ rfl (RowAt.new w8 (Lf.cells ⟨v, e, sizeG s1, k, tt⟩) _) HLT.out (Nat.le_trans (HU.out.trans HO8.out).size (Below.alloc (Below.refl _ _) (Nat.le_refl _) _).size) ?_; intro v' w10 h1 h2; have HV1 := Lib.hid h1; have HV2 := Lib.hid h2; clear h1 h2))
            have al2 := Below.alloc (Below.refl w8.heap.size w8) (Nat.le_refl _) (.cells (Lf.cells ⟨v, e, sizeG s1, k, tt⟩).toArray 38)
            have hfar : ∀ j, u11.ownBlock = some j → W5.heap.size ≤ j := fun j hj => (World.ownsRow.lt HO.out j hj).1
            refine ⟨⟨k + 1, HK.out, rfl, ?_, ?_, (((HU.out.trans HO8.out).trans (Out.of_below _ al2)).far HV2.out hfar)⟩, by have := HK.out; simp [intOf]; omega⟩
            · rw [lives_succ HK.out, HLK.out]; exact HV1.out
            · rw [show m.freeK (k + 1) = m.free k (m.freeK k) from rfl, HFR.out]
              exact (HM8.out.over al2).outN HV2.out (fun hb => by have := hfar b hb; have := HM5.out.lt; omega)
    · obtain rfl : k = m.L.length := by omega
      have kx : ¬ ((m.L.length : Int) < (m.L.length : Int)) := by omega
      have HLF := Lib.hid (show m.lives.take m.L.length = m.lives from List.take_of_length_le (by rw [lives_len]; exact Nat.le_refl _))
      clear hkl hk
      go_wp2_with fail
      go_returns
      refine ⟨HBr.out, _, rfl, ?_⟩
      have h := HO.out
      rw [HLF.out] at h
      exact own_base h HB5.out.size
end Go.Proofs.Ytmifojpmomdmeaa
