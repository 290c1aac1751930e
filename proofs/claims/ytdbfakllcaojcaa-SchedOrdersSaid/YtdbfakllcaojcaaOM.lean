/- The document's more. -/
import Derived.Test.YtdbfakllcaojcaaOC
import Derived.Test.YtdbfakllcaojcaaRsS
import Derived.Deep.RegionHeld3
import Derived.Handy
import Derived.Deep.DeepCutAuto
import Derived.Test.YtdbfakllcaojcaaLv28
import Derived.Test.YtdbfakllcaojcaaNY
namespace Go.Proofs.Ytdbfakllcaojcaa
open Go Go.RowKit
set_option linter.unusedVariables false
set_option linter.unusedSimpArgs false
set_option maxRecDepth 100000

theorem own_newN (w : World) (B : Nat) (hB : B ≤ w.heap.size) : OwnL (w.alloc (.cells #[] 3)) B (.slice (some ⟨w.heap.size, 0, none⟩) 0 0) [] :=
  ⟨by simp [nsV], .inr ⟨w.heap.size, 0, #[], rfl, hB, heap_alloc_new _ _, Nat.le_refl _, by simp [maxLen], rfl, by simp [nsV]⟩⟩
theorem ins_nums {w0 w : World} {at0 : Option Addr} {l : List Int} (h : InsAt w0 w at0 l) (hp : ∀ z ∈ l, 0 ≤ z) : NumsAt (fun _ => True) w at0 (l.map Int.toNat) := fun i x hx => by
  rw [List.getElem?_map] at hx
  obtain ⟨z, hz, rfl⟩ := Option.map_eq_some_iff.1 hx
  obtain ⟨g, h1, _, h3, h4⟩ := h i z hz
  exact ⟨g, h1, trivial, h3, by rw [h4, Int.toNat_of_nonneg (hp z (List.mem_of_getElem? hz))]⟩
theorem ins_numsP {Q : Nat → Prop} {w0 w : World} {at0 : Option Addr} {l : List Int} (h : InsAt w0 w at0 l) (hp : ∀ z ∈ l, 0 ≤ z) (hQ : ∀ g, w0.heap.size ≤ g → g < w.heap.size → Q g) : NumsAt Q w at0 (l.map Int.toNat) := fun i x hx => by
  rw [List.getElem?_map] at hx
  obtain ⟨z, hz, rfl⟩ := Option.map_eq_some_iff.1 hx
  obtain ⟨g, h1, h2, h3, h4⟩ := h i z hz
  exact ⟨g, h1, hQ g h2 h3, h3, by rw [h4, Int.toNat_of_nonneg (hp z (List.mem_of_getElem? hz))]⟩
theorem own_neN {b g n c : Nat} (h : g ≠ b) : (Value.slice (some ⟨b, 0, none⟩) n c).ownBlock ≠ some g := by simp [Value.ownBlock]; omega
theorem step_bd {m : Od} (F : m.Fit) (d : List Nat) (v : Nat) : ∀ (l : List Nat) (p : Int × List Nat), p.1 - 100000 * l.length ≤ (l.foldl (m.stepD d v) p).1 ∧ (l.foldl (m.stepD d v) p).1 ≤ p.1 ∧ (l.foldl (m.stepD d v) p).2.length ≤ p.2.length + l.length
  | [], p => by simp
  | x :: r, p => by
    have h := step_bd F d v r (m.stepD d v p x)
    have hs := F.sz x
    have h2 : p.1 - 100000 ≤ (m.stepD d v p x).1 ∧ (m.stepD d v p x).1 ≤ p.1 ∧ (m.stepD d v p x).2.length ≤ p.2.length + 1 := by
      unfold Od.stepD
      split
      · exact ⟨by omega, Int.le_refl _, by omega⟩
      · refine ⟨?_, ?_, by simp⟩ <;> (dsimp only; split <;> omega)
    rw [List.foldl_cons, List.length_cons]
    push_cast
    omega
set_option maxHeartbeats 8000000 in
theorem rmore_any (g : GrQ) (w : World) (he : (graphE g.gr).1 = 0) (hN : NdsIn w g.na g.ns g.nc) (hn : g.ns.length ≤ 1000) {P : Nat → Prop} (sh scap V vc dc : Nat) (da : Option Addr) (d : List Nat) (v : Nat)
    (hsh : ShsAt w (some ⟨sh, 0, none⟩) (graphE g.gr).2) (hV : RowAt w V (boolsN (needL g))) (hd : NumsAt P w da d) (hdl : d.length ≤ 1000) (hdc : dc ≤ 9223372036854775807) (hv0 : v ≠ 0) (hv : v ≤ g.ns.length) (hsl : sh < w.heap.size) :
    Calls Try.prog 48 #[g.val, .slice (some ⟨sh, 0, none⟩) (g.ns.length + 1) scap, .slice (some ⟨V, 0, none⟩) (g.ns.length + 1) vc, .slice da d.length dc, .int .i64 (v : Int)] w fun e w' =>
      e = .returned (.int .i64 ((odM g (needL g)).moreD d v)) ∧ Below w.heap.size w w' := by
  obtain ⟨T, Z, Z0, NL⟩ := node_type
  have hL := NL.load
  have tA := NL.agg
  have tS := NL.size
  have OK := Lib.hid (odM_ok he)
  have FT := Lib.hid (odM_fit (needL g) hn)
  have MNN := Lib.hid (show (odM g (needL g)).N = g.ns.length from rfl)
  have MOO := Lib.hid (show ((odM g (needL g)).out : Int) = g.o by have h := (graph_ins (g := g.gr) he).2.1; have h1 : 0 ≤ g.o := h; show ((g.o.toNat : Nat) : Int) = g.o; omega)
  have MRD := Lib.hid (show ∀ k n, g.ns[k]? = some n → (odM g (needL g)).rd (k + 1) = (insN n).map Int.toNat from fun k n h => by
    show (if k + 1 = 0 then [] else insF g.ns (k + 1 - 1)) = _
    rw [if_neg (by omega), Nat.add_sub_cancel, insF_at h])
  have MND := Lib.hid (show ∀ v, (odM g (needL g)).need v = (needL g).getD v false from fun v => rfl)
  have MSZ := Lib.hid (show ∀ v s, (graphE g.gr).2[v]? = some s → (odM g (needL g)).sz v = sizeG s from fun v s h => by show sizeG ((graphE g.gr).2.getD v default) = _; simp [List.getD, h])
  have AHD := Lib.hid (graph_ahead (g := g.gr) he)
  have NLN := Lib.hid (needL_len he)
  have ELN := Lib.hid (graph_ok he).2
  have FRE := Lib.hid (fun (u : Nat) (hu : u ≤ g.ns.length) (W : World) (hb : Below w.heap.size w W) => rfree_any g (needL g) u hu W (FlatIn.later hN hb) hn)
  have IND := Lib.hid (fun (u : Nat) (W : World) (hb : Below w.heap.size w W) => rin_any da dc d u W (hd.over hb) (by omega))
  have MD := Lib.hid (show (odM g (needL g)).moreD d v = (((odM g (needL g)).rd v).foldl ((odM g (needL g)).stepD d v) ((odM g (needL g)).sz v, [])).1 from rfl)
  have OFT := Lib.hid (fun x u => show (odM g (needL g)).other d v x u = (decide (u ≠ v) && (odM g (needL g)).need u && !(odM g (needL g)).free u && !decide (u ∈ d) && decide (x ∈ (odM g (needL g)).rd u)) from rfl)
  generalize hm : odM g (needL g) = m at *
  generalize needL g = nl at *
  generalize (graphE g.gr).2 = el at *
  obtain ⟨gx, gy, gz, ca, cc, C, na, nc, ns, go⟩ := g
  unfold GrQ.val at FRE ⊢
  dsimp only at *
  have HSH := Lib.hid hsh
  have HVV := Lib.hid hV
  have HN := Lib.hid hN
  have hnl := hN.1
  rw [List.length_map] at hnl
  have hcb : nc ≤ 9223372036854775807 := hN.2.1
  obtain ⟨j, rfl⟩ : ∃ j, v = j + 1 := ⟨v - 1, by omega⟩
  obtain ⟨nd, hnd⟩ : ∃ n, ns[j]? = some n := ⟨_, List.getElem?_eq_getElem (by omega)⟩
  obtain ⟨nb, noff, hna, hnb, hrg⟩ := nds_range HN.out j nd hnd
  subst hna
  have hrd := MRD.out j nd hnd
  obtain ⟨s1, hs1⟩ : ∃ s, el[j + 1]? = some s := ⟨_, List.getElem?_eq_getElem (by rw [ELN.out]; show j + 1 < ns.length + 1; omega)⟩
  have hsz1 := MSZ.out (j + 1) s1 hs1
  obtain ⟨vp, hvp⟩ : ∃ x : Nat, x = j + 1 := ⟨_, rfl⟩
  rw [← hvp] at hrd hs1 hsz1 MD OFT ⊢
  have HRD := Lib.hid hrd
  have HSZ1 := Lib.hid hsz1
  have INP := Lib.hid (show ∀ k n, ns[k]? = some n → ∀ z ∈ insN n, 0 ≤ z from fun k n h z hz => (AHD.out k n h z hz).1)
  have HIN := Lib.hid (show ∀ x ∈ m.rd vp, x < vp from fun x hx => by
    rw [hrd] at hx
    obtain ⟨z, hz, rfl⟩ := List.mem_map.1 hx
    have := AHD.out j nd hnd z hz
    omega)
  have INN := Lib.hid (INP.out j nd hnd)
  have HRG := Lib.hid (fun (W : World) (hW : Below w.heap.size w W) => NL.read nd W nb (noff + j * 26) (fun q v hv => (hW.cell (p := ⟨nb, _, none⟩) hnb).trans (hrg q v hv)))
  have v0 : (0 : Int) ≤ (vp : Int) := by omega
  have v1 : (vp : Int) < (ns.length : Int) + 1 := by omega
  have j0 : (0 : Int) ≤ (j : Int) := by omega
  have j1 : (j : Int) < (ns.length : Int) := by omega
  have hw : IntKind.i64.wrap ((vp : Int) - 1) = (j : Int) := by rw [hvp]; simp [IntKind.wrap, IntKind.signed, IntKind.bits]; omega
  have hw2 : (vp : Int) - 1 = (j : Int) := by omega
  have hw3 : IntKind.i64.wrap (j : Int) = (j : Int) := by simp [IntKind.wrap, IntKind.signed, IntKind.bits]; omega
  have RG := Lib.hid (RowAt.new w [.int .i64 gx, .int .i64 gy, .int .i64 gz, .slice ca C.length cc, .slice (some ⟨nb, noff, none⟩) ns.length nc, .int .i64 go] 26)
  have BW := Lib.hid (Below.alloc (Below.refl w.heap.size w) (Nat.le_refl _) (.cells #[.int .i64 gx, .int .i64 gy, .int .i64 gz, .slice ca C.length cc, .slice (some ⟨nb, noff, none⟩) ns.length nc, .int .i64 go] 26))
  have SZ := Lib.hid (fun s W => rsize_sh s W)
  have RI := Lib.hid (fun n W => rins n W)
  have HVP := Lib.hid hvp
  have tL := NL.len nd
  have HNB := Lib.hid hnb
  have HSL := Lib.hid hsl
  have HDL := Lib.hid hdl
  clear hsh hV hN hd hm hrd hsz1 hrg hnd hvp hv0 hdl
  go_enter Try.func48, Try.ntmps48
  simp only [hL]
  clear hL
  go_upto_region 1 with fail
  obtain ⟨W1, hW1⟩ : ∃ W, W = w.alloc (.cells #[.int .i64 gx, .int .i64 gy, .int .i64 gz, .slice ca C.length cc, .slice (some ⟨nb, noff, none⟩) ns.length nc, .int .i64 go] 26) := ⟨_, rfl⟩
  have hE : w.alloc (.cells [Value.int .i64 gx, .int .i64 gy, .int .i64 gz, .slice ca C.length cc, .slice (some ⟨nb, noff, none⟩) ns.length nc, .int .i64 go].toArray 26) = W1 := by rw [hW1]
  rw [hE] at RG
  rw [← hW1] at BW ⊢
  clear hE
  clear hW1
  obtain ⟨shb, sho, hse, shl, y0, y1, y2⟩ := (HSH.out.later BW.out) vp s1 hs1
  injection hse with hse
  injection hse with hse1 hse2 _
  subst hse1 hse2
  simp only [Nat.zero_add] at y0 y1 y2
  have Y0 := Lib.hid y0
  have Y1 := Lib.hid y1
  have Y2 := Lib.hid y2
  have SHL := Lib.hid shl
  clear y0 y1 y2 hs1 shl
  go_cut [11, 12, 13] (fun s11 s12 s13 wx => ∃ at0 c, s11 = .int .i64 (m.sz vp) ∧ s12 = .slice at0 (insN nd).length c ∧ OwnL wx W1.heap.size s13 [] ∧ NumsAt (fun g => s13.ownBlock ≠ some g) wx at0 (m.rd vp) ∧ Below W1.heap.size W1 wx)
  case first =>
    have PS := Lib.hid (show ∀ W', Below W1.heap.size W1 W' → (fun (w' : World) => w'.cell? ⟨w.heap.size, 4, none⟩ = some (.slice (some ⟨nb, noff, none⟩) ns.length nc) ∧ (loadCellsFrom ⟨nb, noff + j * 26, none⟩ 0 Z #[]).run Try.prog w' = .ok nd.cells.toArray w' ∧ w'.cell? ⟨sh, vp * 3, none⟩ = some (.int .i64 s1.x) ∧ w'.cell? ⟨sh, vp * 3 + 1, none⟩ = some (.int .i64 s1.y) ∧ w'.cell? ⟨sh, vp * 3 + 2, none⟩ = some (.int .i64 s1.z)) W' from fun W' h => ⟨(RG.out.over h).cell 4 _ rfl, HRG.out W' (below_call BW.out h), (h.cell (p := ⟨sh, vp * 3, none⟩) SHL.out).trans Y0.out, (h.cell (p := ⟨sh, vp * 3 + 1, none⟩) SHL.out).trans Y1.out, (h.cell (p := ⟨sh, vp * 3 + 2, none⟩) SHL.out).trans Y2.out⟩)
    have bl := RG.out.lt
    go_region_held3 (fun (w' : World) => w'.cell? ⟨w.heap.size, 4, none⟩ = some (.slice (some ⟨nb, noff, none⟩) ns.length nc) ∧ (loadCellsFrom ⟨nb, noff + j * 26, none⟩ 0 Z #[]).run Try.prog w' = .ok nd.cells.toArray w' ∧ w'.cell? ⟨sh, vp * 3, none⟩ = some (.int .i64 s1.x) ∧ w'.cell? ⟨sh, vp * 3 + 1, none⟩ = some (.int .i64 s1.y) ∧ w'.cell? ⟨sh, vp * 3 + 2, none⟩ = some (.int .i64 s1.z))
      (first | (with_reducible assumption) | (refine PS.out _ ?_; first | (with_reducible exact Below.refl _ _) | (with_reducible exact (Below.refl _ _).drew) | (with_reducible exact Below.alloc (Below.refl _ _) (Nat.le_refl _) _) | (with_reducible exact (Below.alloc (Below.refl _ _) (Nat.le_refl _) _).drew) | (with_reducible exact hB9) | (with_reducible exact hB9.drew) | (with_reducible exact Below.alloc hB9 hB9.size _) | (with_reducible exact (Below.alloc hB9 hB9.size _).drew) | (with_reducible exact hB8) | (with_reducible exact hB8.drew) | (with_reducible exact Below.alloc hB8 hB8.size _) | (with_reducible exact (Below.alloc hB8 hB8.size _).drew)))
      (first
        | (go_at_call 34; (with_reducible refine (SZ.out s1 _).mono ?_); rintro e w8 ⟨rfl, hb8⟩; have hB8 : Below W1.heap.size W1 w8 := (by first | (with_reducible exact hb8) | exact below_call (Below.refl W1.heap.size W1).drew hb8 | exact below_call (Below.alloc (Below.refl W1.heap.size W1) (Nat.le_refl _) _) hb8 | exact below_call (Below.alloc (Below.refl W1.heap.size W1) (Nat.le_refl _) _).drew hb8))
        | (go_at_call 28; (with_reducible refine (RI.out nd _).mono ?_); rintro e w9 ⟨at0, c, rfl, hb9, hins⟩; have hB9 : Below W1.heap.size W1 w9 := (by first | exact below_call hB8 hb9 | exact below_call hB8.drew hb9 | exact below_call (Below.alloc hB8 hB8.size _) hb9 | exact below_call (Below.alloc hB8 hB8.size _).drew hb9)))
    · go_wp2_with fail
      go_meet
      exact ⟨_, _, by rw [HSZ1.out], rfl, own_newN w9 _ hB9.size, (by rw [HRD.out]; exact (ins_numsP (Q := fun g => (Value.slice (some ⟨w9.heap.size, 0, none⟩) 0 0).ownBlock ≠ some g) hins INN.out (fun g h1 h2 => own_neN (by omega))).over (Below.alloc (Below.refl _ _) (Nat.le_refl _) _)), Below.alloc hB9 hB9.size _⟩
    · go_wp2_with fail
      go_meet
      exact ⟨_, _, by rw [HSZ1.out], rfl, own_overN (own_newN w8 _ hB8.size) (Out.of_below (fun _ => False) hb9) (fun _ _ => id), (by rw [HRD.out]; exact ins_numsP hins INN.out (fun g h1 h2 => own_neN (by have := lt_alloc w8 (.cells #[] 3); omega))), hB9⟩
    · go_wp2_with fail
      go_meet
      exact ⟨_, _, by rw [HSZ1.out], rfl, own_overN (own_overN (own_newN W1 _ (Nat.le_refl _)) (Out.of_below (fun _ => False) (below_call (Below.refl (W1.alloc (.cells #[] 3)).heap.size (W1.alloc (.cells #[] 3))).drew hb8)) (fun _ _ => id)) (Out.of_below (fun _ => False) hb9) (fun _ _ => id), (by rw [HRD.out]; exact ins_numsP hins INN.out (fun g h1 h2 => own_neN (by have := hb8.size; have := lt_alloc_drew W1 (.cells #[] 3); omega))), hB9⟩
  case rest =>
    obtain ⟨at0, ic, rfl, rfl, hown, hnum, hbc⟩ := hcut
    have HOW := Lib.hid hown
    have HNUM := Lib.hid hnum
    have HBC := Lib.hid hbc
    have hrl : (m.rd vp).length = (insN nd).length := by rw [HRD.out]; simp
    have HRL := Lib.hid hrl
    have hil : (insN nd).length ≤ 2 := ins_len nd
    have hili : ((insN nd).length : Int) ≤ 2 := by omega
    have hszb := FT.out.sz vp
    have SBD := Lib.hid (fun k => step_bd FT.out d vp ((m.rd vp).take k) (m.sz vp, []))
    clear hown hnum hbc hrl
    go_wp2_with fail
    go_loopw [11, 13, 14] (fun s11 s13 s14 wr => ∃ k : Nat, k ≤ (insN nd).length ∧ s14 = .int .i64 k ∧ s11 = .int .i64 (((m.rd vp).take k).foldl (m.stepD d vp) (m.sz vp, [])).1 ∧ OwnL wr W1.heap.size s13 (((m.rd vp).take k).foldl (m.stepD d vp) (m.sz vp, [])).2 ∧ Below W1.heap.size W1 wr ∧ NumsAt (fun g => s13.ownBlock ≠ some g) wr at0 (m.rd vp)) (fun _ _ s14 _ => (insN nd).length - (intOf s14).toNat)
    case atStart => exact ⟨0, Nat.zero_le _, rfl, rfl, HOW.out, HBC.out, HNUM.out⟩
    case round =>
      rename_i s13 _
      obtain ⟨k, hk, rfl, rfl, ho, hB, hnu⟩ := hrel
      have HB := Lib.hid hB
      have HNU := Lib.hid hnu
      clear hnu
      obtain ⟨b1, b2, b3⟩ := SBD.out k
      have htk : ((m.rd vp).take k).length ≤ 2 := by rw [List.length_take]; have := HRL.out; omega
      obtain ⟨Q, hQ⟩ : ∃ q, q = ((m.rd vp).take k).foldl (m.stepD d vp) (m.sz vp, []) := ⟨_, rfl⟩
      rw [← hQ] at b1 b2 b3 ho ⊢
      have HQ := Lib.hid hQ
      obtain ⟨n, seen⟩ := Q
      dsimp only at b1 b2 b3 ho ⊢
      have n0 : -300000 ≤ n := by omega
      have n1 : n ≤ 300000 := by omega
      have hsl2 : seen.length ≤ 2 := by simpa using Nat.le_trans b3 (by simpa using htk)
      obtain ⟨sa, sc, hse, hsc, hsn⟩ := own_numsN (P := fun _ => True) ho (fun _ _ => trivial)
      have HO := Lib.hid ho
      have HSN := Lib.hid hsn
      have HSL2 := Lib.hid hsl2
      have hsi : (sc : Int) ≤ 9223372036854775807 := by omega
      have hsli : (seen.length : Int) ≤ 2 := by omega
      subst hse
      clear hQ ho hB hsn b1 b2 b3 htk hsc hsl2
      by_cases hkl : k < (insN nd).length
      · obtain ⟨x, hx⟩ : ∃ x, (m.rd vp)[k]? = some x := ⟨_, List.getElem?_eq_getElem (by rw [HRL.out]; exact hkl)⟩
        obtain ⟨gi, hat, hgo, hgl, hc⟩ := HNU.out k x hx
        subst hat
        have hxv := HIN.out x (List.mem_of_getElem? hx)
        have hxN : x ≤ ns.length := by omega
        have FR := Lib.hid (FRE.out x hxN wr (below_call BW.out HB.out))
        have ISE := Lib.hid (fun (W : World) (hW : Below wr.heap.size wr W) => rin_any sa sc seen x W (HSN.out.over hW) (by have := HSL2.out; omega))
        have NX := Lib.hid (show ((m.rd vp).take (k + 1)).foldl (m.stepD d vp) (m.sz vp, []) = m.stepD d vp (n, seen) x by rw [List.take_add_one, hx, List.foldl_append, ← HQ.out]; rfl)
        have SX := Lib.hid (show m.stepD d vp (n, seen) x = if m.free x = true ∨ x ∈ seen ∨ x = m.out then (n, seen) else ((if m.otherD d vp x then n else n - m.sz x), seen ++ [x]) from rfl)
        have k0 : (0 : Int) ≤ (k : Int) := by omega
        have k1 : (k : Int) < ((insN nd).length : Int) := by omega
        have HK := Lib.hid hkl
        have rg := RG.out.over HB.out
        have c0 := rg.cell 0 _ rfl
        have c1 := rg.cell 1 _ rfl
        have c2 := rg.cell 2 _ rfl
        have c3 := rg.cell 3 _ rfl
        have c4 := rg.cell 4 _ rfl
        have c5 := rg.cell 5 _ rfl
        have cl := rg.lt
        have HXN := Lib.hid hxN
        clear hkl hx hxv rg hk hxN hgo
        generalize hfx : m.free x = fx at *
        have HFX := Lib.hid hfx
        clear hfx
        cases fx
        · by_cases hsx : x ∈ seen
          · have hd : decide (x ∈ seen) = true := decide_eq_true hsx
            rw [hd] at ISE
            have HSX := Lib.hid hsx
            clear hd hsx
            go_wp2_with (first | (go_at_call 26; (with_reducible refine FR.out.mono ?_); rintro e w5 ⟨rfl, hb5⟩; have HB5 := Lib.hid (below_call HB.out hb5); have HBL5 := Lib.hid hb5; replace c5 := ((RG.out.over HB.out).over hb5).cell 5 _ rfl; replace cl := ((RG.out.over HB.out).over hb5).lt; replace hc := (hb5.cell (p := ⟨gi, k, none⟩) hgl).trans hc; replace hgl := Nat.lt_of_lt_of_le hgl hb5.size; clear hb5) | (go_at_call 27; (with_reducible refine (ISE.out _ HBL5.out).mono ?_); rintro e w6 ⟨rfl, hb6⟩; have HB6 := Lib.hid (below_call HB5.out hb6); have HBL6 := Lib.hid (below_call HBL5.out hb6); replace c5 := (RG.out.over (below_call HB5.out hb6)).cell 5 _ rfl; replace cl := (RG.out.over (below_call HB5.out hb6)).lt; clear hb6))
            exact ⟨⟨k + 1, by have := HK.out; omega, rfl, by rw [NX.out, SX.out, if_pos (Or.inr (Or.inl HSX.out))], by rw [NX.out, SX.out, if_pos (Or.inr (Or.inl HSX.out))]; exact own_overN HO.out (Out.of_below (fun _ => False) HBL6.out) (fun _ _ => id), HB6.out, HNU.out.over HBL6.out⟩, by have := HK.out; simp [intOf]; omega⟩
          · have hd : decide (x ∈ seen) = false := decide_eq_false hsx
            rw [hd] at ISE
            have HSX := Lib.hid hsx
            clear hd hsx
            by_cases hox : x = m.out
            · have t5 : ((x : Int) == go) = true := by rw [← MOO.out, hox]; simp
              have HOX := Lib.hid hox
              clear hox
              go_wp2_with (first | (go_at_call 26; (with_reducible refine FR.out.mono ?_); rintro e w5 ⟨rfl, hb5⟩; have HB5 := Lib.hid (below_call HB.out hb5); have HBL5 := Lib.hid hb5; replace c5 := ((RG.out.over HB.out).over hb5).cell 5 _ rfl; replace cl := ((RG.out.over HB.out).over hb5).lt; replace hc := (hb5.cell (p := ⟨gi, k, none⟩) hgl).trans hc; replace hgl := Nat.lt_of_lt_of_le hgl hb5.size; clear hb5) | (go_at_call 27; (with_reducible refine (ISE.out _ HBL5.out).mono ?_); rintro e w6 ⟨rfl, hb6⟩; have HB6 := Lib.hid (below_call HB5.out hb6); have HBL6 := Lib.hid (below_call HBL5.out hb6); replace c5 := (RG.out.over (below_call HB5.out hb6)).cell 5 _ rfl; replace cl := (RG.out.over (below_call HB5.out hb6)).lt; clear hb6))
              exact ⟨⟨k + 1, by have := HK.out; omega, rfl, by rw [NX.out, SX.out, if_pos (Or.inr (Or.inr HOX.out))], by rw [NX.out, SX.out, if_pos (Or.inr (Or.inr HOX.out))]; exact own_overN HO.out (Out.of_below (fun _ => False) HBL6.out) (fun _ _ => id), HB6.out, HNU.out.over HBL6.out⟩, by have := HK.out; simp [intOf]; omega⟩
            · have t5 : ((x : Int) == go) = false := by rw [← MOO.out]; simp; omega
              have HOX := Lib.hid hox
              clear hox
              have NXE := Lib.hid (show m.stepD d vp (n, seen) x = ((if m.otherD d vp x then n else n - m.sz x), seen ++ [x]) by rw [SX.out, if_neg (fun h => h.elim (by simp) (fun h => h.elim HSX.out HOX.out))])
              go_wp2_with (first | (go_at_call 26; (with_reducible refine FR.out.mono ?_); rintro e w5 ⟨rfl, hb5⟩; have HB5 := Lib.hid (below_call HB.out hb5); have HBL5 := Lib.hid hb5; replace c5 := ((RG.out.over HB.out).over hb5).cell 5 _ rfl; replace cl := ((RG.out.over HB.out).over hb5).lt; replace hc := (hb5.cell (p := ⟨gi, k, none⟩) hgl).trans hc; replace hgl := Nat.lt_of_lt_of_le hgl hb5.size; clear hb5) | (go_at_call 27; (with_reducible refine (ISE.out _ HBL5.out).mono ?_); rintro e w6 ⟨rfl, hb6⟩; have HB6 := Lib.hid (below_call HB5.out hb6); have HBL6 := Lib.hid (below_call HBL5.out hb6); replace c5 := (RG.out.over (below_call HB5.out hb6)).cell 5 _ rfl; replace cl := (RG.out.over (below_call HB5.out hb6)).lt; clear hb6) | (at_builtin; refine app_nat rfl (.tmp 55) (.tmp 57) rfl W1.heap.size (.slice sa seen.length sc) seen rfl (own_overN HO.out (Out.of_below (fun _ => False) HBL6.out) (fun _ _ => id)) x rfl (by have := HSL2.out; omega) HB6.out.size ?_; intro v' w8 h1 h2 h3; have HV := Lib.hid h1; have HN8 := Lib.hid h3; have HB8 := Lib.hid (h2.below HB6.out (Nat.le_refl _) (fun j hj => (World.ownsRow.lt HO.out j hj).1)); have HO8 := Lib.hid h2; clear h1 h2 h3))
              have HNU8 := Lib.hid (show NumsAt (fun g => v'.ownBlock ≠ some g) w8 (some ⟨gi, 0, none⟩) (m.rd vp) from
                ((((HNU.out.over HBL6.out).mono2 (Q := fun g => (Value.slice sa seen.length sc).ownBlock ≠ some g ∧ v'.ownBlock ≠ some g) (fun g hg hlt => ⟨hg, fun e => (HN8.out g e).elim hg (fun h => by omega)⟩)).outN HO8.out (fun j hj hs => hj.1 hs)).mono (fun j hj => hj.2)))
              have HNXT := Lib.hid (show m.otherD d vp x = (List.range (ns.length + 1)).any (m.other d vp x) by unfold Od.otherD; rw [MNN.out])
              have HO0 := Lib.hid (show (List.range 1).any (m.other d vp x) = false by
                have h0 : m.other d vp x 0 = false := by rw [OFT.out, OK.out.f0]; simp
                simp [List.range_succ, h0])
              clear c0 c1 c2 c3 c4 c5 cl hc hgl
              obtain ⟨W8, hW8⟩ : ∃ W, W = w8 := ⟨_, rfl⟩
              rw [← hW8] at HB8 HNU8 HV ⊢
              clear hW8
              go_loopw [16, 17] (fun s16 s17 wx => ∃ u : Nat, u ≤ ns.length ∧ s17 = .int .i64 ((u + 1 : Nat) : Int) ∧ s16 = .bool ((List.range (u + 1)).any (m.other d vp x)) ∧ Below W8.heap.size W8 wx) (fun _ s17 _ => ns.length + 2 - (intOf s17).toNat)
              case atStart => exact ⟨0, Nat.zero_le _, rfl, by rw [HO0.out], Below.refl _ _⟩
              case round =>
                obtain ⟨u, hu, rfl, rfl, hBx⟩ := hrel
                have HX := Lib.hid hBx
                have HX8 := Lib.hid (below_call HB8.out hBx)
                have HXW := Lib.hid (below_call BW.out HX8.out)
                obtain ⟨ob, hob⟩ : ∃ b, b = (List.range (u + 1)).any (m.other d vp x) := ⟨_, rfl⟩
                rw [← hob]
                have HOB := Lib.hid hob
                clear hBx hob
                by_cases hul : u < ns.length
                · obtain ⟨up, hup⟩ : ∃ y : Nat, y = u + 1 := ⟨_, rfl⟩
                  obtain ⟨nu, hnu⟩ : ∃ n, ns[u]? = some n := ⟨_, List.getElem?_eq_getElem hul⟩
                  obtain ⟨nb2, noff2, hne, _, hrg2⟩ := nds_range HN.out u nu hnu
                  injection hne with hne
                  injection hne with hne1 hne2 _
                  subst hne1 hne2
                  have HRU := Lib.hid (fun (W : World) (hW : Below wr.heap.size wr W) => NL.read nu W nb (noff + u * 26) (fun q v hv => ((HXW.out.trans (hW.mono HXW.out.size)).cell (p := ⟨nb, _, none⟩) HNB.out).trans (hrg2 q v hv)))
                  have HRU2 := Lib.hid (show m.rd up = (insN nu).map Int.toNat by rw [hup]; exact MRD.out u nu hnu)
                  have INU := Lib.hid (INP.out u nu hnu)
                  have tL2 := NL.len nu
                  have HAN := Lib.hid (show (List.range (up + 1)).any (m.other d vp x) = (ob || m.other d vp x up) by rw [List.range_succ (n := up), List.any_append, hup, ← HOB.out]; simp)
                  have HOT := Lib.hid (OFT.out x up)
                  have HNE := Lib.hid (MND.out up)
                  have FU := Lib.hid (FRE.out up (by omega) wr HXW.out)
                  have u0 : (0 : Int) ≤ (up : Int) := by omega
                  have u1 : (up : Int) < (ns.length : Int) + 1 := by omega
                  have uu0 : (0 : Int) ≤ (u : Int) := by omega
                  have uu1 : (u : Int) < (ns.length : Int) := by omega
                  have uw : IntKind.i64.wrap ((up : Int) - 1) = (u : Int) := by rw [hup]; simp [IntKind.wrap, IntKind.signed, IntKind.bits]; omega
                  have uw2 : (up : Int) - 1 = (u : Int) := by omega
                  have uw3 : IntKind.i64.wrap (u : Int) = (u : Int) := by simp [IntKind.wrap, IntKind.signed, IntKind.bits]; omega
                  have HU := Lib.hid hul
                  have HUP := Lib.hid hup
                  rw [← hup]
                  have rv := HVV.out.over HXW.out
                  have n8 := rv.cell up _ (boolsN_at (by rw [NLN.out]; omega))
                  have n8l := rv.lt
                  have rg := RG.out.over HX8.out
                  have c0 := rg.cell 0 _ rfl
                  have c1 := rg.cell 1 _ rfl
                  have c2 := rg.cell 2 _ rfl
                  have c3 := rg.cell 3 _ rfl
                  have c4 := rg.cell 4 _ rfl
                  have c5 := rg.cell 5 _ rfl
                  have cl := rg.lt
                  clear hul hnu hrg2 hup rv rg hu
                  have HB0 := Lib.hid (Below.refl wr.heap.size wr)
                  cases ob
                  · by_cases huv : up = vp
                    · have t7 : ((up : Int) != (vp : Int)) = false := by rw [huv]; simp
                      have HOF := Lib.hid (show m.other d vp x up = false by rw [HOT.out]; simp [huv])
                      clear huv
                      go_wp2_with fail
                      refine ⟨⟨up, by have := HU.out; have := HUP.out; omega, by first | rfl | (push_cast; rfl), by rw [HAN.out, HOF.out]; rfl, HX.out.trans (HB0.out.mono HX.out.size)⟩, by have := HU.out; have := HUP.out; simp [intOf]; omega⟩
                    · have t7 : ((up : Int) != (vp : Int)) = true := by simp; omega
                      have HUV := Lib.hid huv
                      clear huv
                      generalize hnv : nl.getD up false = nv at *
                      clear hnv
                      cases nv
                      · have HOF := Lib.hid (show m.other d vp x up = false by rw [HOT.out, HNE.out]; simp)
                        go_wp2_with fail
                        refine ⟨⟨up, by have := HU.out; have := HUP.out; omega, by first | rfl | (push_cast; rfl), by rw [HAN.out, HOF.out]; rfl, HX.out.trans (HB0.out.mono HX.out.size)⟩, by have := HU.out; have := HUP.out; simp [intOf]; omega⟩
                      · generalize hff : m.free up = ff at *
                        have HFF := Lib.hid hff
                        clear hff
                        cases ff
                        · by_cases hdd : up ∈ d
                          · have IND3 := Lib.hid (fun W hW => IND.out up W hW)
                            rw [show decide (up ∈ d) = true from decide_eq_true hdd] at IND3
                            have HOF := Lib.hid (show m.other d vp x up = false by rw [HOT.out]; simp [hdd])
                            clear hdd
                            go_wp2_with (first | (go_at_call 26; (with_reducible refine FU.out.mono ?_); rintro e w15 ⟨rfl, hb15⟩; have HB15 := Lib.hid hb15; replace c4 := ((RG.out.over HX8.out).over hb15).cell 4 _ rfl; replace cl := ((RG.out.over HX8.out).over hb15).lt; clear hb15) | (go_at_call 27; (with_reducible refine (IND3.out _ (HXW.out.trans (HB15.out.mono HXW.out.size))).mono ?_); rintro e w16 ⟨rfl, hb16⟩; have HB16 := Lib.hid (below_call HB15.out hb16); replace c4 := ((RG.out.over HX8.out).over HB16.out).cell 4 _ rfl; replace cl := ((RG.out.over HX8.out).over HB16.out).lt; have tR := HRU.out _ HB16.out; have hnb4 := Nat.lt_of_lt_of_le HNB.out (HXW.out.trans (HB16.out.mono HXW.out.size)).size; clear hb16))
                            refine ⟨⟨up, by have := HU.out; have := HUP.out; omega, by first | rfl | (push_cast; rfl), by rw [HAN.out, HOF.out]; rfl, HX.out.trans (HB16.out.mono HX.out.size)⟩, by have := HU.out; have := HUP.out; simp [intOf]; omega⟩
                          · have IND3 := Lib.hid (fun W hW => IND.out up W hW)
                            rw [show decide (up ∈ d) = false from decide_eq_false hdd] at IND3
                            have HOF := Lib.hid (show m.other d vp x up = decide (x ∈ m.rd up) by rw [HOT.out, HNE.out]; simp [hdd, HUV.out])
                            clear hdd
                            generalize hrr : decide (x ∈ m.rd up) = rr at *
                            have HRR := Lib.hid hrr
                            clear hrr
                            go_wp2_with (first | (go_at_call 26; (with_reducible refine FU.out.mono ?_); rintro e w15 ⟨rfl, hb15⟩; have HB15 := Lib.hid hb15; replace c4 := ((RG.out.over HX8.out).over hb15).cell 4 _ rfl; replace cl := ((RG.out.over HX8.out).over hb15).lt; clear hb15) | (go_at_call 27; (with_reducible refine (IND3.out _ (HXW.out.trans (HB15.out.mono HXW.out.size))).mono ?_); rintro e w16 ⟨rfl, hb16⟩; have HB16 := Lib.hid (below_call HB15.out hb16); replace c4 := ((RG.out.over HX8.out).over HB16.out).cell 4 _ rfl; replace cl := ((RG.out.over HX8.out).over HB16.out).lt; have tR := HRU.out _ HB16.out; have hnb4 := Nat.lt_of_lt_of_le HNB.out (HXW.out.trans (HB16.out.mono HXW.out.size)).size; clear hb16) | (go_at_call 28; (with_reducible refine (RI.out nu _).mono ?_); rintro e w17 ⟨at1, c17, rfl, hb17, hins⟩; have HB17 := Lib.hid (below_call HB16.out hb17); have hnn := ins_nums hins INU.out; rw [← HRU2.out] at hnn; have hri := rin_any at1 c17 (m.rd up) x w17 hnn (by rw [HRU2.out, List.length_map]; have := ins_len nu; omega); rw [HRR.out, HRU2.out, List.length_map] at hri; have INR3 := Lib.hid hri; clear hb17 hins hnn hri) | (go_at_call 27; (with_reducible refine INR3.out.mono ?_); rintro e w18 ⟨rfl, hb18⟩; have HB18 := Lib.hid (below_call HB17.out hb18); clear hb18))
                            refine ⟨⟨up, by have := HU.out; have := HUP.out; omega, by first | rfl | (push_cast; rfl), by rw [HAN.out, HOF.out]; rfl, HX.out.trans (HB18.out.mono HX.out.size)⟩, by have := HU.out; have := HUP.out; simp [intOf]; omega⟩
                        · have HOF := Lib.hid (show m.other d vp x up = false by rw [HOT.out]; simp)
                          go_wp2_with (first | (go_at_call 26; (with_reducible refine FU.out.mono ?_); rintro e w15 ⟨rfl, hb15⟩; have HB15 := Lib.hid hb15; replace c4 := ((RG.out.over HX8.out).over hb15).cell 4 _ rfl; replace cl := ((RG.out.over HX8.out).over hb15).lt; clear hb15))
                          refine ⟨⟨up, by have := HU.out; have := HUP.out; omega, by first | rfl | (push_cast; rfl), by rw [HAN.out, HOF.out]; rfl, HX.out.trans (HB15.out.mono HX.out.size)⟩, by have := HU.out; have := HUP.out; simp [intOf]; omega⟩
                  · go_wp2_with fail
                    refine ⟨⟨up, by have := HU.out; have := HUP.out; omega, by first | rfl | (push_cast; rfl), by rw [HAN.out, Bool.true_or], HX.out.trans (HB0.out.mono HX.out.size)⟩, by have := HU.out; have := HUP.out; simp [intOf]; omega⟩
                · obtain rfl : u = ns.length := by omega
                  have ux : ¬ (((ns.length + 1 : Nat) : Int) < (ns.length : Int) + 1) := by omega
                  have HOD := Lib.hid (show m.otherD d vp x = ob by rw [HNXT.out, ← HOB.out])
                  obtain ⟨sx, hsx⟩ : ∃ s, el[x]? = some s := ⟨_, List.getElem?_eq_getElem (by have h1 := ELN.out; have h2 := HXN.out; show x < el.length; rw [h1]; show x < ns.length + 1; omega)⟩
                  have hszx := MSZ.out x sx hsx
                  have hszb := FT.out.sz x
                  obtain ⟨shb, sho, hse, shl2, y0, y1, y2⟩ := (HSH.out.later HXW.out) x sx hsx
                  injection hse with hse
                  injection hse with hse1 hse2 _
                  subst hse1 hse2
                  simp only [Nat.zero_add] at y0 y1 y2
                  have HZX := Lib.hid hszx
                  have xx0 : (0 : Int) ≤ (x : Int) := by omega
                  have xx1 : (x : Int) < (ns.length : Int) + 1 := by have := HXN.out; omega
                  have SZX := Lib.hid (fun W => SZ.out sx W)
                  rw [hszx] at hszb
                  obtain ⟨zb0, zb1⟩ := hszb
                  generalize hzz : sizeG sx = zx at *
                  have HZZ := Lib.hid hzz
                  clear hul hu hsx hszx hzz
                  cases ob
                  · go_wp2_with (go_at_call 34; (with_reducible refine (SZX.out _).mono ?_); rintro e w20 ⟨rfl, hb20⟩; have HB20 := Lib.hid hb20; clear hb20)
                    exact ⟨⟨k + 1, by have := HK.out; omega, rfl, by rw [NX.out, NXE.out, HOD.out, HZX.out]; rfl, by rw [NX.out, NXE.out]; exact own_overN HV.out (Out.of_below (fun _ => False) (below_call HX.out HB20.out)) (fun _ _ => id), below_call HX8.out HB20.out, HNU8.out.over (below_call HX.out HB20.out)⟩, by have := HK.out; simp [intOf]; omega⟩
                  · go_wp2_with fail
                    exact ⟨⟨k + 1, by have := HK.out; omega, rfl, by rw [NX.out, NXE.out, HOD.out]; rfl, by rw [NX.out, NXE.out]; exact own_overN HV.out (Out.of_below (fun _ => False) HX.out) (fun _ _ => id), HX8.out, HNU8.out.over HX.out⟩, by have := HK.out; simp [intOf]; omega⟩
        · go_wp2_with (first | (go_at_call 26; (with_reducible refine FR.out.mono ?_); rintro e w5 ⟨rfl, hb5⟩; have HB5 := Lib.hid (below_call HB.out hb5); have HBL5 := Lib.hid hb5; replace c5 := ((RG.out.over HB.out).over hb5).cell 5 _ rfl; replace cl := ((RG.out.over HB.out).over hb5).lt; replace hc := (hb5.cell (p := ⟨gi, k, none⟩) hgl).trans hc; replace hgl := Nat.lt_of_lt_of_le hgl hb5.size; clear hb5))
          exact ⟨⟨k + 1, by have := HK.out; omega, rfl, by rw [NX.out, SX.out, if_pos (Or.inl trivial)], by rw [NX.out, SX.out, if_pos (Or.inl trivial)]; exact own_overN HO.out (Out.of_below (fun _ => False) HBL5.out) (fun _ _ => id), HB5.out, HNU.out.over HBL5.out⟩, by have := HK.out; simp [intOf]; omega⟩
      · obtain rfl : k = (insN nd).length := by omega
        have k1 : ¬ (((insN nd).length : Int) < ((insN nd).length : Int)) := by omega
        have HE := Lib.hid (show n = m.moreD d vp by rw [MD.out]; have := HQ.out; rw [← HRL.out, List.take_length] at this; rw [← this])
        clear hkl hk
        go_wp2_with fail
        go_ret
        exact ⟨by rw [← HE.out]; rfl, below_call BW.out HB.out⟩
end Go.Proofs.Ytdbfakllcaojcaa

namespace Go.Proofs.Ytdbfakllcaojcaa
open Go Go.RowKit
set_option linter.unusedVariables false
set_option linter.unusedSimpArgs false
set_option maxRecDepth 100000

theorem ShsAt.outN {w w' : World} {sh : Nat} {l : List Sh} {S : Nat → Prop} (h : ShsAt w (some ⟨sh, 0, none⟩) l) (k : Out S w w') (hs : ¬ S sh) : ShsAt w' (some ⟨sh, 0, none⟩) l := by
  intro i s hi
  obtain ⟨b, off, hb, hlt, h0, h1, h2⟩ := h i s hi
  injection hb with hb
  injection hb with hb1 hb2 _
  subst hb1 hb2
  exact ⟨sh, 0, rfl, Nat.lt_of_lt_of_le hlt k.size, (k.cell (p := ⟨sh, _, none⟩) hlt hs).trans h0, (k.cell (p := ⟨sh, _, none⟩) hlt hs).trans h1, (k.cell (p := ⟨sh, _, none⟩) hlt hs).trans h2⟩
theorem orderD_le {m : Od} (H : m.Ok) : ∀ n, ∃ k, k ≤ m.todo.length ∧ m.orderD n = m.order k
  | 0 => ⟨0, Nat.zero_le _, rfl⟩
  | n + 1 => by
    obtain ⟨k, hk, e⟩ := orderD_le H n
    by_cases h : m.nextD (m.orderD n) = 0
    · exact ⟨k, hk, by unfold Od.orderD; rw [if_pos h, e]⟩
    · by_cases hl : k < m.todo.length
      · exact ⟨k + 1, hl, by unfold Od.orderD Od.order; rw [if_neg h, e, next_nextD H]⟩
      · obtain rfl : k = m.todo.length := by omega
        exact absurd (by rw [e, next_nextD H]; exact next_none (fun v hv => order_all H hv)) h
theorem moreD_bd {m : Od} (H : m.Ok) (F : m.Fit) (d : List Nat) (v : Nat) : -200000 ≤ m.moreD d v ∧ m.moreD d v ≤ 100000 := by
  have h := step_bd F d v (m.rd v) (m.sz v, [])
  have h2 := H.r2 v
  have h3 := F.sz v
  unfold Od.moreD
  dsimp only at h
  omega
theorem pickD_bd {m : Od} (H : m.Ok) (F : m.Fit) (d : List Nat) : ∀ (l : List Nat) (q : Nat × Int), q.1 ≤ m.N → -200000 ≤ q.2 → q.2 ≤ 100000 → (∀ v ∈ l, v ≤ m.N) → (l.foldl (m.pickD d) q).1 ≤ m.N ∧ -200000 ≤ (l.foldl (m.pickD d) q).2 ∧ (l.foldl (m.pickD d) q).2 ≤ 100000
  | [], q, h1, h2, h3, _ => ⟨h1, h2, h3⟩
  | v :: r, q, h1, h2, h3, hl => by
    rw [List.foldl_cons]
    have hb := moreD_bd H F d v
    have hv := hl v (List.mem_cons_self ..)
    have : (m.pickD d q v).1 ≤ m.N ∧ -200000 ≤ (m.pickD d q v).2 ∧ (m.pickD d q v).2 ≤ 100000 := by
      unfold Od.pickD
      split
      · split
        · exact ⟨hv, hb⟩
        · exact ⟨h1, h2, h3⟩
      · exact ⟨h1, h2, h3⟩
    exact pickD_bd H F d r _ this.1 this.2.1 this.2.2 (fun x hx => hl x (List.mem_cons_of_mem _ hx))
set_option maxHeartbeats 8000000 in
theorem rorder_any (g : GrQ) (w : World) (he : (graphE g.gr).1 = 0) (hC : CnsIn w g.ca g.C g.cc) (hN : NdsIn w g.na g.ns g.nc) (hn : g.ns.length ≤ 1000) :
    Calls Try.prog 25 #[g.val] w fun e w' => ∃ v, e = .returned v ∧ Below w.heap.size w w' ∧ OwnL w' w.heap.size v (ordG g) := by
  obtain ⟨T, Z, Z0, NL⟩ := node_type
  have hL := NL.load
  have tA := NL.agg
  have tS := NL.size
  have OK := Lib.hid (odM_ok he)
  have FT := Lib.hid (odM_fit (needL g) hn)
  have MNN := Lib.hid (show (odM g (needL g)).N = g.ns.length from rfl)
  have MRD := Lib.hid (show ∀ k n, g.ns[k]? = some n → (odM g (needL g)).rd (k + 1) = (insN n).map Int.toNat from fun k n h => by
    show (if k + 1 = 0 then [] else insF g.ns (k + 1 - 1)) = _
    rw [if_neg (by omega), Nat.add_sub_cancel, insF_at h])
  have MND := Lib.hid (show ∀ v, (odM g (needL g)).need v = (needL g).getD v false from fun v => rfl)
  have AHD := Lib.hid (graph_ahead (g := g.gr) he)
  have NLN := Lib.hid (needL_len he)
  have ELN := Lib.hid (graph_ok he).2
  have OG := Lib.hid (show ordG g = (odM g (needL g)).orderD ((odM g (needL g)).N + 1) from (order_same (odM_ok he)).symm)
  have FRE := Lib.hid (fun (u : Nat) (hu : u ≤ g.ns.length) (W : World) (hb : Below w.heap.size w W) => rfree_any g (needL g) u hu W (FlatIn.later hN hb) hn)
  have RS := Lib.hid (fun (W : World) (hb : Below w.heap.size w W) => rshapes_any g W (hC.later hb) (FlatIn.later hN hb) hn)
  have RND := Lib.hid (fun (W : World) (hb : Below w.heap.size w W) => by
    have h := rneeded_any g W g.o.toNat (by have h := (graph_ins (g := g.gr) he).2.1; have h1 : 0 ≤ g.o := h; omega) (out_le he) (FlatIn.later hN hb) hn (graph_ahead (g := g.gr) he)
    rw [show fwsN (insF g.ns) g.ns.length (g.ns.length + 1) (nd0 g.ns.length g.o.toNat) = needL g from (need_same (insF_le he) (out_le he)).symm] at h
    exact h)
  have RMO := Lib.hid (fun (W : World) (hb : Below w.heap.size w W) (sh scap V vc dc : Nat) (da : Option Addr) (d : List Nat) (v : Nat) => rmore_any (P := fun _ => True) g W he (FlatIn.later hN hb) hn sh scap V vc dc da d v)
  unfold RShPost at RS
  rw [he] at RS
  generalize hm : odM g (needL g) = m at *
  generalize ordG g = og at *
  generalize needL g = nl at *
  generalize (graphE g.gr).2 = el at *
  obtain ⟨gx, gy, gz, ca, cc, C, na, nc, ns, go⟩ := g
  unfold GrQ.val at FRE RS RND RMO ⊢
  dsimp only at *
  have HN := Lib.hid hN
  have hnl := hN.1
  rw [List.length_map] at hnl
  have hcb : nc ≤ 9223372036854775807 := hN.2.1
  have PBD := Lib.hid (fun d k (hk : k ≤ ns.length) => pickD_bd OK.out FT.out d (List.range (k + 1)) (0, 0) (Nat.zero_le _) (by decide) (by decide) (fun v hv => by have := List.mem_range.1 hv; rw [MNN.out]; omega))
  have MBD := Lib.hid (fun d v => moreD_bd OK.out FT.out d v)
  have RG := Lib.hid (RowAt.new w [.int .i64 gx, .int .i64 gy, .int .i64 gz, .slice ca C.length cc, .slice na ns.length nc, .int .i64 go] 26)
  have BW := Lib.hid (Below.alloc (Below.refl w.heap.size w) (Nat.le_refl _) (.cells #[.int .i64 gx, .int .i64 gy, .int .i64 gz, .slice ca C.length cc, .slice na ns.length nc, .int .i64 go] 26))
  have RI := Lib.hid (fun n W => rins n W)
  clear hm hN hC
  go_enter Try.func25, Try.ntmps25
  simp only [hL]
  clear hL
  go_upto_region 1 with fail
  obtain ⟨W1, hW1⟩ : ∃ W, W = w.alloc (.cells #[.int .i64 gx, .int .i64 gy, .int .i64 gz, .slice ca C.length cc, .slice na ns.length nc, .int .i64 go] 26) := ⟨_, rfl⟩
  have hE : w.alloc (.cells [Value.int .i64 gx, .int .i64 gy, .int .i64 gz, .slice ca C.length cc, .slice na ns.length nc, .int .i64 go].toArray 26) = W1 := by rw [hW1]
  rw [hE] at RG
  rw [← hW1] at BW ⊢
  clear hE hW1
  have rg := RG.out
  have c0 := rg.cell 0 _ rfl
  have c1 := rg.cell 1 _ rfl
  have c2 := rg.cell 2 _ rfl
  have c3 := rg.cell 3 _ rfl
  have c4 := rg.cell 4 _ rfl
  have c5 := rg.cell 5 _ rfl
  have cl := rg.lt
  clear rg
  go_upto_region 2 with (go_at_call 12; (with_reducible refine (RS.out _ BW.out).mono ?_); rintro e w2 ⟨v, rfl, hb2, _, hyes⟩; have hown := hyes (by trivial); obtain ⟨sh, scap, rfl, hsb, hsl, hsh⟩ := own_sh hown (by rw [ELN.out]; show 0 < ns.length + 1; omega); have ell : el.length = ns.length + 1 := ELN.out; rw [ell]; have HSH := Lib.hid hsh; have HSL := Lib.hid hsl; have HB2 := Lib.hid hb2; replace c0 := (RG.out.over hb2).cell 0 _ rfl; replace c1 := (RG.out.over hb2).cell 1 _ rfl; replace c2 := (RG.out.over hb2).cell 2 _ rfl; replace c3 := (RG.out.over hb2).cell 3 _ rfl; replace c4 := (RG.out.over hb2).cell 4 _ rfl; replace c5 := (RG.out.over hb2).cell 5 _ rfl; replace cl := (RG.out.over hb2).lt; clear hb2 hyes hown hsh hsl hsb ell)
  go_upto_region 4 with (go_at_call 22; (with_reducible refine (RND.out _ (below_call BW.out HB2.out)).mono ?_); rintro e w3 ⟨V, vc, rfl, hV, hrow, hb3⟩; have HV := Lib.hid hrow; have HB3 := Lib.hid (below_call HB2.out hb3); have HSH3 := Lib.hid (HSH.out.later hb3); have HSL3 := Lib.hid (Nat.lt_of_lt_of_le HSL.out hb3.size); clear hb3 hrow hV)
  clear c0 c1 c2 c3 c4 c5 cl HSH HSL HB2
  have hal := Below.alloc (Below.refl w3.heap.size w3) (Nat.le_refl _) (.cells #[] 3)
  have HO4 := Lib.hid (own_newN w3 w3.heap.size (Nat.le_refl _))
  have HV4 := Lib.hid (HV.out.over hal)
  have HSH4 := Lib.hid (HSH3.out.later hal)
  have HSL4 := Lib.hid (Nat.lt_of_lt_of_le HSL3.out hal.size)
  have HB4 := Lib.hid (below_call HB3.out hal)
  have HD := Lib.hid (fun n => orderD_le OK.out n)
  have TDS := Lib.hid (todo_short OK.out)
  have hVB0 := HV.out.lt
  have hSB0 := HSL3.out
  obtain ⟨B, hB⟩ : ∃ B, B = w3.heap.size := ⟨_, rfl⟩
  rw [← hB] at hVB0 hSB0
  have HVB := Lib.hid hVB0
  have HSB := Lib.hid hSB0
  clear hVB0 hSB0
  have hB3 : W1.heap.size ≤ B := by rw [hB]; exact HB3.out.size
  have hBW : w.heap.size ≤ W1.heap.size := BW.out.size
  rw [← hB] at HO4 ⊢
  clear hal HV HSH3 HSL3 HB3 hB
  obtain ⟨W4, hW4⟩ : ∃ W, W = w3.alloc (.cells #[] 3) := ⟨_, rfl⟩
  rw [← hW4] at HO4 HV4 HSH4 HSL4 HB4 ⊢
  clear hW4
  have HBB := Lib.hid hB3
  go_loopw [6, 7] (fun s6 s7 wr => ∃ n : Nat, n ≤ ns.length + 1 ∧ s7 = .int .i64 n ∧ OwnL wr B s6 (m.orderD n) ∧ Out (fun j => B ≤ j) W4 wr) (fun _ s7 _ => ns.length + 1 - (intOf s7).toNat)
  case atStart => exact ⟨0, Nat.zero_le _, rfl, HO4.out, Out.refl _ _⟩
  case round =>
    rename_i s6 _
    obtain ⟨n, hn2, rfl, ho, hO⟩ := hrel
    obtain ⟨kd, hkd, hde⟩ := HD.out n
    have hdl : (m.orderD n).length ≤ 1000 := by rw [hde, (order_spec OK.out kd hkd).2.1]; have := TDS.out; have := MNN.out; omega
    obtain ⟨d, hd⟩ : ∃ d, d = m.orderD n := ⟨_, rfl⟩
    rw [← hd] at ho hdl
    have HDE := Lib.hid hd
    obtain ⟨da, dc, hse, hdc, hnd⟩ := own_numsN (P := fun _ => True) ho (fun _ _ => trivial)
    subst hse
    have HO := Lib.hid ho
    have HND := Lib.hid hnd
    have HDL := Lib.hid hdl
    have HOU := Lib.hid hO
    have HBn := Lib.hid (hO.below HB4.out (Nat.le_refl _) (fun j hj => Nat.le_trans HBB.out hj))
    have HVn := Lib.hid (HV4.out.outN hO (fun h => by have := HVB.out; omega))
    have HSHn := Lib.hid (HSH4.out.outN hO (fun h => by have := HSB.out; omega))
    have HSLn := Lib.hid (Nat.lt_of_lt_of_le HSL4.out hO.size)
    have HBsz := Lib.hid (show B ≤ wr.heap.size from Nat.le_trans (Nat.le_of_lt (World.ownsRow.lt HO4.out B rfl).2) hO.size)
    have hdci : (dc : Int) ≤ 9223372036854775807 := by omega
    have hdli : (d.length : Int) ≤ 1000 := by omega
    obtain ⟨wn, hwn⟩ : ∃ W, W = wr := ⟨_, rfl⟩
    rw [← hwn] at HO HND HOU HBn HVn HSHn HSLn HBsz ⊢
    clear hwn ho hnd hO hd hde hkd hdl
    by_cases hnl2 : n < ns.length + 1
    · have hn3 : (n : Int) < (ns.length : Int) + 1 := by omega
      have HN2 := Lib.hid hnl2
      clear hnl2 hn2
      have F0 := Lib.hid (show (List.range 1).foldl (m.pickD d) (0, 0) = (0, 0) by
        have h0 : m.canD d 0 = false := by unfold Od.canD; rw [OK.out.f0]; simp
        simp [List.range_succ, Od.pickD, h0])
      go_wp2_with fail
      go_loopw [8, 9, 10] (fun s8 s9 s10 wx => ∃ v : Nat, v ≤ ns.length ∧ s10 = .int .i64 ((v + 1 : Nat) : Int) ∧ s8 = .int .i64 (((List.range (v + 1)).foldl (m.pickD d) (0, 0)).1 : Nat) ∧ s9 = .int .i64 ((List.range (v + 1)).foldl (m.pickD d) (0, 0)).2 ∧ Below wn.heap.size wn wx) (fun _ _ s10 _ => ns.length + 2 - (intOf s10).toNat)
      case atStart => exact ⟨0, Nat.zero_le _, rfl, by rw [F0.out]; rfl, by rw [F0.out], Below.refl _ _⟩
      case round =>
        obtain ⟨v, hv, rfl, rfl, rfl, hBx⟩ := hrel
        have HX := Lib.hid hBx
        have HX1 := Lib.hid (below_call HBn.out hBx)
        have HXW := Lib.hid (below_call BW.out HX1.out)
        obtain ⟨p1, p2, p3⟩ := PBD.out d v hv
        obtain ⟨Q, hQ⟩ : ∃ q, q = (List.range (v + 1)).foldl (m.pickD d) (0, 0) := ⟨_, rfl⟩
        rw [← hQ] at p1 p2 p3 ⊢
        have HQ := Lib.hid hQ
        obtain ⟨bs, ls⟩ := Q
        dsimp only at p1 p2 p3 ⊢
        rw [MNN.out] at p1
        clear hBx hQ
        by_cases hvl : v < ns.length
        · obtain ⟨vp, hvp⟩ : ∃ y : Nat, y = v + 1 := ⟨_, rfl⟩
          obtain ⟨nd, hnd⟩ : ∃ n, ns[v]? = some n := ⟨_, List.getElem?_eq_getElem hvl⟩
          obtain ⟨nb, noff, hna, hnb, hrg⟩ := nds_range HN.out v nd hnd
          subst hna
          have HRG := Lib.hid (fun (W : World) (hW : Below w.heap.size w W) => NL.read nd W nb (noff + v * 26) (fun q u hu => (hW.cell (p := ⟨nb, _, none⟩) hnb).trans (hrg q u hu)))
          have HRD := Lib.hid (show m.rd vp = (insN nd).map Int.toNat by rw [hvp]; exact MRD.out v nd hnd)
          have HAH := Lib.hid (show ∀ z ∈ insN nd, ∃ y : Nat, z = (y : Int) ∧ y ≤ ns.length from fun z hz => by
            have := AHD.out v nd hnd z hz
            exact ⟨z.toNat, by omega, by omega⟩)
          have HNB := Lib.hid hnb
          have tLn := NL.len nd
          have FV := Lib.hid (FRE.out vp (by omega) wr HXW.out)
          have HIN := Lib.hid (fun (u : Nat) (W : World) (hW : Below wn.heap.size wn W) => rin_any da dc d u W (HND.out.over hW) (by have := HDL.out; omega))
          have HNX := Lib.hid (show (List.range (vp + 1)).foldl (m.pickD d) (0, 0) = m.pickD d (bs, ls) vp by rw [List.range_succ (n := vp), List.foldl_append, hvp, ← HQ.out]; rfl)
          have HCD := Lib.hid (show m.canD d vp = (nl.getD vp false && !m.free vp && !decide (vp ∈ d) && (m.rd vp).all (m.there d)) by unfold Od.canD; rw [MND.out])
          have v0 : (0 : Int) ≤ (vp : Int) := by omega
          have v1 : (vp : Int) < (ns.length : Int) + 1 := by omega
          have vv0 : (0 : Int) ≤ (v : Int) := by omega
          have vv1 : (v : Int) < (ns.length : Int) := by omega
          have uw : IntKind.i64.wrap ((vp : Int) - 1) = (v : Int) := by rw [hvp]; simp [IntKind.wrap, IntKind.signed, IntKind.bits]; omega
          have uw2 : (vp : Int) - 1 = (v : Int) := by omega
          have uw3 : IntKind.i64.wrap (v : Int) = (v : Int) := by simp [IntKind.wrap, IntKind.signed, IntKind.bits]; omega
          have HVL := Lib.hid hvl
          have HVP := Lib.hid hvp
          rw [← hvp]
          have rv := HVn.out.over HX.out
          have n8 := rv.cell vp _ (boolsN_at (by rw [NLN.out]; omega))
          have n8l := rv.lt
          have rg := RG.out.over HX1.out
          have c0 := rg.cell 0 _ rfl
          have c1 := rg.cell 1 _ rfl
          have c2 := rg.cell 2 _ rfl
          have c3 := rg.cell 3 _ rfl
          have c4 := rg.cell 4 _ rfl
          have c5 := rg.cell 5 _ rfl
          have cl := rg.lt
          clear hvl hnd hrg hvp rv rg hv
          obtain ⟨wv, hwv⟩ : ∃ W, W = wr := ⟨_, rfl⟩
          rw [← hwv] at HX HX1 HXW FV n8 n8l c0 c1 c2 c3 c4 c5 cl ⊢
          clear hwv
          go_upto_region 10 with fail
          go_cut [11] (fun s11 wx => s11 = .bool (nl.getD vp false && !m.free vp && !decide (vp ∈ d)) ∧ Below wv.heap.size wv wx)
          case first =>
            have HIV := Lib.hid (fun W hW => HIN.out vp W hW)
            generalize nl.getD vp false = nv at *
            generalize m.free vp = fv at *
            generalize decide (vp ∈ d) = dv at *
            cases nv
            · go_wp2_with fail
              go_meet
              exact ⟨rfl, Below.refl _ _⟩
            · cases fv
              · go_wp2_with (first | (go_at_call 26; (with_reducible refine FV.out.mono ?_); rintro e w5 ⟨rfl, hb5⟩; have HB5 := Lib.hid hb5; clear hb5) | (go_at_call 27; (with_reducible refine (HIV.out _ (HX.out.trans (HB5.out.mono HX.out.size))).mono ?_); rintro e w6 ⟨rfl, hb6⟩; have HB6 := Lib.hid (below_call HB5.out hb6); clear hb6))
                go_meet
                exact ⟨by simp, HB6.out⟩
              · go_wp2_with (first | (go_at_call 26; (with_reducible refine FV.out.mono ?_); rintro e w5 ⟨rfl, hb5⟩; have HB5 := Lib.hid hb5; clear hb5))
                go_meet
                exact ⟨rfl, HB5.out⟩
          case rest =>
            obtain ⟨rfl, hbc⟩ := hcut
            obtain ⟨ok0, hok0⟩ : ∃ b, b = (nl.getD vp false && !m.free vp && !decide (vp ∈ d)) := ⟨_, rfl⟩
            rw [← hok0] at HCD ⊢
            have HC1 := Lib.hid (below_call HX1.out hbc)
            have HC := Lib.hid (HX.out.trans (hbc.mono HX.out.size))
            have HCW := Lib.hid (below_call BW.out HC1.out)
            have c4' := (RG.out.over HC1.out).cell 4 _ rfl
            have cl' := (RG.out.over HC1.out).lt
            have tR := HRG.out _ HCW.out
            have hnb2 := Nat.lt_of_lt_of_le HNB.out HCW.out.size
            clear hbc hok0 n8 n8l c0 c1 c2 c3 c4 c5 cl
            go_wp2_with (go_at_call 28; (with_reducible refine (RI.out nd _).mono ?_); rintro e w7 ⟨at0, ic, rfl, hb7, hin⟩; have HI7 := Lib.hid (HC.out.trans (hb7.mono HC.out.size)); have HIA := Lib.hid hin; clear hb7 hin)
            have hil : ((insN nd).length : Int) ≤ 2 := by have := ins_len nd; omega
            clear c4' cl' tR hnb2
            go_loopw [11, 13] (fun s11 s13 wx => ∃ q : Nat, q ≤ (insN nd).length ∧ s13 = .int .i64 q ∧ s11 = .bool (ok0 && ((m.rd vp).take q).all (m.there d)) ∧ Below w7.heap.size w7 wx) (fun _ s13 _ => (insN nd).length - (intOf s13).toNat)
            case atStart => exact ⟨0, Nat.zero_le _, rfl, by simp, Below.refl _ _⟩
            case round =>
              obtain ⟨q, hq, rfl, rfl, hBq⟩ := hrel
              have HXQ := Lib.hid hBq
              have HXD := Lib.hid (HI7.out.trans (hBq.mono HI7.out.size))
              obtain ⟨oq, hoq⟩ : ∃ b, b = (ok0 && ((m.rd vp).take q).all (m.there d)) := ⟨_, rfl⟩
              rw [← hoq]
              have HOQ := Lib.hid hoq
              clear hBq hoq
              obtain ⟨wo2, hwo2⟩ : ∃ W : World, W = wr := ⟨_, rfl⟩
              rw [← hwo2] at HXQ HXD ⊢
              clear hwo2
              have BQ1 := Lib.hid (below_call HBn.out HXD.out)
              have BQW := Lib.hid (below_call BW.out BQ1.out)
              by_cases hql : q < (insN nd).length
              · obtain ⟨z, hzz⟩ : ∃ z, (insN nd)[q]? = some z := ⟨_, List.getElem?_eq_getElem hql⟩
                obtain ⟨y, rfl, hyN⟩ := HAH.out z (List.mem_of_getElem? hzz)
                obtain ⟨gi, hat, _, hgi, hci⟩ := HIA.out q _ hzz
                subst hat
                have PQ := Lib.hid (show ∀ W', Below wo2.heap.size wo2 W' → (fun (w' : World) => w'.cell? ⟨w.heap.size, 0, none⟩ = some (.int .i64 gx) ∧ w'.cell? ⟨w.heap.size, 1, none⟩ = some (.int .i64 gy) ∧ w'.cell? ⟨w.heap.size, 2, none⟩ = some (.int .i64 gz) ∧ w'.cell? ⟨w.heap.size, 3, none⟩ = some (.slice ca C.length cc) ∧ w'.cell? ⟨w.heap.size, 4, none⟩ = some (.slice (some ⟨nb, noff, none⟩) ns.length nc) ∧ w'.cell? ⟨w.heap.size, 5, none⟩ = some (.int .i64 go) ∧ w.heap.size < w'.heap.size ∧ w'.cell? ⟨gi, q, none⟩ = some (.int .i64 (y : Int)) ∧ gi < w'.heap.size) W' from fun W' h => ⟨(RG.out.over (below_call BQ1.out h)).cell 0 _ rfl, (RG.out.over (below_call BQ1.out h)).cell 1 _ rfl, (RG.out.over (below_call BQ1.out h)).cell 2 _ rfl, (RG.out.over (below_call BQ1.out h)).cell 3 _ rfl, (RG.out.over (below_call BQ1.out h)).cell 4 _ rfl, (RG.out.over (below_call BQ1.out h)).cell 5 _ rfl, (RG.out.over (below_call BQ1.out h)).lt, ((HXQ.out.trans (h.mono HXQ.out.size)).cell (p := ⟨gi, q, none⟩) hgi).trans hci, Nat.lt_of_lt_of_le hgi (HXQ.out.trans (h.mono HXQ.out.size)).size⟩)
                have FY := Lib.hid (fun W hW => FRE.out y hyN W hW)
                have IY := Lib.hid (fun W hW => HIN.out y W hW)
                have HAL := Lib.hid (show (ok0 && ((m.rd vp).take (q + 1)).all (m.there d)) = (oq && (m.free y || decide (y ∈ d))) by
                  rw [List.take_add_one, HRD.out, List.getElem?_map, hzz, List.all_append, HOQ.out, HRD.out]
                  simp [Od.there, Bool.and_assoc])
                have q0 : (0 : Int) ≤ (q : Int) := by omega
                have q1 : (q : Int) < ((insN nd).length : Int) := by omega
                have HQ := Lib.hid hql
                clear hzz hql hq hci hgi
                generalize decide (y ∈ d) = yd at *
                generalize m.free y = fy at *
                go_upto_region 15 with fail
                cases oq
                · refine wp_region_held_drew (S := (fun (w' : World) => w'.cell? ⟨w.heap.size, 0, none⟩ = some (.int .i64 gx) ∧ w'.cell? ⟨w.heap.size, 1, none⟩ = some (.int .i64 gy) ∧ w'.cell? ⟨w.heap.size, 2, none⟩ = some (.int .i64 gz) ∧ w'.cell? ⟨w.heap.size, 3, none⟩ = some (.slice ca C.length cc) ∧ w'.cell? ⟨w.heap.size, 4, none⟩ = some (.slice (some ⟨nb, noff, none⟩) ns.length nc) ∧ w'.cell? ⟨w.heap.size, 5, none⟩ = some (.int .i64 go) ∧ w.heap.size < w'.heap.size ∧ w'.cell? ⟨gi, q, none⟩ = some (.int .i64 (y : Int)) ∧ gi < w'.heap.size)) (by kernel_rfl) (by exact PQ.out _ (Below.refl _ _).drew) (fun hHeld => ?_)
                  refine wpAnyH_take (i := 0) (oi := _) (v := ?va0) rfl (by kernel_rfl) (by kernel_rfl) (by kernel_rfl) (fun _ _ _ h => h) (Or.inl ⟨by rfl, ?ya0⟩) hHeld ?ra0
                  case ya0 => (intro wq hSw; (try dsimp only at hSw); go_simp; try with_reducible rfl)
                  refine wpAnyH_take (i := 1) (oi := _) (v := ?va1) rfl (by kernel_rfl) (by kernel_rfl) (by kernel_rfl) (fun _ _ _ h => h) (Or.inl ⟨by rfl, ?ya1⟩) hHeld ?ra1
                  case ya1 => (intro wq hSw; (try dsimp only at hSw); go_simp; try with_reducible rfl)
                  try simp only [Act.put, List.getElem_toArray, List.getElem_cons_zero, List.getElem_cons_succ, List.setIfInBounds_toArray, List.set_cons_zero, List.set_cons_succ]
                  refine wpAnyH_take (i := 2) (oi := _) (v := undef) rfl (by kernel_rfl) (by kernel_rfl) (by kernel_rfl) (fun _ _ _ h => h) (Or.inr ⟨by rfl, rfl⟩) hHeld ?_
                  refine wpAnyH_take (i := 3) (oi := _) (v := undef) rfl (by kernel_rfl) (by kernel_rfl) (by kernel_rfl) (fun _ _ _ h => h) (Or.inr ⟨by rfl, rfl⟩) hHeld ?_
                  try simp only [Act.put, List.getElem_toArray, List.getElem_cons_zero, List.getElem_cons_succ, List.setIfInBounds_toArray, List.set_cons_zero, List.set_cons_succ]
                  refine wpAnyH_take (i := 4) (oi := _) (v := undef) rfl (by kernel_rfl) (by kernel_rfl) (by kernel_rfl) (fun _ _ _ h => h) (Or.inr ⟨by rfl, rfl⟩) hHeld ?_
                  refine wpAnyH_take (i := 5) (oi := _) (v := undef) rfl (by kernel_rfl) (by kernel_rfl) (by kernel_rfl) (fun _ _ _ h => h) (Or.inr ⟨by rfl, rfl⟩) hHeld ?_
                  try simp only [Act.put, List.getElem_toArray, List.getElem_cons_zero, List.getElem_cons_succ, List.setIfInBounds_toArray, List.set_cons_zero, List.set_cons_succ]
                  refine wpAnyH_take (i := 6) (oi := _) (v := undef) rfl (by kernel_rfl) (by kernel_rfl) (by kernel_rfl) (fun _ _ _ h => h) (Or.inr ⟨by rfl, rfl⟩) hHeld ?_
                  refine wpAnyH_take (i := 7) (oi := _) (v := undef) rfl (by kernel_rfl) (by kernel_rfl) (by kernel_rfl) (fun _ _ _ h => h) (Or.inr ⟨by rfl, rfl⟩) hHeld ?_
                  try simp only [Act.put, List.getElem_toArray, List.getElem_cons_zero, List.getElem_cons_succ, List.setIfInBounds_toArray, List.set_cons_zero, List.set_cons_succ]
                  refine wpAnyH_take (i := 8) (oi := _) (v := undef) rfl (by kernel_rfl) (by kernel_rfl) (by kernel_rfl) (fun _ _ _ h => h) (Or.inr ⟨by rfl, rfl⟩) hHeld ?_
                  refine wpAnyH_take (i := 9) (oi := _) (v := undef) rfl (by kernel_rfl) (by kernel_rfl) (by kernel_rfl) (fun _ _ _ h => h) (Or.inr ⟨by rfl, rfl⟩) hHeld ?_
                  try simp only [Act.put, List.getElem_toArray, List.getElem_cons_zero, List.getElem_cons_succ, List.setIfInBounds_toArray, List.set_cons_zero, List.set_cons_succ]
                  refine wpAnyH_take (i := 10) (oi := _) (v := undef) rfl (by kernel_rfl) (by kernel_rfl) (by kernel_rfl) (fun _ _ _ h => h) (Or.inr ⟨by rfl, rfl⟩) hHeld ?_
                  refine wpAnyH_take (i := 11) (oi := _) (v := undef) rfl (by kernel_rfl) (by kernel_rfl) (by kernel_rfl) (fun _ _ _ h => h) (Or.inr ⟨by rfl, rfl⟩) hHeld ?_
                  try simp only [Act.put, List.getElem_toArray, List.getElem_cons_zero, List.getElem_cons_succ, List.setIfInBounds_toArray, List.set_cons_zero, List.set_cons_succ]
                  refine wpAnyH_take (i := 12) (oi := _) (v := undef) rfl (by kernel_rfl) (by kernel_rfl) (by kernel_rfl) (fun _ _ _ h => h) (Or.inr ⟨by rfl, rfl⟩) hHeld ?_
                  refine wpAnyH_take (i := 13) (oi := _) (v := undef) rfl (by kernel_rfl) (by kernel_rfl) (by kernel_rfl) (fun _ _ _ h => h) (Or.inr ⟨by rfl, rfl⟩) hHeld ?_
                  try simp only [Act.put, List.getElem_toArray, List.getElem_cons_zero, List.getElem_cons_succ, List.setIfInBounds_toArray, List.set_cons_zero, List.set_cons_succ]
                  refine wpAnyH_take (i := 14) (oi := _) (v := undef) rfl (by kernel_rfl) (by kernel_rfl) (by kernel_rfl) (fun _ _ _ h => h) (Or.inr ⟨by rfl, rfl⟩) hHeld ?_
                  refine wpAnyH_take (i := 15) (oi := _) (v := undef) rfl (by kernel_rfl) (by kernel_rfl) (by kernel_rfl) (fun _ _ _ h => h) (Or.inr ⟨by rfl, rfl⟩) hHeld ?_
                  try simp only [Act.put, List.getElem_toArray, List.getElem_cons_zero, List.getElem_cons_succ, List.setIfInBounds_toArray, List.set_cons_zero, List.set_cons_succ]
                  refine wpAnyH_take (i := 16) (oi := _) (v := ?va16) rfl (by kernel_rfl) (by kernel_rfl) (by kernel_rfl) (fun _ _ _ h => h) (Or.inl ⟨by rfl, ?ya16⟩) hHeld ?ra16
                  case ya16 => (intro wq hSw; (try dsimp only at hSw); go_simp; try with_reducible rfl)
                  refine wpAnyH_take (i := 17) (oi := _) (v := ?va17) rfl (by kernel_rfl) (by kernel_rfl) (by kernel_rfl) (fun _ _ _ h => h) (Or.inl ⟨by rfl, ?ya17⟩) hHeld ?ra17
                  case ya17 => (intro wq hSw; (try dsimp only at hSw); go_simp; try with_reducible rfl)
                  try simp only [Act.put, List.getElem_toArray, List.getElem_cons_zero, List.getElem_cons_succ, List.setIfInBounds_toArray, List.set_cons_zero, List.set_cons_succ]
                  refine wpAnyH_done (by kernel_rfl) ?_ _
                  try go_simp
                  clear hHeld
                  go_wp2_with fail
                  exact ⟨⟨q + 1, by have := HQ.out; omega, rfl, by rw [HAL.out]; simp, HXQ.out.trans ((Below.refl wo2.heap.size wo2).drew.mono HXQ.out.size)⟩, by have := HQ.out; simp [intOf]; omega⟩
                · cases fy
                  · refine wp_region_held_drew (S := (fun (w' : World) => w'.cell? ⟨w.heap.size, 0, none⟩ = some (.int .i64 gx) ∧ w'.cell? ⟨w.heap.size, 1, none⟩ = some (.int .i64 gy) ∧ w'.cell? ⟨w.heap.size, 2, none⟩ = some (.int .i64 gz) ∧ w'.cell? ⟨w.heap.size, 3, none⟩ = some (.slice ca C.length cc) ∧ w'.cell? ⟨w.heap.size, 4, none⟩ = some (.slice (some ⟨nb, noff, none⟩) ns.length nc) ∧ w'.cell? ⟨w.heap.size, 5, none⟩ = some (.int .i64 go) ∧ w.heap.size < w'.heap.size ∧ w'.cell? ⟨gi, q, none⟩ = some (.int .i64 (y : Int)) ∧ gi < w'.heap.size)) (by kernel_rfl) (by exact PQ.out _ (Below.refl _ _).drew) (fun hHeld => ?_)
                    refine wpAnyH_take (i := 0) (oi := _) (v := ?vc0) rfl (by kernel_rfl) (by kernel_rfl) (by kernel_rfl) (fun _ _ _ h => h) (Or.inl ⟨by rfl, ?yc0⟩) hHeld ?rc0
                    case yc0 => (intro wq hSw; (try dsimp only at hSw); go_simp; try with_reducible rfl)
                    refine wpAnyH_take (i := 1) (oi := _) (v := ?vc1) rfl (by kernel_rfl) (by kernel_rfl) (by kernel_rfl) (fun _ _ _ h => h) (Or.inl ⟨by rfl, ?yc1⟩) hHeld ?rc1
                    case yc1 => (intro wq hSw; (try dsimp only at hSw); go_simp; try with_reducible rfl)
                    try simp only [Act.put, List.getElem_toArray, List.getElem_cons_zero, List.getElem_cons_succ, List.setIfInBounds_toArray, List.set_cons_zero, List.set_cons_succ]
                    refine wpAnyH_take (i := 2) (oi := _) (v := ?vc2) rfl (by kernel_rfl) (by kernel_rfl) (by kernel_rfl) (fun _ _ _ h => h) (Or.inl ⟨by rfl, ?yc2⟩) hHeld ?rc2
                    case yc2 => (intro wq hSw; (try dsimp only at hSw); go_simp; try with_reducible rfl)
                    refine wpAnyH_take (i := 3) (oi := _) (v := ?vc3) rfl (by kernel_rfl) (by kernel_rfl) (by kernel_rfl) (fun _ _ _ h => h) (Or.inl ⟨by rfl, ?yc3⟩) hHeld ?rc3
                    case yc3 => (intro wq hSw; (try dsimp only at hSw); go_simp; try with_reducible rfl)
                    try simp only [Act.put, List.getElem_toArray, List.getElem_cons_zero, List.getElem_cons_succ, List.setIfInBounds_toArray, List.set_cons_zero, List.set_cons_succ]
                    refine wpAnyH_take (i := 4) (oi := _) (v := ?vc4) rfl (by kernel_rfl) (by kernel_rfl) (by kernel_rfl) (fun _ _ _ h => h) (Or.inl ⟨by rfl, ?yc4⟩) hHeld ?rc4
                    case yc4 => (intro wq hSw; (try dsimp only at hSw); go_simp; try with_reducible rfl)
                    refine wpAnyH_take (i := 5) (oi := _) (v := ?vc5) rfl (by kernel_rfl) (by kernel_rfl) (by kernel_rfl) (fun _ _ _ h => h) (Or.inl ⟨by rfl, ?yc5⟩) hHeld ?rc5
                    case yc5 => (intro wq hSw; (try dsimp only at hSw); go_simp; try with_reducible rfl)
                    try simp only [Act.put, List.getElem_toArray, List.getElem_cons_zero, List.getElem_cons_succ, List.setIfInBounds_toArray, List.set_cons_zero, List.set_cons_succ]
                    refine wpAnyH_take (i := 6) (oi := _) (v := ?vc6) rfl (by kernel_rfl) (by kernel_rfl) (by kernel_rfl) (fun _ _ _ h => h) (Or.inl ⟨by rfl, ?yc6⟩) hHeld ?rc6
                    case yc6 => (intro wq hSw; (try dsimp only at hSw); go_simp; try with_reducible rfl)
                    try simp only [Act.put, List.getElem_toArray, List.getElem_cons_zero, List.getElem_cons_succ, List.setIfInBounds_toArray, List.set_cons_zero, List.set_cons_succ]
                    refine wpAnyH_ready (rs := [7]) (by kernel_rfl) (by simp) ?_
                    refine AllReadyH.cons (o := _) rfl (fun K hK => ?_) AllReadyH.nil
                    go_simp
                    (with_reducible refine (FY.out _ (BQW.out.trans ((Below.refl wo2.heap.size wo2).drew.mono BQW.out.size))).mono ?_); rintro e w21 ⟨rfl, hb21⟩; have hIw21 : Below wo2.heap.size wo2 w21 := (by first | exact hb21 | exact below_call (Below.refl wo2.heap.size wo2).drew hb21)
                    refine hK.out _ _ (PQ.out w21 hIw21) (fun hHeld2 => ?_)
                    clear hK K hHeld
                    have hHeld := hHeld2
                    clear hHeld2
                    refine wpAnyH_take (i := 8) (oi := _) (v := ?vc8) rfl (by kernel_rfl) (by kernel_rfl) (by kernel_rfl) (fun _ _ _ h => h) (Or.inl ⟨by rfl, ?yc8⟩) hHeld ?rc8
                    case yc8 => (intro wq hSw; (try dsimp only at hSw); go_simp; try with_reducible rfl)
                    try simp only [Act.put, List.getElem_toArray, List.getElem_cons_zero, List.getElem_cons_succ, List.setIfInBounds_toArray, List.set_cons_zero, List.set_cons_succ]
                    refine wpAnyH_take (i := 9) (oi := _) (v := ?vc9) rfl (by kernel_rfl) (by kernel_rfl) (by kernel_rfl) (fun _ _ _ h => h) (Or.inl ⟨by rfl, ?yc9⟩) hHeld ?rc9
                    case yc9 => (intro wq hSw; (try dsimp only at hSw); go_simp; try with_reducible rfl)
                    refine wpAnyH_take (i := 10) (oi := _) (v := ?vc10) rfl (by kernel_rfl) (by kernel_rfl) (by kernel_rfl) (fun _ _ _ h => h) (Or.inl ⟨by rfl, ?yc10⟩) hHeld ?rc10
                    case yc10 => (intro wq hSw; (try dsimp only at hSw); go_simp; try with_reducible rfl)
                    try simp only [Act.put, List.getElem_toArray, List.getElem_cons_zero, List.getElem_cons_succ, List.setIfInBounds_toArray, List.set_cons_zero, List.set_cons_succ]
                    refine wpAnyH_take (i := 11) (oi := _) (v := ?vc11) rfl (by kernel_rfl) (by kernel_rfl) (by kernel_rfl) (fun _ _ _ h => h) (Or.inl ⟨by rfl, ?yc11⟩) hHeld ?rc11
                    case yc11 => (intro wq hSw; (try dsimp only at hSw); go_simp; try with_reducible rfl)
                    refine wpAnyH_take (i := 12) (oi := _) (v := ?vc12) rfl (by kernel_rfl) (by kernel_rfl) (by kernel_rfl) (fun _ _ _ h => h) (Or.inl ⟨by rfl, ?yc12⟩) hHeld ?rc12
                    case yc12 => (intro wq hSw; (try dsimp only at hSw); go_simp; try with_reducible rfl)
                    try simp only [Act.put, List.getElem_toArray, List.getElem_cons_zero, List.getElem_cons_succ, List.setIfInBounds_toArray, List.set_cons_zero, List.set_cons_succ]
                    refine wpAnyH_take (i := 13) (oi := _) (v := ?vc13) rfl (by kernel_rfl) (by kernel_rfl) (by kernel_rfl) (fun _ _ _ h => h) (Or.inl ⟨by rfl, ?yc13⟩) hHeld ?rc13
                    case yc13 => (intro wq hSw; (try dsimp only at hSw); go_simp; try with_reducible rfl)
                    try simp only [Act.put, List.getElem_toArray, List.getElem_cons_zero, List.getElem_cons_succ, List.setIfInBounds_toArray, List.set_cons_zero, List.set_cons_succ]
                    refine wpAnyH_ready (rs := [14]) (by kernel_rfl) (by simp) ?_
                    refine AllReadyH.cons (o := _) rfl (fun K hK => ?_) AllReadyH.nil
                    go_simp
                    (with_reducible refine (IY.out _ (HXD.out.trans (hIw21.mono HXD.out.size))).mono ?_); rintro e w22 ⟨rfl, hb22⟩; have hIw22 := below_call hIw21 hb22
                    refine hK.out _ _ (PQ.out w22 hIw22) (fun hHeld2 => ?_)
                    clear hK K hHeld
                    have hHeld := hHeld2
                    clear hHeld2
                    refine wpAnyH_take (i := 15) (oi := _) (v := ?vc15) rfl (by kernel_rfl) (by kernel_rfl) (by kernel_rfl) (fun _ _ _ h => h) (Or.inl ⟨by rfl, ?yc15⟩) hHeld ?rc15
                    case yc15 => (intro wq hSw; (try dsimp only at hSw); go_simp; try with_reducible rfl)
                    try simp only [Act.put, List.getElem_toArray, List.getElem_cons_zero, List.getElem_cons_succ, List.setIfInBounds_toArray, List.set_cons_zero, List.set_cons_succ]
                    refine wpAnyH_take (i := 16) (oi := _) (v := ?vc16) rfl (by kernel_rfl) (by kernel_rfl) (by kernel_rfl) (fun _ _ _ h => h) (Or.inl ⟨by rfl, ?yc16⟩) hHeld ?rc16
                    case yc16 => (intro wq hSw; (try dsimp only at hSw); go_simp; try with_reducible rfl)
                    refine wpAnyH_take (i := 17) (oi := _) (v := ?vc17) rfl (by kernel_rfl) (by kernel_rfl) (by kernel_rfl) (fun _ _ _ h => h) (Or.inl ⟨by rfl, ?yc17⟩) hHeld ?rc17
                    case yc17 => (intro wq hSw; (try dsimp only at hSw); go_simp; try with_reducible rfl)
                    try simp only [Act.put, List.getElem_toArray, List.getElem_cons_zero, List.getElem_cons_succ, List.setIfInBounds_toArray, List.set_cons_zero, List.set_cons_succ]
                    refine wpAnyH_done (by kernel_rfl) ?_ _
                    try go_simp
                    clear hHeld
                    go_wp2_with fail
                    exact ⟨⟨q + 1, by have := HQ.out; omega, rfl, by rw [HAL.out]; simp, HXQ.out.trans (hIw22.mono HXQ.out.size)⟩, by have := HQ.out; simp [intOf]; omega⟩
                  · refine wp_region_held_drew (S := (fun (w' : World) => w'.cell? ⟨w.heap.size, 0, none⟩ = some (.int .i64 gx) ∧ w'.cell? ⟨w.heap.size, 1, none⟩ = some (.int .i64 gy) ∧ w'.cell? ⟨w.heap.size, 2, none⟩ = some (.int .i64 gz) ∧ w'.cell? ⟨w.heap.size, 3, none⟩ = some (.slice ca C.length cc) ∧ w'.cell? ⟨w.heap.size, 4, none⟩ = some (.slice (some ⟨nb, noff, none⟩) ns.length nc) ∧ w'.cell? ⟨w.heap.size, 5, none⟩ = some (.int .i64 go) ∧ w.heap.size < w'.heap.size ∧ w'.cell? ⟨gi, q, none⟩ = some (.int .i64 (y : Int)) ∧ gi < w'.heap.size)) (by kernel_rfl) (by exact PQ.out _ (Below.refl _ _).drew) (fun hHeld => ?_)
                    refine wpAnyH_take (i := 0) (oi := _) (v := ?vb0) rfl (by kernel_rfl) (by kernel_rfl) (by kernel_rfl) (fun _ _ _ h => h) (Or.inl ⟨by rfl, ?yb0⟩) hHeld ?rb0
                    case yb0 => (intro wq hSw; (try dsimp only at hSw); go_simp; try with_reducible rfl)
                    refine wpAnyH_take (i := 1) (oi := _) (v := ?vb1) rfl (by kernel_rfl) (by kernel_rfl) (by kernel_rfl) (fun _ _ _ h => h) (Or.inl ⟨by rfl, ?yb1⟩) hHeld ?rb1
                    case yb1 => (intro wq hSw; (try dsimp only at hSw); go_simp; try with_reducible rfl)
                    try simp only [Act.put, List.getElem_toArray, List.getElem_cons_zero, List.getElem_cons_succ, List.setIfInBounds_toArray, List.set_cons_zero, List.set_cons_succ]
                    refine wpAnyH_take (i := 2) (oi := _) (v := ?vb2) rfl (by kernel_rfl) (by kernel_rfl) (by kernel_rfl) (fun _ _ _ h => h) (Or.inl ⟨by rfl, ?yb2⟩) hHeld ?rb2
                    case yb2 => (intro wq hSw; (try dsimp only at hSw); go_simp; try with_reducible rfl)
                    refine wpAnyH_take (i := 3) (oi := _) (v := ?vb3) rfl (by kernel_rfl) (by kernel_rfl) (by kernel_rfl) (fun _ _ _ h => h) (Or.inl ⟨by rfl, ?yb3⟩) hHeld ?rb3
                    case yb3 => (intro wq hSw; (try dsimp only at hSw); go_simp; try with_reducible rfl)
                    try simp only [Act.put, List.getElem_toArray, List.getElem_cons_zero, List.getElem_cons_succ, List.setIfInBounds_toArray, List.set_cons_zero, List.set_cons_succ]
                    refine wpAnyH_take (i := 4) (oi := _) (v := ?vb4) rfl (by kernel_rfl) (by kernel_rfl) (by kernel_rfl) (fun _ _ _ h => h) (Or.inl ⟨by rfl, ?yb4⟩) hHeld ?rb4
                    case yb4 => (intro wq hSw; (try dsimp only at hSw); go_simp; try with_reducible rfl)
                    refine wpAnyH_take (i := 5) (oi := _) (v := ?vb5) rfl (by kernel_rfl) (by kernel_rfl) (by kernel_rfl) (fun _ _ _ h => h) (Or.inl ⟨by rfl, ?yb5⟩) hHeld ?rb5
                    case yb5 => (intro wq hSw; (try dsimp only at hSw); go_simp; try with_reducible rfl)
                    try simp only [Act.put, List.getElem_toArray, List.getElem_cons_zero, List.getElem_cons_succ, List.setIfInBounds_toArray, List.set_cons_zero, List.set_cons_succ]
                    refine wpAnyH_take (i := 6) (oi := _) (v := ?vb6) rfl (by kernel_rfl) (by kernel_rfl) (by kernel_rfl) (fun _ _ _ h => h) (Or.inl ⟨by rfl, ?yb6⟩) hHeld ?rb6
                    case yb6 => (intro wq hSw; (try dsimp only at hSw); go_simp; try with_reducible rfl)
                    try simp only [Act.put, List.getElem_toArray, List.getElem_cons_zero, List.getElem_cons_succ, List.setIfInBounds_toArray, List.set_cons_zero, List.set_cons_succ]
                    refine wpAnyH_ready (rs := [7]) (by kernel_rfl) (by simp) ?_
                    refine AllReadyH.cons (o := _) rfl (fun K hK => ?_) AllReadyH.nil
                    go_simp
                    (with_reducible refine (FY.out _ (BQW.out.trans ((Below.refl wo2.heap.size wo2).drew.mono BQW.out.size))).mono ?_); rintro e w21 ⟨rfl, hb21⟩; have hIw21 : Below wo2.heap.size wo2 w21 := (by first | exact hb21 | exact below_call (Below.refl wo2.heap.size wo2).drew hb21)
                    refine hK.out _ _ (PQ.out w21 hIw21) (fun hHeld2 => ?_)
                    clear hK K hHeld
                    have hHeld := hHeld2
                    clear hHeld2
                    refine wpAnyH_take (i := 8) (oi := _) (v := ?vb8) rfl (by kernel_rfl) (by kernel_rfl) (by kernel_rfl) (fun _ _ _ h => h) (Or.inl ⟨by rfl, ?yb8⟩) hHeld ?rb8
                    case yb8 => (intro wq hSw; (try dsimp only at hSw); go_simp; try with_reducible rfl)
                    try simp only [Act.put, List.getElem_toArray, List.getElem_cons_zero, List.getElem_cons_succ, List.setIfInBounds_toArray, List.set_cons_zero, List.set_cons_succ]
                    refine wpAnyH_take (i := 9) (oi := _) (v := undef) rfl (by kernel_rfl) (by kernel_rfl) (by kernel_rfl) (fun _ _ _ h => h) (Or.inr ⟨by rfl, rfl⟩) hHeld ?_
                    refine wpAnyH_take (i := 10) (oi := _) (v := undef) rfl (by kernel_rfl) (by kernel_rfl) (by kernel_rfl) (fun _ _ _ h => h) (Or.inr ⟨by rfl, rfl⟩) hHeld ?_
                    try simp only [Act.put, List.getElem_toArray, List.getElem_cons_zero, List.getElem_cons_succ, List.setIfInBounds_toArray, List.set_cons_zero, List.set_cons_succ]
                    refine wpAnyH_take (i := 11) (oi := _) (v := undef) rfl (by kernel_rfl) (by kernel_rfl) (by kernel_rfl) (fun _ _ _ h => h) (Or.inr ⟨by rfl, rfl⟩) hHeld ?_
                    refine wpAnyH_take (i := 12) (oi := _) (v := undef) rfl (by kernel_rfl) (by kernel_rfl) (by kernel_rfl) (fun _ _ _ h => h) (Or.inr ⟨by rfl, rfl⟩) hHeld ?_
                    try simp only [Act.put, List.getElem_toArray, List.getElem_cons_zero, List.getElem_cons_succ, List.setIfInBounds_toArray, List.set_cons_zero, List.set_cons_succ]
                    refine wpAnyH_take (i := 13) (oi := _) (v := undef) rfl (by kernel_rfl) (by kernel_rfl) (by kernel_rfl) (fun _ _ _ h => h) (Or.inr ⟨by rfl, rfl⟩) hHeld ?_
                    refine wpAnyH_take (i := 14) (oi := _) (v := undef) rfl (by kernel_rfl) (by kernel_rfl) (by kernel_rfl) (fun _ _ _ h => h) (Or.inr ⟨by rfl, rfl⟩) hHeld ?_
                    try simp only [Act.put, List.getElem_toArray, List.getElem_cons_zero, List.getElem_cons_succ, List.setIfInBounds_toArray, List.set_cons_zero, List.set_cons_succ]
                    refine wpAnyH_take (i := 15) (oi := _) (v := ?vb15) rfl (by kernel_rfl) (by kernel_rfl) (by kernel_rfl) (fun _ _ _ h => h) (Or.inl ⟨by rfl, ?yb15⟩) hHeld ?rb15
                    case yb15 => (intro wq hSw; (try dsimp only at hSw); go_simp; try with_reducible rfl)
                    refine wpAnyH_take (i := 16) (oi := _) (v := ?vb16) rfl (by kernel_rfl) (by kernel_rfl) (by kernel_rfl) (fun _ _ _ h => h) (Or.inl ⟨by rfl, ?yb16⟩) hHeld ?rb16
                    case yb16 => (intro wq hSw; (try dsimp only at hSw); go_simp; try with_reducible rfl)
                    try simp only [Act.put, List.getElem_toArray, List.getElem_cons_zero, List.getElem_cons_succ, List.setIfInBounds_toArray, List.set_cons_zero, List.set_cons_succ]
                    refine wpAnyH_take (i := 17) (oi := _) (v := ?vb17) rfl (by kernel_rfl) (by kernel_rfl) (by kernel_rfl) (fun _ _ _ h => h) (Or.inl ⟨by rfl, ?yb17⟩) hHeld ?rb17
                    case yb17 => (intro wq hSw; (try dsimp only at hSw); go_simp; try with_reducible rfl)
                    try simp only [Act.put, List.getElem_toArray, List.getElem_cons_zero, List.getElem_cons_succ, List.setIfInBounds_toArray, List.set_cons_zero, List.set_cons_succ]
                    refine wpAnyH_done (by kernel_rfl) ?_ _
                    try go_simp
                    clear hHeld
                    go_wp2_with fail
                    exact ⟨⟨q + 1, by have := HQ.out; omega, rfl, by rw [HAL.out]; simp, HXQ.out.trans (hIw21.mono HXQ.out.size)⟩, by have := HQ.out; simp [intOf]; omega⟩
              · obtain rfl : q = (insN nd).length := by omega
                have q1 : ¬ (((insN nd).length : Int) < ((insN nd).length : Int)) := by omega
                have HOE := Lib.hid (show oq = m.canD d vp by rw [HOQ.out, HCD.out, HRD.out, List.take_of_length_le (by simp)])
                clear hql hq
                have HPD := Lib.hid (show m.pickD d (bs, ls) vp = if oq = true then (if bs = 0 ∨ m.moreD d vp < ls then (vp, m.moreD d vp) else (bs, ls)) else (bs, ls) by rw [HOE.out]; rfl)
                cases oq
                · go_wp2_with fail
                  exact ⟨⟨vp, by have := HVL.out; have := HVP.out; omega, by first | rfl | (push_cast; rfl), by rw [HNX.out, HPD.out, if_neg (by simp)], by rw [HNX.out, HPD.out, if_neg (by simp)], HXD.out⟩, by have := HVL.out; have := HVP.out; simp [intOf]; omega⟩
                · have rg := RG.out.over BQ1.out
                  have c0 := rg.cell 0 _ rfl
                  have c1 := rg.cell 1 _ rfl
                  have c2 := rg.cell 2 _ rfl
                  have c3 := rg.cell 3 _ rfl
                  have c4 := rg.cell 4 _ rfl
                  have c5 := rg.cell 5 _ rfl
                  have cl := rg.lt
                  have RM := Lib.hid (RMO.out wo2 BQW.out sh scap V vc dc da d vp (HSHn.out.later HXD.out) (HVn.out.over HXD.out) (HND.out.over HXD.out) HDL.out (by omega) (by have := HVP.out; omega) (by have := HVL.out; have := HVP.out; omega) (Nat.lt_of_lt_of_le HSLn.out HXD.out.size))
                  obtain ⟨mb0, mb1⟩ := MBD.out d vp
                  generalize m.moreD d vp = mo at *
                  clear rg
                  by_cases hb0 : bs = 0
                  · subst hb0
                    go_wp2_with (go_at_call 48; (with_reducible refine RM.out.mono ?_); rintro e w30 ⟨rfl, hb30⟩; have HB30 := Lib.hid hb30; clear hb30)
                    exact ⟨⟨vp, by have := HVL.out; have := HVP.out; omega, by first | rfl | (push_cast; rfl), by rw [HNX.out, HPD.out, if_pos trivial, if_pos (Or.inl trivial)], by rw [HNX.out, HPD.out, if_pos trivial, if_pos (Or.inl trivial)], HXD.out.trans (HB30.out.mono HXD.out.size)⟩, by have := HVL.out; have := HVP.out; simp [intOf]; omega⟩
                  · have tb : ((bs : Int) == 0) = false := by simp; omega
                    have HB0 := Lib.hid hb0
                    clear hb0
                    by_cases hlt : mo < ls
                    · have HLT := Lib.hid hlt
                      go_wp2_with (go_at_call 48; (with_reducible refine RM.out.mono ?_); rintro e w30 ⟨rfl, hb30⟩; have HB30 := Lib.hid hb30; clear hb30)
                      exact ⟨⟨vp, by have := HVL.out; have := HVP.out; omega, by first | rfl | (push_cast; rfl), by rw [HNX.out, HPD.out, if_pos trivial, if_pos (Or.inr HLT.out)], by rw [HNX.out, HPD.out, if_pos trivial, if_pos (Or.inr HLT.out)], HXD.out.trans (HB30.out.mono HXD.out.size)⟩, by have := HVL.out; have := HVP.out; simp [intOf]; omega⟩
                    · have HLT := Lib.hid (show ¬ mo < ls from hlt)
                      go_wp2_with (go_at_call 48; (with_reducible refine RM.out.mono ?_); rintro e w30 ⟨rfl, hb30⟩; have HB30 := Lib.hid hb30; clear hb30)
                      exact ⟨⟨vp, by have := HVL.out; have := HVP.out; omega, by first | rfl | (push_cast; rfl), by rw [HNX.out, HPD.out, if_pos trivial, if_neg (fun h => h.elim HB0.out (fun h2 => by have := HLT.out; omega))], by rw [HNX.out, HPD.out, if_pos trivial, if_neg (fun h => h.elim HB0.out (fun h2 => by have := HLT.out; omega))], HXD.out.trans (HB30.out.mono HXD.out.size)⟩, by have := HVL.out; have := HVP.out; simp [intOf]; omega⟩
        · obtain rfl : v = ns.length := by omega
          have HNXD := Lib.hid (show m.nextD d = bs by unfold Od.nextD; rw [MNN.out, ← HQ.out])
          have vx : ¬ (((ns.length + 1 : Nat) : Int) < (ns.length : Int) + 1) := by omega
          have HOx := Lib.hid (own_overN HO.out (Out.of_below (fun _ => False) HX.out) (fun _ _ => id))
          have HSx := Lib.hid (Nat.le_trans HBsz.out HX.out.size)
          have HOUx := Lib.hid (HOU.out.trans (Out.of_below (fun j => B ≤ j) HX.out))
          have HNS := Lib.hid (show m.orderD (n + 1) = if m.nextD (m.orderD n) = 0 then m.orderD n else m.orderD n ++ [m.nextD (m.orderD n)] from rfl)
          clear hvl hv
          by_cases hb0 : bs = 0
          · have tb : ((bs : Int) == 0) = true := by simp [hb0]
            have HE := Lib.hid (show og = d by
              have h := orderD_stop OK.out (k := n) (by rw [← next_nextD OK.out, ← HDE.out, HNXD.out, hb0]) (ns.length + 1 - n)
              rw [show n + (ns.length + 1 - n) = ns.length + 1 by have := HN2.out; omega] at h
              rw [OG.out, MNN.out, h, HDE.out])
            clear hb0
            go_wp2_with fail
            go_ret
            refine ⟨_, rfl, HXW.out, ?_⟩
            rw [HE.out]
            exact own_base HOx.out (Nat.le_trans BW.out.size HBB.out)
          · have tb : ((bs : Int) == 0) = false := by simp; omega
            have HE := Lib.hid (show m.orderD (n + 1) = d ++ [bs] by rw [HNS.out, ← HDE.out, HNXD.out, if_neg hb0])
            clear hb0
            go_wp2_with (at_builtin; refine app_nat rfl (.tmp 101) (.tmp 103) rfl B (.slice da d.length dc) d rfl HOx.out bs rfl (by have := HDL.out; omega) HSx.out ?_; intro v' w5 h1 h2 h3; have HV5 := Lib.hid h1; have HO5 := Lib.hid (h2.mono (T := fun j => B ≤ j) (fun j hj => (World.ownsRow.lt HOx.out j hj).1)); clear h1 h2 h3)
            exact ⟨⟨n + 1, by have := HN2.out; omega, rfl, by rw [HE.out]; exact HV5.out, HOUx.out.trans HO5.out⟩, by have := HN2.out; simp [intOf]; omega⟩
    · obtain rfl : n = ns.length + 1 := by omega
      have nx : ¬ (((ns.length + 1 : Nat) : Int) < (ns.length : Int) + 1) := by omega
      have HE := Lib.hid (show og = d by rw [OG.out, MNN.out, HDE.out])
      clear hnl2 hn2
      go_wp2_with fail
      go_ret
      refine ⟨_, rfl, below_call BW.out HBn.out, ?_⟩
      rw [HE.out]
      exact own_base HO.out (Nat.le_trans BW.out.size HBB.out)
end Go.Proofs.Ytdbfakllcaojcaa

namespace Go.Proofs.Ytdbfakllcaojcaa
open Go Go.RowKit
set_option linter.unusedVariables false
set_option linter.unusedSimpArgs false
set_option maxRecDepth 100000

set_option maxHeartbeats 8000000 in
theorem walk_orders (FW : FwC) (w : World) (g : GrQ) (hg : g.ok w) :
    Calls Try.prog 7 #[g.val] w fun e w' => e = .returned (.bool true) ∧ Below w.heap.size w w' := by
  obtain ⟨gx, gy, gz, ca, cc, C, na, nc, ns, go⟩ := g
  have FX := Lib.hid (fun W (hW : Below w.heap.size w W) => FW ⟨gx, gy, gz, ca, cc, C, na, nc, ns, go⟩ W ⟨hg.1, hg.2.1.later hW, FlatIn.later hg.2.2.1 hW, hg.2.2.2⟩)
  have LV := Lib.hid lives28
  clear FW hg
  unfold GrQ.val at FX ⊢
  dsimp only at FX ⊢
  go_enter Try.func7, Try.ntmps7
  have RB := Lib.hid (RowAt.new w [.int .i64 gx, .int .i64 gy, .int .i64 gz, .slice ca C.length cc, .slice na ns.length nc, .int .i64 go] 26)
  have BB : Below w.heap.size w (w.alloc (.cells #[.int .i64 gx, .int .i64 gy, .int .i64 gz, .slice ca C.length cc, .slice na ns.length nc, .int .i64 go] 26)) := Below.alloc (Below.refl _ _) (Nat.le_refl _) _
  have FY := Lib.hid (FX.out _ BB)
  have BW := Lib.hid BB
  clear BB FX
  have hs0 : (w.alloc (.cells #[.int .i64 gx, .int .i64 gy, .int .i64 gz, .slice ca C.length cc, .slice na ns.length nc, .int .i64 go] 26)).heap.size = w.heap.size + 1 := by simp
  have HS0 := Lib.hid hs0
  clear hs0
  go_wp2_with (go_at_call 10; (with_reducible refine FY.out.mono ?_); rintro e w2 ⟨⟨hx, hy, hz, da, dc, D, ma, mc, ms, ho⟩, rfl, hb2, hk2, hn2, _, hcl2, hqs2⟩; have HB2 := Lib.hid hb2; have HK2 := Lib.hid hk2; have HN2 := Lib.hid hn2; have HC2 := Lib.hid hcl2; have HQ2 := Lib.hid hqs2; have r2 := RB.out.over hb2; have R2 := Lib.hid r2; have b0 := r2.cell 0 _ rfl; have b1 := r2.cell 1 _ rfl; have b2 := r2.cell 2 _ rfl; have b3 := r2.cell 3 _ rfl; have b4 := r2.cell 4 _ rfl; have b5 := r2.cell 5 _ rfl; have p0 := r2.fr 0; have p1 := r2.fr 1; have p2 := r2.fr 2; have p3 := r2.fr 3; have p4 := r2.fr 4; have p5 := r2.fr 5; have blt := r2.lt; clear hb2 hk2 hn2 hcl2 hqs2 r2; unfold GrQ.val; dsimp only at *)
  have R3 := Lib.hid ((((((R2.out.set (l' := [.int .i64 hx, .int .i64 gy, .int .i64 gz, .slice ca C.length cc, .slice na ns.length nc, .int .i64 go]) 0 (.int .i64 hx) (by simp) rfl).set (l' := [.int .i64 hx, .int .i64 hy, .int .i64 gz, .slice ca C.length cc, .slice na ns.length nc, .int .i64 go]) 1 (.int .i64 hy) (by simp) rfl).set (l' := [.int .i64 hx, .int .i64 hy, .int .i64 hz, .slice ca C.length cc, .slice na ns.length nc, .int .i64 go]) 2 (.int .i64 hz) (by simp) rfl).set (l' := [.int .i64 hx, .int .i64 hy, .int .i64 hz, .slice da D.length dc, .slice na ns.length nc, .int .i64 go]) 3 (.slice da D.length dc) (by simp) rfl).set (l' := [.int .i64 hx, .int .i64 hy, .int .i64 hz, .slice da D.length dc, .slice ma ms.length mc, .int .i64 go]) 4 (.slice ma ms.length mc) (by simp) rfl).set (l' := [.int .i64 hx, .int .i64 hy, .int .i64 hz, .slice da D.length dc, .slice ma ms.length mc, .int .i64 ho]) 5 (.int .i64 ho) (by simp) rfl)
  have K3 := ((((((Kp.refl (w.heap.size + 1) w2).set w.heap.size 0 (.int .i64 hx) (by omega)).set w.heap.size 1 (.int .i64 hy) (by omega)).set w.heap.size 2 (.int .i64 hz) (by omega)).set w.heap.size 3 (.slice da D.length dc) (by omega)).set w.heap.size 4 (.slice ma ms.length mc) (by omega)).set w.heap.size 5 (.int .i64 ho) (by omega)
  have CN3 := Lib.hid (HK2.out _ (by rw [HS0.out]; exact K3))
  have B3 := Lib.hid (Below.setCell (Below.setCell (Below.setCell (Below.setCell (Below.setCell (Below.setCell (below_call BW.out HB2.out) (show w.heap.size ≤ (⟨w.heap.size, 0, none⟩ : Addr).block from Nat.le_refl _) (.int .i64 hx)) (show w.heap.size ≤ (⟨w.heap.size, 1, none⟩ : Addr).block from Nat.le_refl _) (.int .i64 hy)) (show w.heap.size ≤ (⟨w.heap.size, 2, none⟩ : Addr).block from Nat.le_refl _) (.int .i64 hz)) (show w.heap.size ≤ (⟨w.heap.size, 3, none⟩ : Addr).block from Nat.le_refl _) (.slice da D.length dc)) (show w.heap.size ≤ (⟨w.heap.size, 4, none⟩ : Addr).block from Nat.le_refl _) (.slice ma ms.length mc)) (show w.heap.size ≤ (⟨w.heap.size, 5, none⟩ : Addr).block from Nat.le_refl _) (.int .i64 ho))
  clear K3 b0 b1 b2 b3 b4 b5 p0 p1 p2 p3 p4 p5 blt R2 HB2 HK2 RB FY BW
  generalize (((((w2.setCell ⟨w.heap.size, 0, none⟩ (.int .i64 hx)).setCell ⟨w.heap.size, 1, none⟩ (.int .i64 hy)).setCell ⟨w.heap.size, 2, none⟩ (.int .i64 hz)).setCell ⟨w.heap.size, 3, none⟩ (.slice da D.length dc)).setCell ⟨w.heap.size, 4, none⟩ (.slice ma ms.length mc)).setCell ⟨w.heap.size, 5, none⟩ (.int .i64 ho) = W3 at *
  have r3 := R3.out
  have hm2 : ms.length ≤ 12 := HN2.out
  have hd2 : D.length ≤ 20 := HC2.out
  have c0 := r3.cell 0 _ rfl
  have c1 := r3.cell 1 _ rfl
  have c2 := r3.cell 2 _ rfl
  have c3 := r3.cell 3 _ rfl
  have c4 := r3.cell 4 _ rfl
  have c5 := r3.cell 5 _ rfl
  have cl := r3.lt
  have RS := Lib.hid (fun (W : World) (hb : Below W3.heap.size W3 W) => rshapes_any ⟨hx, hy, hz, da, dc, D, ma, mc, ms, ho⟩ W (CN3.out.1.later hb) (FlatIn.later CN3.out.2 hb) (by show ms.length ≤ 1000; omega))
  have FF := Lib.hid (fun (W : World) (hb : Below W3.heap.size W3 W) => order_any ⟨hx, hy, hz, da, dc, D, ma, mc, ms, ho⟩ W (CN3.out.1.later hb) (FlatIn.later CN3.out.2 hb) (by show ms.length ≤ 1000; omega))
  have RN := Lib.hid (fun (he : (graphE (GrQ.gr ⟨hx, hy, hz, da, dc, D, ma, mc, ms, ho⟩)).1 = 0) (W : World) (hb : Below W3.heap.size W3 W) => rorder_any ⟨hx, hy, hz, da, dc, D, ma, mc, ms, ho⟩ W he (CN3.out.1.later hb) (FlatIn.later CN3.out.2 hb) (by show ms.length ≤ 1000; omega))
  have OLN := Lib.hid (fun (he : (graphE (GrQ.gr ⟨hx, hy, hz, da, dc, D, ma, mc, ms, ho⟩)).1 = 0) => show (ordG ⟨hx, hy, hz, da, dc, D, ma, mc, ms, ho⟩).length ≤ 1000 by
    have h1 := (order_spec (odM_ok he) _ (Nat.le_refl _)).2.1
    have h2 := todo_short (odM_ok he)
    have h3 : (odM ⟨hx, hy, hz, da, dc, D, ma, mc, ms, ho⟩ (needL ⟨hx, hy, hz, da, dc, D, ma, mc, ms, ho⟩)).N = ms.length := rfl
    unfold ordG
    omega)
  unfold RShPost at RS
  unfold OrPost at FF
  obtain ⟨E, hE⟩ : ∃ E, E = graphE (GrQ.gr ⟨hx, hy, hz, da, dc, D, ma, mc, ms, ho⟩) := ⟨_, rfl⟩
  rw [← hE] at RS FF
  have HEE := Lib.hid hE
  obtain ⟨ec, el⟩ := E
  unfold GrQ.val at RS FF RN
  dsimp only at RS FF RN OLN
  clear hE r3
  by_cases h0 : ec = 0
  case neg =>
    have h0b : (ec != 0) = true := by simpa using h0
    have h0c : (ec == ec) = true := by simp
    have HO := Lib.hid h0
    clear h0
    go_upto_region 3 with (go_at_call 23; (with_reducible refine (FF.out _ (Below.refl _ _)).mono ?_); rintro e w4 ⟨hno, hb4, _⟩; obtain rfl := hno HO.out; have HB4 := Lib.hid hb4; replace c0 := (R3.out.over hb4).cell 0 _ rfl; replace c1 := (R3.out.over hb4).cell 1 _ rfl; replace c2 := (R3.out.over hb4).cell 2 _ rfl; replace c3 := (R3.out.over hb4).cell 3 _ rfl; replace c4 := (R3.out.over hb4).cell 4 _ rfl; replace c5 := (R3.out.over hb4).cell 5 _ rfl; replace cl := (R3.out.over hb4).lt; clear hb4 hno)
    go_wp2_with (first | (go_at_call 12; (with_reducible refine (RS.out _ HB4.out).mono ?_); rintro e w6 ⟨v, rfl, hb6, _, _⟩; have HB6 := Lib.hid hb6; clear hb6) | (go_at_call 20; (with_reducible refine (LV.out _).mono ?_); rintro e w8 ⟨rfl, hb8⟩; have HB8 := Lib.hid hb8; clear hb8))
    go_ret
    exact ⟨rfl, below_call B3.out (below_call (below_call HB4.out HB6.out) HB8.out)⟩
  subst h0
  have he0 : (graphE (GrQ.gr ⟨hx, hy, hz, da, dc, D, ma, mc, ms, ho⟩)).1 = 0 := by rw [← HEE.out]
  have RN2 := Lib.hid (fun W hb => RN.out he0 W hb)
  have OL := Lib.hid (OLN.out he0)
  generalize ordG ⟨hx, hy, hz, da, dc, D, ma, mc, ms, ho⟩ = og at *
  clear he0 RN OLN
  go_upto_region 3 with (go_at_call 23; (with_reducible refine (FF.out _ (Below.refl _ _)).mono ?_); rintro e w4 ⟨_, hb4, hyes⟩; obtain ⟨lv, rfl, hlo⟩ := hyes (by trivial); obtain ⟨la, lc, rfl, hlc, hln⟩ := own_numsN (P := fun _ => True) hlo (fun _ _ => trivial); have HB4 := Lib.hid hb4; have HLN := Lib.hid hln; replace c0 := (R3.out.over hb4).cell 0 _ rfl; replace c1 := (R3.out.over hb4).cell 1 _ rfl; replace c2 := (R3.out.over hb4).cell 2 _ rfl; replace c3 := (R3.out.over hb4).cell 3 _ rfl; replace c4 := (R3.out.over hb4).cell 4 _ rfl; replace c5 := (R3.out.over hb4).cell 5 _ rfl; replace cl := (R3.out.over hb4).lt; clear hb4 hyes hlo hln)
  go_upto_region 6 with (go_at_call 12; (with_reducible refine (RS.out _ HB4.out).mono ?_); rintro e w5 ⟨v, rfl, hb5, _, _⟩; have HB45 := Lib.hid hb5; have HB5 := Lib.hid (below_call HB4.out hb5); replace c0 := (R3.out.over HB5.out).cell 0 _ rfl; replace c1 := (R3.out.over HB5.out).cell 1 _ rfl; replace c2 := (R3.out.over HB5.out).cell 2 _ rfl; replace c3 := (R3.out.over HB5.out).cell 3 _ rfl; replace c4 := (R3.out.over HB5.out).cell 4 _ rfl; replace c5 := (R3.out.over HB5.out).cell 5 _ rfl; replace cl := (R3.out.over HB5.out).lt; clear hb5)
  go_wp2_with (first
    | (go_at_call 25; (with_reducible refine (RN2.out _ HB5.out).mono ?_); rintro e w6 ⟨rv, rfl, hb6, hro⟩; obtain ⟨ra, rc, rfl, hrc, hrn⟩ := own_numsN (P := fun _ => True) hro (fun _ _ => trivial); have HB6 := Lib.hid (below_call HB5.out hb6); have IS := Lib.hid (ints_same la ra lc rc og w6 (by have := OL.out; omega) ((HLN.out.over HB45.out).over hb6) hrn); clear hb6 hro hrn)
    | (go_at_call 24; (with_reducible refine IS.out.mono ?_); rintro e w7 ⟨rfl, hb7⟩; have HB7 := Lib.hid hb7; clear hb7)
    | (go_at_call 20; (with_reducible refine (LV.out _).mono ?_); rintro e w8 ⟨rfl, hb8⟩; have HB8 := Lib.hid hb8; clear hb8))
  go_ret
  exact ⟨rfl, below_call B3.out (below_call (below_call HB6.out HB7.out) HB8.out)⟩
end Go.Proofs.Ytdbfakllcaojcaa
