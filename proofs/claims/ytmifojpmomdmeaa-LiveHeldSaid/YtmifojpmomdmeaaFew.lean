/- pintlelaw24.Few. -/
import Derived.Test.YtmifojpmomdmeaaFG
import Derived.Deep.DeepCutAuto
import Derived.Deep.LoopGhost
namespace Go.Proofs.Ytmifojpmomdmeaa
open Go Go.RowKit
set_option linter.unusedVariables false

/-- the graph's own block -/
def gRow (gx gy gz : Int) (ca : Option Addr) (CL cc : Nat) (na : Option Addr) (NL nc : Nat) (go : Int) : List Value := [.int .i64 gx, .int .i64 gy, .int .i64 gz, .slice ca CL cc, .slice na NL nc, .int .i64 go]
theorem nds_some {w : World} {a : Option Addr} {ns : List Nd} {c : Nat} (h : NdsIn w a ns c) (hl : 0 < ns.length) : ∃ b off, a = some ⟨b, off, none⟩ ∧ b < w.heap.size := by
  obtain ⟨n, hn⟩ : ∃ n, ns[0]? = some n := ⟨_, List.getElem?_eq_getElem hl⟩
  obtain ⟨b, off, h1, h2, _⟩ := nds_range h 0 n hn
  exact ⟨b, off, h1, h2⟩
theorem cns_some {w : World} {a : Option Addr} {C : List CnQ} {c : Nat} (h : CnsIn w a C c) (hl : 0 < C.length) : ∃ b off, a = some ⟨b, off, none⟩ ∧ b < w.heap.size := by
  obtain ⟨_, _, _, ⟨_, h, _⟩ | ⟨_, h⟩ | ⟨b, off, rfl, hb, _⟩⟩ := h
  · rw [h] at hl; simp at hl
  · rw [h] at hl; simp at hl
  · exact ⟨b, off, rfl, hb⟩
theorem ints_some {k : IntKind} {w : World} {a : Option Addr} {l : List Int} {c : Nat} (h : IntsIn k w a l c) (hl : 0 < l.length) : ∃ b off, a = some ⟨b, off, none⟩ ∧ b < w.heap.size := by
  obtain ⟨z, hz⟩ : ∃ z, l[0]? = some z := ⟨_, List.getElem?_eq_getElem hl⟩
  obtain ⟨_, b, off, h1, h2, _⟩ := ints_cell h 0 z hz
  exact ⟨b, off, h1, h2⟩
set_option maxRecDepth 100000 in
set_option maxHeartbeats 8000000 in
theorem few_any : FwC := by
  intro g w hg
  obtain ⟨gx, gy, gz, ca, cc, C, na, nc, ns, go⟩ := g
  obtain ⟨_, hC, hN, _⟩ := hg
  have HC := Lib.hid hC
  have HN := Lib.hid hN
  have c1 : C.length ≤ cc := hC.1
  have c2 : cc ≤ 9223372036854775807 := hC.2.1
  have n1 : ns.length ≤ nc := by have := hN.1; rwa [List.length_map] at this
  have n2 : nc ≤ 9223372036854775807 := hN.2.1
  clear hC hN
  unfold GrQ.val
  dsimp only at *
  obtain ⟨NL, hNL⟩ : ∃ k, k = (ns.take 12).length := ⟨_, rfl⟩
  obtain ⟨CL, hCL⟩ : ∃ k, k = (C.take 20).length := ⟨_, rfl⟩
  have hNL2 := hNL
  have hCL2 := hCL
  rw [List.length_take] at hNL2 hCL2
  have HNL := Lib.hid hNL
  have HCL := Lib.hid hCL
  have QN := Lib.hid hNL2
  have QC := Lib.hid hCL2
  have nl12 : NL ≤ 12 := by omega
  have cl20 : CL ≤ 20 := by omega
  clear hNL hCL hNL2 hCL2
  have R0 := RowAt.new w [.int .i64 gx, .int .i64 gy, .int .i64 gz, .slice ca C.length cc, .slice na ns.length nc, .int .i64 go] 26
  have R1 := RowAt.new (w.alloc (.cells #[.int .i64 gx, .int .i64 gy, .int .i64 gz, .slice ca C.length cc, .slice na ns.length nc, .int .i64 go] 26)) [.int .i64 0, .int .i64 0, .int .i64 0, .slice none 0 0, .slice none 0 0, .int .i64 0] 26
  rw [show (w.alloc (.cells #[.int .i64 gx, .int .i64 gy, .int .i64 gz, .slice ca C.length cc, .slice na ns.length nc, .int .i64 go] 26)).heap.size = w.heap.size + 1 by simp] at R1
  have R2 := R0.over (Below.alloc (Below.refl _ _) (Nat.le_refl _) (.cells #[.int .i64 0, .int .i64 0, .int .i64 0, .slice none 0 0, .slice none 0 0, .int .i64 0] 26))
  have B0 : Below w.heap.size w ((w.alloc (.cells #[.int .i64 gx, .int .i64 gy, .int .i64 gz, .slice ca C.length cc, .slice na ns.length nc, .int .i64 go] 26)).alloc (.cells #[.int .i64 0, .int .i64 0, .int .i64 0, .slice none 0 0, .slice none 0 0, .int .i64 0] 26)) := by go_grown
  have RA := Lib.hid R2
  have RB := Lib.hid R1
  have BW := Lib.hid B0
  clear R0 R1 R2 B0
  go_enter Try.func8, Try.ntmps8
  go_upto_if 9 with fail
  generalize (w.alloc (.cells #[.int .i64 gx, .int .i64 gy, .int .i64 gz, .slice ca C.length cc, .slice na ns.length nc, .int .i64 go] 26)).alloc (.cells #[.int .i64 0, .int .i64 0, .int .i64 0, .slice none 0 0, .slice none 0 0, .int .i64 0] 26) = W1 at *
  have ra := RA.out
  have a4 := ra.cell 4 _ rfl
  have f4 := ra.fr 4
  have alt := ra.lt
  clear ra
  go_cut [] (fun wx => RowAt wx w.heap.size (gRow gx gy gz ca C.length cc na NL nc go) ∧ RowAt wx (w.heap.size + 1) [.int .i64 0, .int .i64 0, .int .i64 0, .slice none 0 0, .slice none 0 0, .int .i64 0] ∧ Below w.heap.size w wx)
  case first =>
    by_cases h12 : 12 < ns.length
    · obtain ⟨b, off, hna, hb⟩ := nds_some HN.out (by omega)
      subst hna
      have hnl : NL = 12 := by have := QN.out; omega
      subst hnl
      have h12i : (12 : Int) < (ns.length : Int) := by omega
      have hcap : 12 ≤ nc := by omega
      have hcapi : (12 : Int) ≤ (nc : Int) := by omega
      go_wp2_with fail
      go_meet
      exact ⟨RA.out.set (l' := gRow gx gy gz ca C.length cc (some ⟨b, off, none⟩) 12 nc go) 4 _ (by simp) rfl, RB.out.aside w.heap.size 4 _ (by omega), Below.setCell BW.out (show w.heap.size ≤ w.heap.size from Nat.le_refl _) _⟩
    · have hnl : ns.length = NL := by have := QN.out; omega
      have h12i : ¬ (12 : Int) < (ns.length : Int) := by omega
      have HL := Lib.hid hnl
      clear hnl
      go_wp2_with fail
      go_meet
      exact ⟨by have := RA.out; rw [HL.out] at this; exact this, RB.out, BW.out⟩
  case rest =>
    obtain ⟨hr1, hr2, hb1⟩ := hcut
    have RA1 := Lib.hid hr1
    have RB1 := Lib.hid hr2
    have BW1 := Lib.hid hb1
    have a3 := hr1.cell 3 _ rfl
    have f3 := hr1.fr 3
    have alt1 := hr1.lt
    clear hr1 hr2 hb1 RA RB BW a4 f4 alt
    go_upto_if 17 with fail
    go_cut [] (fun wx => RowAt wx w.heap.size (gRow gx gy gz ca CL cc na NL nc go) ∧ RowAt wx (w.heap.size + 1) [.int .i64 0, .int .i64 0, .int .i64 0, .slice none 0 0, .slice none 0 0, .int .i64 0] ∧ Below w.heap.size w wx)
    case first =>
      by_cases h20 : 20 < C.length
      · obtain ⟨b, off, hca, hb⟩ := cns_some HC.out (by omega)
        subst hca
        have hcl : CL = 20 := by have := QC.out; omega
        subst hcl
        have h20i : (20 : Int) < (C.length : Int) := by omega
        have hcap : 20 ≤ cc := by omega
        have hcapi : (20 : Int) ≤ (cc : Int) := by omega
        go_wp2_with fail
        go_meet
        exact ⟨RA1.out.set (l' := gRow gx gy gz (some ⟨b, off, none⟩) 20 cc na NL nc go) 3 _ (by show 3 < 6; omega) rfl, RB1.out.aside w.heap.size 3 _ (by omega), Below.setCell BW1.out (show w.heap.size ≤ w.heap.size from Nat.le_refl _) _⟩
      · have hcl : C.length = CL := by have := QC.out; omega
        have h20i : ¬ (20 : Int) < (C.length : Int) := by omega
        have HL := Lib.hid hcl
        clear hcl
        go_wp2_with fail
        go_meet
        exact ⟨by have := RA1.out; rw [HL.out] at this; exact this, RB1.out, BW1.out⟩
    case rest =>
      obtain ⟨hr1, hr2, hb1⟩ := hcut
      have RA2 := Lib.hid hr1
      have RB2 := Lib.hid hr2
      have BW2 := Lib.hid hb1
      have alt2 := hr2.lt
      clear hr1 hr2 hb1 RA1 RB1 BW1 a3 f3 alt1
      go_wp2_with fail
      have hcc2 : CL ≤ C.length := by have := QC.out; omega
      go_loopw [3, 4] (fun s3 s4 wr => ∃ (k g c : Nat) (D : List CnQ), k ≤ CL ∧ s4 = .int .i64 k ∧ s3 = .slice (some ⟨g, 0, none⟩) k c ∧ D.length = k ∧ wr.ownsRow (w.heap.size + 1 + 1) 53 2 (.slice (some ⟨g, 0, none⟩) D.length c) D.length (cn2 D) ∧ (∀ q ∈ D, OwnQ wr (w.heap.size + 1 + 1) q) ∧ (∀ q ∈ D, q.bs.length ≤ 4000 ∧ q.ws.length ≤ 300) ∧ Below (w.heap.size + 1 + 1) wc wr) (fun _ s4 _ => CL - (intOf s4).toNat)
      case atStart => exact ⟨0, wc.heap.size, 0, [], Nat.zero_le _, rfl, rfl, rfl, own_emptyT wc _ _ 2 alt2, fun (q : CnQ) (h : q ∈ ([] : List CnQ)) => absurd h (by simp), fun (q : CnQ) (h : q ∈ ([] : List CnQ)) => absurd h (by simp), Below.alloc (Below.refl _ _) alt2 _⟩
      case round =>
        obtain ⟨k, g, c, D, hk, rfl, rfl, hD, hown, hQ, hQs, hB⟩ := hrel
        have HQS := Lib.hid hQs
        have ra := RA2.out.later hB (show w.heap.size < w.heap.size + 1 + 1 by omega)
        have a3 := ra.cell 3 _ rfl
        have rlt := ra.lt
        have HD := Lib.hid hD
        have OWN := Lib.hid hown
        have HQ := Lib.hid hQ
        have HB := Lib.hid hB
        have BWr := Lib.hid (BW2.out.trans (hB.mono (by omega)))
        have wsz := hB.size
        clear ra hD hown hQ hQs hB
        by_cases hkl : k < CL
        · obtain ⟨⟨ba, bc, bs, wa, wcp, ws⟩, hq⟩ : ∃ q, C[k]? = some q := ⟨_, List.getElem?_eq_getElem (by omega)⟩
          have hin := (HC.out.2.2.1 _ (List.mem_of_getElem? hq)).later BWr.out
          obtain ⟨b, off, hca, hb, hcell⟩ : ∃ b off, ca = some ⟨b, off, none⟩ ∧ b < w.heap.size ∧ (w.cell? ⟨b, off + k * 2, none⟩ = some (.slice ba bs.length bc) ∧ w.cell? ⟨b, off + k * 2 + 1, none⟩ = some (.slice wa ws.length wcp)) := by
            obtain ⟨_, _, _, ⟨_, h, _⟩ | ⟨_, h⟩ | ⟨b, off, hca, hb, hc⟩⟩ := HC.out
            · rw [h] at hq; simp at hq
            · rw [h] at hq; simp at hq
            · exact ⟨b, off, hca, hb, hc k _ hq⟩
          subst hca
          have t0 := (BWr.out.cell (p := ⟨b, _, none⟩) hb).trans hcell.1
          have t1 := (BWr.out.cell (p := ⟨b, _, none⟩) hb).trans hcell.2
          have HI1 := Lib.hid hin.1
          have HI2 := Lib.hid hin.2
          have HK := Lib.hid hkl
          have kl0 : (0 : Int) ≤ (k : Int) := by omega
          have kl1 : (k : Int) < (CL : Int) := by omega
          have bl := hin.1.1.1
          have bl2 := hin.1.1.2.1
          have wl := hin.2.1.1
          have wl2 := hin.2.1.2.1
          dsimp only at bl bl2 wl wl2
          rw [List.length_map] at bl wl
          clear hq hin hcell
          have RC := Lib.hid (RowAt.new wr [.slice ba bs.length bc, .slice wa ws.length wcp] 53)
          have BC := Lib.hid (Below.alloc (Below.refl wr.heap.size wr) (Nat.le_refl _) (.cells #[.slice ba bs.length bc, .slice wa ws.length wcp] 53))
          go_upto_if 38 with fail
          clear kl0 kl1 t0 t1 a3
          obtain ⟨BL, hBL⟩ : ∃ n, n = (bs.take 4000).length := ⟨_, rfl⟩
          obtain ⟨WL, hWL⟩ : ∃ n, n = (ws.take 300).length := ⟨_, rfl⟩
          have qb := hBL
          have qw := hWL
          rw [List.length_take] at qb qw
          have QB := Lib.hid qb
          have QW := Lib.hid qw
          have HBL := Lib.hid hBL
          have HWL := Lib.hid hWL
          have lb : BL ≤ 4000 := by omega
          have lw : WL ≤ 300 := by omega
          clear qb qw hBL hWL
          generalize wr.alloc (.cells #[.slice ba bs.length bc, .slice wa ws.length wcp] 53) = W2 at *
          have rc := RC.out
          have c0 := rc.cell 0 _ rfl
          have f0 := rc.fr 0
          have clt := rc.lt
          clear rc
          go_cut [5] (fun s5 wx => s5 = .pointer (some ⟨wr.heap.size, 0, none⟩) ∧ RowAt wx wr.heap.size [.slice ba BL bc, .slice wa ws.length wcp] ∧ Below wr.heap.size wr wx)
          case first =>
            by_cases h4 : 4000 < bs.length
            · obtain ⟨b1, o1, hba, hb1⟩ := ints_some HI1.out (show 0 < bs.length by omega)
              subst hba
              have hbl : BL = 4000 := by have := QB.out; omega
              subst hbl
              have h4i : (4000 : Int) < (bs.length : Int) := by omega
              have hcap : 4000 ≤ bc := by omega
              have hcapi : (4000 : Int) ≤ (bc : Int) := by omega
              go_wp2_with fail
              go_meet
              exact ⟨rfl, RC.out.set (l' := [.slice (some ⟨b1, o1, none⟩) 4000 bc, .slice wa ws.length wcp]) 0 _ (by show 0 < 2; omega) rfl, Below.setCell BC.out (show wr.heap.size ≤ wr.heap.size from Nat.le_refl _) _⟩
            · have hbl : bs.length = BL := by have := QB.out; omega
              have h4i : ¬ (4000 : Int) < (bs.length : Int) := by omega
              have HL := Lib.hid hbl
              clear hbl
              go_wp2_with fail
              go_meet
              exact ⟨rfl, by have := RC.out; rw [HL.out] at this; exact this, BC.out⟩
          case rest =>
            obtain ⟨rfl, hr, hb5⟩ := hcut
            have RD := Lib.hid hr
            have BD := Lib.hid hb5
            have c1' := hr.cell 1 _ rfl
            have f1' := hr.fr 1
            have dlt := hr.lt
            clear hr hb5 RC BC c0 f0 clt
            go_upto_if 46 with fail
            go_cut [5] (fun s5 wx => s5 = .pointer (some ⟨wr.heap.size, 0, none⟩) ∧ RowAt wx wr.heap.size [.slice ba BL bc, .slice wa WL wcp] ∧ Below wr.heap.size wr wx)
            case first =>
              by_cases h4 : 300 < ws.length
              · obtain ⟨b1, o1, hba, hb1⟩ := ints_some HI2.out (show 0 < ws.length by omega)
                subst hba
                have hbl : WL = 300 := by have := QW.out; omega
                subst hbl
                have h4i : (300 : Int) < (ws.length : Int) := by omega
                have hcap : 300 ≤ wcp := by omega
                have hcapi : (300 : Int) ≤ (wcp : Int) := by omega
                go_wp2_with fail
                go_meet
                exact ⟨rfl, RD.out.set (l' := [.slice ba BL bc, .slice (some ⟨b1, o1, none⟩) 300 wcp]) 1 _ (by show 1 < 2; omega) rfl, Below.setCell BD.out (show wr.heap.size ≤ wr.heap.size from Nat.le_refl _) _⟩
              · have hbl : ws.length = WL := by have := QW.out; omega
                have h4i : ¬ (300 : Int) < (ws.length : Int) := by omega
                have HL := Lib.hid hbl
                clear hbl
                go_wp2_with fail
                go_meet
                exact ⟨rfl, by have := RD.out; rw [HL.out] at this; exact this, BD.out⟩
            case rest =>
              obtain ⟨rfl, hr, hb6⟩ := hcut
              have OV := Lib.hid (own_laterW OWN.out (hb6))
              have QV := Lib.hid (show ∀ q ∈ D, OwnQ wc (w.heap.size + 1 + 1) q from fun q hq => ⟨(HQ.out q hq).1.over hb6, (HQ.out q hq).2.over hb6⟩)
              have BV := Lib.hid hb6
              have d0 := hr.cell 0 _ rfl
              have d1 := hr.cell 1 _ rfl
              have vlt := hr.lt
              have glt := (own_lt OWN.out).2.1
              have ggl := (own_lt OWN.out).1
              have n2 : w.heap.size + 1 + 1 ≤ wc.heap.size := by omega
              clear hr hb6 RD BD c1' f1' dlt
              obtain ⟨i8, z8, h8i, h8z, h8s, h8b, h8c⟩ : ∃ i z, Try.prog.info? 130 = some i ∧ i.zero = some z ∧ i.size = 1 ∧ i.bytes = 1 ∧ z.cells.size = 1 := ⟨(Try.prog.info? 130).get!, (Try.prog.info? 130).get!.zero.get!, by kernel_rfl, by kernel_rfl, by kernel_rfl, by kernel_rfl, by kernel_rfl⟩
              obtain ⟨i32, z32, h32i, h32z, h32s, h32b, h32c⟩ : ∃ i z, Try.prog.info? 21 = some i ∧ i.zero = some z ∧ i.size = 1 ∧ i.bytes = 4 ∧ z.cells.size = 1 := ⟨(Try.prog.info? 21).get!, (Try.prog.info? 21).get!.zero.get!, by kernel_rfl, by kernel_rfl, by kernel_rfl, by kernel_rfl, by kernel_rfl⟩
              have PS := Lib.hid (show ∀ w', wc.grownBy w' (some g) → w'.cell? ⟨wr.heap.size, 0, none⟩ = some (.slice ba BL bc) ∧ w'.cell? ⟨wr.heap.size, 1, none⟩ = some (.slice wa WL wcp) from fun w' hg => ⟨hg.cell d0 (by simp; omega), hg.cell d1 (by simp; omega)⟩)
              have OA := Lib.hid (show (wc.alloc (.cells #[] 130)).drew.ownsRow (w.heap.size + 1 + 1) 130 1 (.slice (some ⟨wc.heap.size, 0, none⟩) 0 0) 0 [] from own_emptyT wc.drew _ _ 1 n2)
              have GA := Lib.hid (show Below wc.heap.size wc (wc.alloc (.cells #[] 130)).drew from (Below.alloc (Below.refl _ _) (Nat.le_refl _) _).drew)
              have GD := Lib.hid (show Below wc.heap.size wc (wc.alloc (.cells #[] 21)).drew from (Below.alloc (Below.refl _ _) (Nat.le_refl _) _).drew)
              have OB := Lib.hid (show ((wc.alloc (.cells #[] 130)).alloc (.cells #[] 21)).drew.ownsRow (w.heap.size + 1 + 1) 130 1 (.slice (some ⟨wc.heap.size, 0, none⟩) 0 0) 0 [] from own_laterW OA.out (Below.alloc (Below.refl _ _) (Nat.le_refl _) _))
              have OB32 := Lib.hid (show ((wc.alloc (.cells #[] 130)).alloc (.cells #[] 21)).drew.ownsRow (w.heap.size + 1 + 1) 21 1 (.slice (some ⟨wc.heap.size + 1, 0, none⟩) 0 0) 0 [] from by
                have := own_emptyT (wc.drew.alloc (.cells #[] 130)) (w.heap.size + 1 + 1) 21 1 (by simp; omega)
                rwa [show (wc.drew.alloc (.cells #[] 130)).heap.size = wc.heap.size + 1 by simp] at this)
              have GB := Lib.hid (show Below wc.heap.size wc ((wc.alloc (.cells #[] 130)).alloc (.cells #[] 21)).drew from (Below.alloc (Below.alloc (Below.refl _ _) (Nat.le_refl _) _) (by simp) _).drew)
              have OC32 := Lib.hid (show ((wc.alloc (.cells #[] 21)).alloc (.cells #[] 130)).drew.ownsRow (w.heap.size + 1 + 1) 21 1 (.slice (some ⟨wc.heap.size, 0, none⟩) 0 0) 0 [] from own_laterW (own_emptyT wc.drew _ _ 1 n2) (Below.alloc (Below.refl _ _) (Nat.le_refl _) _))
              have OC := Lib.hid (show ((wc.alloc (.cells #[] 21)).alloc (.cells #[] 130)).drew.ownsRow (w.heap.size + 1 + 1) 130 1 (.slice (some ⟨wc.heap.size + 1, 0, none⟩) 0 0) 0 [] from by
                have := own_emptyT (wc.drew.alloc (.cells #[] 21)) (w.heap.size + 1 + 1) 130 1 (by simp; omega)
                rwa [show (wc.drew.alloc (.cells #[] 21)).heap.size = wc.heap.size + 1 by simp] at this)
              have GC := Lib.hid (show Below wc.heap.size wc ((wc.alloc (.cells #[] 21)).alloc (.cells #[] 130)).drew from (Below.alloc (Below.alloc (Below.refl _ _) (Nat.le_refl _) _) (by simp) _).drew)
              have NB0 := Lib.hid (show ba = none → BL = 0 from fun h => by have h2 := ints_none HI1.out h; rw [HBL.out]; simp only [] at h2; rw [h2]; rfl)
              have NW0 := Lib.hid (show wa = none → WL = 0 from fun h => by have h2 := ints_none HI2.out h; rw [HWL.out]; simp only [] at h2; rw [h2]; rfl)
              have NBW := Lib.hid (fun (W : World) (hW : Below wc.heap.size wc W) => ints_newsA HI1.out (below_call BV.out hW) 4000)
              have NWW := Lib.hid (fun (W : World) (hW : Below wc.heap.size wc W) => ints_newsA HI2.out (below_call BV.out hW) 300)
              have NBO := Lib.hid (ints_one .i8 (bs.take 4000))
              have NWO := Lib.hid (ints_one .i32 (ws.take 300))
              have NBL := Lib.hid (show ((bs.take 4000).map fun z => Value.int .i8 z).length = BL * 1 by rw [List.length_map, Nat.mul_one, HBL.out])
              have NWL := Lib.hid (show ((ws.take 300).map fun z => Value.int .i32 z).length = WL * 1 by rw [List.length_map, Nat.mul_one, HWL.out])
              have E1 := Lib.hid (show BL ≤ maxLen by unfold maxLen; omega)
              have E2 := Lib.hid (show BL * 1 ≤ 140737488355328 by omega)
              have E3 := Lib.hid (show WL ≤ maxLen by unfold maxLen; omega)
              have E4 := Lib.hid (show WL * 4 ≤ 140737488355328 by omega)
              have N2 := Lib.hid n2
              have X0 := Lib.hid (show ∀ x, (Value.slice (some ⟨wc.heap.size, 0, none⟩) 0 0).ownBlock = some x → wc.heap.size ≤ x by intro x hx; simp [Value.ownBlock] at hx; omega)
              have X1 := Lib.hid (show ∀ x, (Value.slice (some ⟨wc.heap.size + 1, 0, none⟩) 0 0).ownBlock = some x → wc.heap.size ≤ x by intro x hx; simp [Value.ownBlock] at hx; omega)
              have Y1 := Lib.hid (show (Value.slice (some ⟨wc.heap.size, 0, none⟩) 0 0).ownBlock ≠ some (wc.heap.size + 1) by simp [Value.ownBlock])
              have Y0 := Lib.hid (show (Value.slice (some ⟨wc.heap.size + 1, 0, none⟩) 0 0).ownBlock ≠ some wc.heap.size by simp [Value.ownBlock])
              obtain ⟨i45, z45, h45i, h45z, h45s, h45b, h45c⟩ : ∃ i z, Try.prog.info? 53 = some i ∧ i.zero = some z ∧ i.size = 2 ∧ i.bytes = 48 ∧ z.cells.size = 2 := ⟨(Try.prog.info? 53).get!, (Try.prog.info? 53).get!.zero.get!, by kernel_rfl, by kernel_rfl, by kernel_rfl, by kernel_rfl, by kernel_rfl⟩
              have OVK := Lib.hid (show wc.ownsRow (w.heap.size + 1 + 1) 53 2 (.slice (some ⟨g, 0, none⟩) k c) k (cn2 D) from by have := OV.out; rwa [HD.out] at this)
              have E5 := Lib.hid (show k + 1 ≤ maxLen by unfold maxLen; omega)
              have E6 := Lib.hid (show (k + 1) * 48 ≤ 140737488355328 by omega)
              go_wp2_with fail
              go_region_held3 (fun w' => w'.cell? ⟨wr.heap.size, 0, none⟩ = some (.slice ba BL bc) ∧ w'.cell? ⟨wr.heap.size, 1, none⟩ = some (.slice wa WL wcp))
                (first | (with_reducible assumption) | (refine PS.out _ ?_; first | (with_reducible exact below_grown (Below.refl _ _) _) | (with_reducible exact below_grown (Below.refl _ _).drew _) | (with_reducible exact below_grown GA.out _) | (with_reducible exact below_grown GD.out _) | (with_reducible exact below_grown GB.out _) | (with_reducible exact below_grown GC.out _) | (with_reducible exact hG8) | (with_reducible exact grown_alloc1 hG8) | (with_reducible exact hG9) | (with_reducible exact grown_alloc1 hG9) | (with_reducible exact hG10) | go_grown))
                (first | (refine step_append_any rfl (.tmp 52) (.tmp 54) 50 rfl (w.heap.size + 1 + 1) 130 i8 z8 1 1 Try.underlying50 h8i h8z h8s h8b h8c (by decide) _ rfl OA.out ba BL bc _ rfl NBL.out NB0.out (NBW.out _ GA.out) NBO.out E1.out E2.out (Nat.le_trans N2.out GA.out.size) ?_; intro v8 w8 ho8 hg8 hn8; obtain ⟨g8, c8, rfl⟩ := own_shape2 ho8 hn8; have hB8 : Below wc.heap.size wc w8 := GA.out.grown hg8 GA.out.size X0.out; have hG8 := below_grown hB8 (some g)) | (refine step_append_any rfl (.tmp 52) (.tmp 54) 50 rfl (w.heap.size + 1 + 1) 130 i8 z8 1 1 Try.underlying50 h8i h8z h8s h8b h8c (by decide) _ rfl OB.out ba BL bc _ rfl NBL.out NB0.out (NBW.out _ GB.out) NBO.out E1.out E2.out (Nat.le_trans N2.out GB.out.size) ?_; intro v8 w8 ho8 hg8 hn8; obtain ⟨g8, c8, rfl⟩ := own_shape2 ho8 hn8; have hB8 : Below wc.heap.size wc w8 := GB.out.grown hg8 GB.out.size X0.out; have hG8 := below_grown hB8 (some g); have ow := own_grown OB32.out hg8 Y1.out) | (refine step_append_any rfl (.tmp 52) (.tmp 54) 50 rfl (w.heap.size + 1 + 1) 130 i8 z8 1 1 Try.underlying50 h8i h8z h8s h8b h8c (by decide) _ rfl OC.out ba BL bc _ rfl NBL.out NB0.out (NBW.out _ GC.out) NBO.out E1.out E2.out (Nat.le_trans N2.out GC.out.size) ?_; intro v8 w8 ho8 hg8 hn8; obtain ⟨g8, c8, rfl⟩ := own_shape2 ho8 hn8; have hB8 : Below wc.heap.size wc w8 := GC.out.grown hg8 GC.out.size X1.out; have hG8 := below_grown hB8 (some g); have ow := own_grown OC32.out hg8 Y0.out) | (refine step_append_any rfl (.tmp 56) (.tmp 58) 51 rfl (w.heap.size + 1 + 1) 21 i32 z32 1 4 Try.underlying51 h32i h32z h32s h32b h32c (by decide) _ rfl (own_emptyT w8 (w.heap.size + 1 + 1) 21 1 (Nat.le_trans N2.out hB8.size)) wa WL wcp _ rfl NWL.out NW0.out (NWW.out _ (below_alloc1 hB8)) NWO.out E3.out E4.out (Nat.le_trans N2.out (below_alloc1 hB8).size) ?_; intro v9 w9 ho9 hg9 hn9; obtain ⟨g9, c9, rfl⟩ := own_shape2 ho9 hn9; have hB9 : Below wc.heap.size wc w9 := (below_alloc1 hB8).grown hg9 (below_alloc1 hB8).size (blk_geS hB8.size); have hG9 := below_grown hB9 (some g); have ho8' := own_grown (own_laterW ho8 (Below.alloc (Below.refl w8.heap.size w8) (Nat.le_refl _) (.cells #[] 21))) hg9 (blk_neS (own_ne (own_emptyT w8 (w.heap.size + 1 + 1) 21 1 (Nat.le_trans N2.out hB8.size)) (own_laterW ho8 (Below.alloc (Below.refl w8.heap.size w8) (Nat.le_refl _) (.cells #[] 21))) (by decide)))) | (refine step_append_any rfl (.tmp 56) (.tmp 58) 51 rfl (w.heap.size + 1 + 1) 21 i32 z32 1 4 Try.underlying51 h32i h32z h32s h32b h32c (by decide) _ rfl ow wa WL wcp _ rfl NWL.out NW0.out (NWW.out _ hB8) NWO.out E3.out E4.out (Nat.le_trans N2.out (hB8).size) ?_; intro v9 w9 ho9 hg9 hn9; obtain ⟨g9, c9, rfl⟩ := own_shape2 ho9 hn9; have hB9 : Below wc.heap.size wc w9 := (hB8).grown hg9 (hB8).size (blk_geS (Nat.le_succ wc.heap.size)); have hG9 := below_grown hB9 (some g); have ho8' := own_grown ho8 hg9 (blk_neS (own_ne ow ho8 (by decide)))) | (refine step_append_any rfl (.tmp 56) (.tmp 58) 51 rfl (w.heap.size + 1 + 1) 21 i32 z32 1 4 Try.underlying51 h32i h32z h32s h32b h32c (by decide) _ rfl ow wa WL wcp _ rfl NWL.out NW0.out (NWW.out _ hB8) NWO.out E3.out E4.out (Nat.le_trans N2.out (hB8).size) ?_; intro v9 w9 ho9 hg9 hn9; obtain ⟨g9, c9, rfl⟩ := own_shape2 ho9 hn9; have hB9 : Below wc.heap.size wc w9 := (hB8).grown hg9 (hB8).size (blk_geS (Nat.le_refl wc.heap.size)); have hG9 := below_grown hB9 (some g); have ho8' := own_grown ho8 hg9 (blk_neS (own_ne ow ho8 (by decide)))) | (refine step_append_own rfl (.tmp 51) (.tmp 61) 23 rfl (w.heap.size + 1 + 1) 53 i45 z45 2 48 Try.underlying23 h45i h45z h45s h45b h45c (by decide) _ k (cn2 D) rfl (own_laterW (own_laterW OVK.out hB9) (Below.alloc (Below.refl _ _) (Nat.le_refl _) _)) ⟨_, 0, none⟩ 1 1 [.slice (some ⟨g8, 0, none⟩) BL c8, .slice (some ⟨g9, 0, none⟩) WL c9] rfl rfl (news2 _ _ _ _ _ rfl) (one2 _ _ _ _ _ _) E5.out E6.out (Nat.le_trans N2.out (below_alloc1 hB9).size) ?_; intro v10 w10 ho10 hg10 hn10; obtain ⟨g10, c10, rfl⟩ := own_shapeN ho10 (Nat.succ_pos _); have hG10 : wc.grownBy w10 (some g) := grown_trans (grown_alloc1 hG9) hg10))
              all_goals
                have NG := hG10
                have R10 := Lib.hid ho10
                have R8 := Lib.hid (own_laterW ho8' (Below.alloc (Below.refl w9.heap.size w9) (Nat.le_refl _) (.cells #[.slice (some ⟨g8, 0, none⟩) BL c8, .slice (some ⟨g9, 0, none⟩) WL c9] 53)))
                have R9 := Lib.hid (own_laterW ho9 (Below.alloc (Below.refl w9.heap.size w9) (Nat.le_refl _) (.cells #[.slice (some ⟨g8, 0, none⟩) BL c8, .slice (some ⟨g9, 0, none⟩) WL c9] 53)))
                have RL := Lib.hid (own_laterW (own_laterW OVK.out hB9) (Below.alloc (Below.refl w9.heap.size w9) (Nat.le_refl _) (.cells #[.slice (some ⟨g8, 0, none⟩) BL c8, .slice (some ⟨g9, 0, none⟩) WL c9] 53)))
                have H10 := Lib.hid hg10
                have HG10 := Lib.hid hG10
                have B9 := Lib.hid (below_alloc1 (o := .cells #[.slice (some ⟨g8, 0, none⟩) BL c8, .slice (some ⟨g9, 0, none⟩) WL c9] 53) hB9)
                clear NG ho10 ho8' ho9 hg10 hG10 hB9 hG9 ho8 hg8 hg9 hB8 hG8 d0 d1
                go_wp2_with fail
                refine ⟨⟨k + 1, g10, c10, D ++ [⟨some ⟨g8, 0, none⟩, c8, bs.take 4000, some ⟨g9, 0, none⟩, c9, ws.take 300⟩], by have := HK.out; omega, rfl, rfl, by rw [List.length_append, HD.out]; rfl, ?_, ?_, (fun q hq => by
                  rcases List.mem_append.1 hq with h | h
                  · exact HQS.out q h
                  · obtain rfl := List.mem_singleton.1 h
                    exact ⟨by show (bs.take 4000).length ≤ 4000; rw [List.length_take]; omega, by show (ws.take 300).length ≤ 300; rw [List.length_take]; omega⟩), ?_⟩, by have := HK.out; simp [intOf]; omega⟩
                · rw [List.length_append, HD.out, cn2_app]
                  show World.ownsRow _ _ _ _ _ _ (cn2 D ++ [.slice (some ⟨g8, 0, none⟩) (bs.take 4000).length c8, .slice (some ⟨g9, 0, none⟩) (ws.take 300).length c9])
                  rw [← HBL.out, ← HWL.out]
                  exact R10.out
                · intro q hq
                  rcases List.mem_append.1 hq with h | h
                  · exact ⟨((QV.out q h).1.over B9.out).grown RL.out (by decide) H10.out, ((QV.out q h).2.over B9.out).grown RL.out (by decide) H10.out⟩
                  · obtain rfl := List.mem_singleton.1 h
                    refine ⟨OwnI.grown ⟨⟨g8, rfl, ?_⟩, fun z hz => HI1.out.2 z (List.mem_of_mem_take hz)⟩ RL.out (by decide) H10.out, OwnI.grown ⟨⟨g9, rfl, ?_⟩, fun z hz => HI2.out.2 z (List.mem_of_mem_take hz)⟩ RL.out (by decide) H10.out⟩
                    · show World.ownsRow _ _ _ _ (.slice _ (bs.take 4000).length _) (bs.take 4000).length _
                      rw [← HBL.out]
                      exact R8.out
                    · show World.ownsRow _ _ _ _ (.slice _ (ws.take 300).length _) (ws.take 300).length _
                      rw [← HWL.out]
                      exact R9.out
                · exact (HB.out.trans (BV.out.mono (by omega))).grown HG10.out (by omega) (fun x hx => by obtain rfl := Option.some.inj hx; exact ggl)
        · obtain rfl : k = CL := by omega
          have HD20 := Lib.hid (show D.length ≤ 20 by rw [HD.out]; have := QC.out; omega)
          have rb := RB2.out.later HB.out (show w.heap.size + 1 < w.heap.size + 1 + 1 by omega)
          have ra := RA2.out.later HB.out (show w.heap.size < w.heap.size + 1 + 1 by omega)
          have RAr := Lib.hid ra
          have RBr := Lib.hid rb
          have gl : w.heap.size + 1 + 1 ≤ wr.heap.size := by omega
          obtain ⟨i1, z1, hi1, hz1, hz2, hz3, hz4⟩ : ∃ i z, Try.prog.info? 47 = some i ∧ i.zero = some z ∧ i.size = 26 ∧ i.bytes = 200 ∧ z.cells.size = 26 := ⟨(Try.prog.info? 47).get!, (Try.prog.info? 47).get!.zero.get!, by kernel_rfl, by kernel_rfl, by kernel_rfl, by kernel_rfl, by kernel_rfl⟩
          have OE := Lib.hid (own_emptyT wr (w.heap.size + 1 + 1) 47 26 gl)
          have BL0 : Below wr.heap.size wr (wr.alloc (.cells #[] 47)) := Below.alloc (Below.refl _ _) (Nat.le_refl _) _
          have BL := Lib.hid BL0
          have A4 := ra.cell 4 _ rfl
          have a4 := A4
          have OD := Lib.hid (own_laterW OWN.out BL0)
          have OQ := Lib.hid (show ∀ q ∈ D, OwnQ (wr.alloc (.cells #[] 47)) (w.heap.size + 1 + 1) q from fun q hq => ⟨(HQ.out q hq).1.over BL0, (HQ.out q hq).2.over BL0⟩)
          have B6 := Lib.hid (below_call BWr.out BL0)
          have ga := (own_lt OWN.out).2.1
          have WF := Lib.hid (show ∀ n ∈ ns.take 12, AreInts kN n.cells from fun n hn => nds_wf HN.out n (List.mem_of_mem_take hn))
          have L12 := Lib.hid (show (ns.take 12).length ≤ 12 by rw [List.length_take]; omega)
          clear ra rb BL0 A4
          by_cases hN0 : NL = 0
          · have hnil : ns.take 12 = [] := List.eq_nil_of_length_eq_zero (by rw [← HNL.out]; exact hN0)
            have HNI := Lib.hid hnil
            clear hnil
            subst hN0
            go_wp2_with (at_builtin; refine wpList_append_zero rfl (.tmp 64) (.tmp 66) 24 rfl 47 i1 z1 Try.underlying24 hi1 hz1 wr.heap.size rfl na nc rfl ?_; have ra6 := RAr.out.over BL.out; have rb6 := RBr.out.over BL.out; generalize wr.alloc (.cells #[] 47) = w6 at *; have u0 := ra6.cell 0 _ rfl; have u1 := ra6.cell 1 _ rfl; have u2 := ra6.cell 2 _ rfl; have u3 := ra6.cell 3 _ rfl; have u4 := ra6.cell 4 _ rfl; have u5 := ra6.cell 5 _ rfl; have v3 := ra6.fr 3; have v4 := ra6.fr 4; have x0 := rb6.cell 0 _ rfl; have x1 := rb6.cell 1 _ rfl; have x2 := rb6.cell 2 _ rfl; have x3 := rb6.cell 3 _ rfl; have x4 := rb6.cell 4 _ rfl; have x5 := rb6.cell 5 _ rfl; have y0 := rb6.fr 0; have y1 := rb6.fr 1; have y2 := rb6.fr 2; have y3 := rb6.fr 3; have y4 := rb6.fr 4; have y5 := rb6.fr 5; have rl6 := rb6.lt; have RB6 := Lib.hid rb6; clear ra6 rb6)
            have FE := few_end (w := w) (w6 := w6) (gx := gx) (gy := gy) (gz := gz) (go := go) (ns := []) B6.out OD.out OQ.out OE.out (fun n hn => by simp at hn) (by simp) HD20.out HQS.out RB6.out
            simp only [HD.out, List.length_nil] at FE
            exact bodyPost_ret (results_cell_mid rfl _ _ (w.heap.size + 1) _ rfl (load_row FE.2 26 _ Try.underlying26 rfl (by kernel_rfl))) rfl FE.1
          · obtain ⟨b, off, hna, hb⟩ := nds_some HN.out (by have := QN.out; omega)
            subst hna
            have NW := Lib.hid (nds_news HN.out (BWr.out.trans ((Below.alloc (Below.refl wr.heap.size wr) (Nat.le_refl _) (.cells #[] 47)).mono (by omega))) 12)
            have NO := Lib.hid (show ∀ u ∈ nd26 (ns.take 12), u.oneCell' = true from fun u hu => by obtain ⟨n, _, hn⟩ := List.mem_flatMap.1 hu; exact Nd.one n u hn)
            have NLn := Lib.hid (show (nd26 (ns.take 12)).length = NL * 26 by rw [nd26_len, HNL.out])
            have E1 := Lib.hid (show 0 + NL ≤ maxLen by unfold maxLen; omega)
            have E2 := Lib.hid (show (0 + NL) * 200 ≤ 140737488355328 by omega)
            have NPo := Lib.hid (show 0 < NL by omega)
            have NE1 := Lib.hid (show some w.heap.size ≠ (Value.slice (some ⟨wr.heap.size, 0, none⟩) 0 0).ownBlock by simp [Value.ownBlock]; omega)
            have NE2 := Lib.hid (show some (w.heap.size + 1) ≠ (Value.slice (some ⟨wr.heap.size, 0, none⟩) 0 0).ownBlock by simp [Value.ownBlock]; omega)
            have NE3 := Lib.hid (show (Value.slice (some ⟨wr.heap.size, 0, none⟩) 0 0).ownBlock ≠ some g by simp [Value.ownBlock]; omega)
            have NE4 := Lib.hid (show ∀ x, (Value.slice (some ⟨wr.heap.size, 0, none⟩) 0 0).ownBlock = some x → w.heap.size ≤ x by intro x hx; simp [Value.ownBlock] at hx; omega)
            clear hN0
            go_wp2_with (at_builtin; refine wpList_append_own _ rfl (.tmp 64) (.tmp 66) 24 rfl (w.heap.size + 1 + 1) 47 i1 z1 26 200 Try.underlying24 hi1 hz1 hz2 hz3 hz4 (by decide) _ 0 [] rfl OE.out ⟨b, off, none⟩ NL nc (nd26 (ns.take 12)) rfl NLn.out NW.out NO.out E1.out E2.out (by simp; omega) ?_; intro v' w6 hown6 hg6 hn6; rw [Nat.zero_add, List.nil_append] at hown6; obtain ⟨gn, cn, rfl⟩ := own_shapeN hown6 NPo.out; have ra6 := (RAr.out.over BL.out).far hg6 NE1.out; have rb6 := (RBr.out.over BL.out).far hg6 NE2.out; have O6 := Lib.hid hown6; have G6 := Lib.hid hg6; clear hown6 hg6 hn6; have u0 := ra6.cell 0 _ rfl; have u1 := ra6.cell 1 _ rfl; have u2 := ra6.cell 2 _ rfl; have u3 := ra6.cell 3 _ rfl; have u4 := ra6.cell 4 _ rfl; have u5 := ra6.cell 5 _ rfl; have v3 := ra6.fr 3; have v4 := ra6.fr 4; have x0 := rb6.cell 0 _ rfl; have x1 := rb6.cell 1 _ rfl; have x2 := rb6.cell 2 _ rfl; have x3 := rb6.cell 3 _ rfl; have x4 := rb6.cell 4 _ rfl; have x5 := rb6.cell 5 _ rfl; have y0 := rb6.fr 0; have y1 := rb6.fr 1; have y2 := rb6.fr 2; have y3 := rb6.fr 3; have y4 := rb6.fr 4; have y5 := rb6.fr 5; have rl6 := rb6.lt; have RB6 := Lib.hid rb6; clear ra6 rb6)
            have FE := few_end (w := w) (w6 := w6) (gx := gx) (gy := gy) (gz := gz) (go := go) (ns := ns.take 12) (gn := gn) (cn := cn) (B6.out.grown G6.out B6.out.size NE4.out) (own_grown OD.out G6.out NE3.out) (fun q hq => ⟨(OQ.out q hq).1.grown OE.out (by decide) G6.out, (OQ.out q hq).2.grown OE.out (by decide) G6.out⟩) (by rw [← HNL.out]; exact O6.out) WF.out L12.out HD20.out HQS.out RB6.out
            simp only [HD.out, ← HNL.out] at FE
            exact bodyPost_ret (results_cell_mid rfl _ _ (w.heap.size + 1) _ rfl (load_row FE.2 26 _ Try.underlying26 rfl (by kernel_rfl))) rfl FE.1
end Go.Proofs.Ytmifojpmomdmeaa
