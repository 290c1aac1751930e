/- The document's Same of networks: two of one content. -/
import Derived.Test.YtdbfakllcaojcaaFS
import Derived.Test.YtdbfakllcaojcaaNdEq
import Derived.Test.YtdbfakllcaojcaaFB
import Derived.Test.YtdbfakllcaojcaaRsC
import Derived.Deep.RegionHeld
import Derived.Deep.DeepCutAuto
import Derived.Test.YtdbfakllcaojcaaFuF
import Derived.Test.YtdbfakllcaojcaaRsS
import Derived.Test.YtdbfakllcaojcaaRFu
namespace Go.Proofs.Ytdbfakllcaojcaa
open Go Go.RowKit
set_option linter.unusedVariables false
set_option linter.unusedSimpArgs false
set_option maxRecDepth 100000

theorem row2_new {w : World} {X : Nat} {a b : Value} {T : TypeId} (h : X = w.heap.size) : RowAt (w.alloc (.cells #[a, b] T)) X [a, b] := by subst h; exact RowAt.new w [a, b] T
theorem row2_s0 {w : World} {X : Nat} {a b v : Value} (h : RowAt w X [a, b]) : RowAt (w.setCell ⟨X, 0, none⟩ v) X [v, b] := h.set 0 v (by show 0 < 2; omega) rfl
theorem row2_s1 {w : World} {X : Nat} {a b v : Value} (h : RowAt w X [a, b]) : RowAt (w.setCell ⟨X, 1, none⟩ v) X [a, v] := h.set 1 v (by show 1 < 2; omega) rfl
theorem row2_al {w : World} {X : Nat} {l : List Value} (h : RowAt w X l) (b) : RowAt (w.alloc b) X l := h.over (Below.alloc (Below.refl _ _) (Nat.le_refl _) _)
set_option maxHeartbeats 8000000 in
theorem gsame_any (g h : GrQ) (w : World) (gC : CnsIn w g.ca g.C g.cc) (gN : NdsIn w g.na g.ns g.nc) (hC : CnsIn w h.ca h.C h.cc) (hN : NdsIn w h.na h.ns h.nc) (ex : h.x = g.x) (ey : h.y = g.y) (ez : h.z = g.z) (eo : h.o = g.o) (eC : h.C.map CnQ.cn = g.C.map CnQ.cn) (eN : h.ns = g.ns)
    (bn : g.ns.length ≤ 1000) (bc : g.C.length ≤ 1000) (bq : ∀ q ∈ g.C, q.bs.length ≤ 1000000 ∧ q.ws.length ≤ 1000000) :
    Calls Try.prog 16 #[g.val, h.val] w fun e w' => e = .returned (.bool true) ∧ Below w.heap.size w w' := by
  obtain ⟨T, Z, Z0, NL⟩ := node_type
  have hL := NL.load
  have tA := NL.agg
  have tS := NL.size
  obtain ⟨x, y, z, ca, cc, C, na, nc, ns, o⟩ := g
  obtain ⟨x', y', z', ca', cc', C', na', nc', ns', o'⟩ := h
  dsimp only at *
  subst ex ey ez eo eN
  have hCl : C'.length = C.length := by have := congrArg List.length eC; simpa using this
  have HCL := Lib.hid hCl
  unfold GrQ.val
  dsimp only
  rw [hCl]
  have R0 := RowAt.new w [.int .i64 x', .int .i64 y', .int .i64 z', .slice ca C.length cc, .slice na ns'.length nc, .int .i64 o'] 26
  have hal := Below.alloc (Below.refl (w.alloc (.cells #[.int .i64 x', .int .i64 y', .int .i64 z', .slice ca C.length cc, .slice na ns'.length nc, .int .i64 o'] 26)).heap.size (w.alloc (.cells #[.int .i64 x', .int .i64 y', .int .i64 z', .slice ca C.length cc, .slice na ns'.length nc, .int .i64 o'] 26))) (Nat.le_refl _) (.cells #[.int .i64 x', .int .i64 y', .int .i64 z', .slice ca' C.length cc', .slice na' ns'.length nc', .int .i64 o'] 26)
  have R1 := RowAt.new (w.alloc (.cells #[.int .i64 x', .int .i64 y', .int .i64 z', .slice ca C.length cc, .slice na ns'.length nc, .int .i64 o'] 26)) [.int .i64 x', .int .i64 y', .int .i64 z', .slice ca' C.length cc', .slice na' ns'.length nc', .int .i64 o'] 26
  rw [size_alloc1] at R1
  have RG := Lib.hid (R0.over hal)
  have RH := Lib.hid R1
  have BW := Lib.hid (below_call (Below.alloc (Below.refl w.heap.size w) (Nat.le_refl _) (.cells #[.int .i64 x', .int .i64 y', .int .i64 z', .slice ca C.length cc, .slice na ns'.length nc, .int .i64 o'] 26)) hal)
  have GC := Lib.hid gC
  have GN := Lib.hid gN
  have HC := Lib.hid hC
  have HN := Lib.hid hN
  have EC := Lib.hid eC
  have BQ := Lib.hid bq
  clear R0 R1 hal gC gN hC hN eC hCl bq
  go_enter Try.func16, Try.ntmps16
  simp only [hL]
  clear hL
  go_upto_region 1 with fail
  generalize (w.alloc (.cells #[.int .i64 x', .int .i64 y', .int .i64 z', .slice ca C.length cc, .slice na ns'.length nc, .int .i64 o'] 26)).alloc (.cells #[.int .i64 x', .int .i64 y', .int .i64 z', .slice ca' C.length cc', .slice na' ns'.length nc', .int .i64 o'] 26) = W1 at *
  have EQ : ∀ w : World, (Op.equalIn 10000 22 (.agg #[.int .i64 x', .int .i64 y', .int .i64 z']) (.agg #[.int .i64 x', .int .i64 y', .int .i64 z'])).run Try.prog w = .ok true w := fun w => by
    rw [eqA3 Try.underlying22 Try.underlying3 info3j cells3j]; simp
  have g0 := RG.out.cell 0 _ rfl
  have g1 := RG.out.cell 1 _ rfl
  have g2 := RG.out.cell 2 _ rfl
  have g3 := RG.out.cell 3 _ rfl
  have g4 := RG.out.cell 4 _ rfl
  have g5 := RG.out.cell 5 _ rfl
  have gl := RG.out.lt
  have h0 := RH.out.cell 0 _ rfl
  have h1 := RH.out.cell 1 _ rfl
  have h2 := RH.out.cell 2 _ rfl
  have h3 := RH.out.cell 3 _ rfl
  have h4 := RH.out.cell 4 _ rfl
  have h5 := RH.out.cell 5 _ rfl
  have hl := RH.out.lt
  go_wp2_with fail
  go_loopw [5] (fun s5 wr => ∃ k : Nat, k ≤ ns'.length ∧ s5 = .int .i64 k ∧ Below W1.heap.size W1 wr) (fun s5 _ => ns'.length - (intOf s5).toNat)
  case atStart => exact ⟨0, Nat.zero_le _, rfl, Below.refl _ _⟩
  case round =>
    obtain ⟨k, hk, rfl, hb⟩ := hrel
    have HB := Lib.hid hb
    have g4r := (RG.out.over hb).cell 4 _ rfl
    have h4r := (RH.out.over hb).cell 4 _ rfl
    have glr := (RG.out.over hb).lt
    have hlr := (RH.out.over hb).lt
    by_cases hkl : k < ns'.length
    · obtain ⟨n, hn⟩ : ∃ n, ns'[k]? = some n := ⟨_, List.getElem?_eq_getElem hkl⟩
      obtain ⟨b1, o1, e1, l1, r1⟩ := nds_range GN.out k n hn
      obtain ⟨b2, o2, e2, l2, r2⟩ := nds_range HN.out k n hn
      subst e1 e2
      have hbw := below_call BW.out hb
      have tR1 := NL.read n wr.drew b1 (o1 + k * 26) (fun j v hv => (hbw.cell (p := ⟨b1, _, none⟩) l1).trans (r1 j v hv))
      have tR2 := NL.read n wr.drew b2 (o2 + k * 26) (fun j v hv => (hbw.cell (p := ⟨b2, _, none⟩) l2).trans (r2 j v hv))
      have tL := NL.len n
      have NE : ∀ w : World, (Op.equalIn 10000 57 (.agg n.cells.toArray) (.agg n.cells.toArray)).run Try.prog w = .ok true w := fun w => by
        obtain ⟨r, hr, hi⟩ := nd_eq n n w
        rw [hi.2 rfl] at hr
        exact hr
      have kl0 : (0 : Int) ≤ (k : Int) := by omega
      have kl1 : (k : Int) < (ns'.length : Int) := by omega
      have HK := Lib.hid hkl
      clear hn r1 r2 hbw hkl
      go_upto_region 6 with fail
      go_region
      all_goals (go_wp2_with fail)
      all_goals exact ⟨⟨k + 1, HK.out, rfl, HB.out.drew⟩, by have := HK.out; simp [intOf]; omega⟩
    · obtain rfl : k = ns'.length := by omega
      have kl1 : ¬ ((ns'.length : Int) < (ns'.length : Int)) := by omega
      clear hb hkl
      go_wp2_with fail
      clear g4r h4r g0 g1 g2 g3 g4 g5 h0 h1 h2 h3 h4 h5 glr hlr kl1 EQ tA tS
      generalize wr = wz at *
      go_loopw [6] (fun s6 wq => ∃ k : Nat, k ≤ C.length ∧ s6 = .int .i64 k ∧ Below wz.heap.size wz wq) (fun s6 _ => C.length - (intOf s6).toNat)
      case atStart => exact ⟨0, Nat.zero_le _, rfl, Below.refl _ _⟩
      case round =>
        obtain ⟨k, hk, rfl, hb⟩ := hrel
        have HL := Lib.hid hb
        have HB1 := Lib.hid (below_call HB.out hb)
        have HBw := Lib.hid (below_call BW.out (below_call HB.out hb))
        have g3r := (RG.out.over HB1.out).cell 3 _ rfl
        have h3r := (RH.out.over HB1.out).cell 3 _ rfl
        have glr := (RG.out.over HB1.out).lt
        have hlr := (RH.out.over HB1.out).lt
        clear hb
        by_cases hkl : k < C.length
        · obtain ⟨q, hq⟩ : ∃ q, C[k]? = some q := ⟨_, List.getElem?_eq_getElem hkl⟩
          obtain ⟨q', hq'⟩ : ∃ q, C'[k]? = some q := ⟨_, List.getElem?_eq_getElem (by rw [HCL.out]; exact hkl)⟩
          have hcn : q'.cn = q.cn := by
            have h1 : (C'.map CnQ.cn)[k]? = some q'.cn := by rw [List.getElem?_map, hq']; rfl
            have h2 : (C.map CnQ.cn)[k]? = some q.cn := by rw [List.getElem?_map, hq]; rfl
            rw [EC.out, h2] at h1
            exact (Option.some.inj h1).symm
          obtain ⟨b1, o1, e1, l1, t0, t1⟩ := cns_cell GC.out hq
          obtain ⟨b2, o2, e2, l2, u0, u1⟩ := cns_cell HC.out hq'
          subst e1 e2
          have QG := Lib.hid (GC.out.2.2.1 q (List.mem_of_getElem? hq))
          have QH := Lib.hid (HC.out.2.2.1 q' (List.mem_of_getElem? hq'))
          have QL := Lib.hid (BQ.out q (List.mem_of_getElem? hq))
          obtain ⟨ba, bc, bs, wa, wc, ws⟩ := q
          obtain ⟨ba', bc', bs', wa', wc', ws'⟩ := q'
          have hbs : bs' = bs ∧ ws' = ws := by simpa [CnQ.cn] using hcn
          obtain ⟨rfl, rfl⟩ := hbs
          replace t0 := (HBw.out.cell (p := ⟨b1, _, none⟩) l1).trans t0
          replace t1 := (HBw.out.cell (p := ⟨b1, _, none⟩) l1).trans t1
          replace u0 := (HBw.out.cell (p := ⟨b2, _, none⟩) l2).trans u0
          replace u1 := (HBw.out.cell (p := ⟨b2, _, none⟩) l2).trans u1
          dsimp only at t0 t1 u0 u1
          have kl0 : (0 : Int) ≤ (k : Int) := by omega
          have kl1 : (k : Int) < (C.length : Int) := by omega
          have HK := Lib.hid hkl
          have L1 := Lib.hid (Nat.lt_of_lt_of_le l1 HBw.out.size)
          have L2 := Lib.hid (Nat.lt_of_lt_of_le l2 HBw.out.size)
          have T0 := Lib.hid t0
          have T1 := Lib.hid t1
          have U0 := Lib.hid u0
          have U1 := Lib.hid u1
          clear hq hq' hcn l1 l2 hkl
          go_upto_region 11 with fail
          go_cut [7, 8] (fun s7 s8 wx => ∃ X Y : Nat, s7 = .pointer (some ⟨X, 0, none⟩) ∧ s8 = .pointer (some ⟨Y, 0, none⟩) ∧ RowAt wx X [.slice ba bs'.length bc, .slice wa ws'.length wc] ∧ RowAt wx Y [.slice ba' bs'.length bc', .slice wa' ws'.length wc'] ∧ Below wr.heap.size wr wx)
          case first =>
            have PS := Lib.hid (show ∀ W', Below wr.heap.size wr W' → (fun w' => w'.cell? ⟨b1, o1 + k * 2, none⟩ = some (.slice ba bs'.length bc) ∧ w'.cell? ⟨b1, o1 + k * 2 + 1, none⟩ = some (.slice wa ws'.length wc) ∧ w'.cell? ⟨b2, o2 + k * 2, none⟩ = some (.slice ba' bs'.length bc') ∧ w'.cell? ⟨b2, o2 + k * 2 + 1, none⟩ = some (.slice wa' ws'.length wc') ∧ w'.cell? ⟨w.heap.size, 3, none⟩ = some (.slice (some ⟨b1, o1, none⟩) C.length cc) ∧ w'.cell? ⟨w.heap.size + 1, 3, none⟩ = some (.slice (some ⟨b2, o2, none⟩) C.length cc') ∧ Below wr.heap.size wr w') W' from fun W' hb => ⟨(hb.cell (p := ⟨b1, _, none⟩) L1.out).trans T0.out, (hb.cell (p := ⟨b1, _, none⟩) L1.out).trans T1.out, (hb.cell (p := ⟨b2, _, none⟩) L2.out).trans U0.out, (hb.cell (p := ⟨b2, _, none⟩) L2.out).trans U1.out, (RG.out.over (below_call HB1.out hb)).cell 3 _ rfl, (RH.out.over (below_call HB1.out hb)).cell 3 _ rfl, hb⟩)
            clear t0 t1 u0 u1 g3r h3r
            go_region_held3 (fun w' => w'.cell? ⟨b1, o1 + k * 2, none⟩ = some (.slice ba bs'.length bc) ∧ w'.cell? ⟨b1, o1 + k * 2 + 1, none⟩ = some (.slice wa ws'.length wc) ∧ w'.cell? ⟨b2, o2 + k * 2, none⟩ = some (.slice ba' bs'.length bc') ∧ w'.cell? ⟨b2, o2 + k * 2 + 1, none⟩ = some (.slice wa' ws'.length wc') ∧ w'.cell? ⟨w.heap.size, 3, none⟩ = some (.slice (some ⟨b1, o1, none⟩) C.length cc) ∧ w'.cell? ⟨w.heap.size + 1, 3, none⟩ = some (.slice (some ⟨b2, o2, none⟩) C.length cc') ∧ Below wr.heap.size wr w')
              (first | (with_reducible assumption) | (refine PS.out _ ?_; go_grown))
              (fail)
            · go_wp2_with fail
              go_meet
              exact ⟨_, _, rfl, rfl, (row2_al (row2_new rfl) _).over (Below.refl _ _).drew, (row2_new (by simp)).over (Below.refl _ _).drew, (Below.alloc (Below.alloc (Below.refl _ _) (Nat.le_refl _) _) (by simp) _).drew⟩
            · go_wp2_with fail
              go_meet
              exact ⟨_, _, rfl, rfl, (row2_new (by simp)).over (Below.refl _ _).drew, (row2_al (row2_new rfl) _).over (Below.refl _ _).drew, (Below.alloc (Below.alloc (Below.refl _ _) (Nat.le_refl _) _) (by simp) _).drew⟩
          case rest =>
            obtain ⟨X, Y, rfl, rfl, hX, hY, hb⟩ := hcut
            have RXwc := Lib.hid hX
            have RYwc := Lib.hid hY
            have HC1 := Lib.hid hb
            have HCw := Lib.hid (below_call HBw.out hb)
            have x0 := hX.cell 0 _ rfl
            have x1 := hX.cell 1 _ rfl
            have y0 := hY.cell 0 _ rfl
            have y1 := hY.cell 1 _ rfl
            have xl := hX.lt
            have yl := hY.lt
            have jb : bs'.length ≤ 1000000 := QL.out.1
            have jw : ws'.length ≤ 1000000 := QL.out.2
            clear t0 t1 u0 u1 g3r h3r hX hY hb glr hlr kl1
            generalize wr = wk at *
            go_wp2_with fail
            clear x0 x1 y0 y1 xl yl jb jw
            go_loopw [9] (fun s9 wx => ∃ j : Nat, j ≤ bs'.length ∧ s9 = .int .i64 j ∧ Below wc.heap.size wc wx) (fun s9 _ => bs'.length - (intOf s9).toNat)
            case atStart => exact ⟨0, Nat.zero_le _, rfl, Below.refl _ _⟩
            case round =>
              obtain ⟨j, hj, rfl, hb⟩ := hrel
              have HJ9 := Lib.hid hb
              have HW9 := Lib.hid (below_call HCw.out hb)
              have xr := (RXwc.out.over hb).cell 0 _ rfl
              have yr := (RYwc.out.over hb).cell 0 _ rfl
              have xlr := (RXwc.out.over hb).lt
              have ylr := (RYwc.out.over hb).lt
              clear hb
              by_cases hjl : j < bs'.length
              · obtain ⟨z, hz⟩ : ∃ z, bs'[j]? = some z := ⟨_, List.getElem?_eq_getElem hjl⟩
                obtain ⟨_, d1, p1, e1, m1, v1⟩ := ints_cell QG.out.1 j z hz
                obtain ⟨_, d2, p2, e2, m2, v2⟩ := ints_cell QH.out.1 j z hz
                subst e1 e2
                replace v1 := (HW9.out.cell (p := ⟨d1, _, none⟩) m1).trans v1
                replace v2 := (HW9.out.cell (p := ⟨d2, _, none⟩) m2).trans v2
                replace m1 := Nat.lt_of_lt_of_le m1 HW9.out.size
                replace m2 := Nat.lt_of_lt_of_le m2 HW9.out.size
                have j0 : (0 : Int) ≤ (j : Int) := by omega
                have j1 : (j : Int) < (bs'.length : Int) := by omega
                have jm : bs'.length ≤ 1000000 := QL.out.1
                have HJL := Lib.hid hjl
                clear hz hjl
                go_upto_region 17 with fail
                go_region
                all_goals (go_wp2_with fail)
                all_goals exact ⟨⟨j + 1, HJL.out, rfl, HJ9.out.drew⟩, by have := HJL.out; simp [intOf]; omega⟩
              · obtain rfl : j = bs'.length := by omega
                have j1 : ¬ ((bs'.length : Int) < (bs'.length : Int)) := by omega
                have jm : bs'.length ≤ 1000000 := QL.out.1
                clear hjl
                go_wp2_with fail
                clear xr yr xlr ylr j1 jm
                generalize wr = wd at *
                have RXwd := Lib.hid (RXwc.out.over HJ9.out)
                have RYwd := Lib.hid (RYwc.out.over HJ9.out)
                go_loopw [10] (fun s10 wx => ∃ j : Nat, j ≤ ws'.length ∧ s10 = .int .i64 j ∧ Below wd.heap.size wd wx) (fun s10 _ => ws'.length - (intOf s10).toNat)
                case atStart => exact ⟨0, Nat.zero_le _, rfl, Below.refl _ _⟩
                case round =>
                  obtain ⟨j, hj, rfl, hb⟩ := hrel
                  have HJ10 := Lib.hid hb
                  have HW10 := Lib.hid (below_call HW9.out hb)
                  have xr := (RXwd.out.over hb).cell 1 _ rfl
                  have yr := (RYwd.out.over hb).cell 1 _ rfl
                  have xlr := (RXwd.out.over hb).lt
                  have ylr := (RYwd.out.over hb).lt
                  clear hb
                  by_cases hjl : j < ws'.length
                  · obtain ⟨z, hz⟩ : ∃ z, ws'[j]? = some z := ⟨_, List.getElem?_eq_getElem hjl⟩
                    obtain ⟨_, d1, p1, e1, m1, v1⟩ := ints_cell QG.out.2 j z hz
                    obtain ⟨_, d2, p2, e2, m2, v2⟩ := ints_cell QH.out.2 j z hz
                    subst e1 e2
                    replace v1 := (HW10.out.cell (p := ⟨d1, _, none⟩) m1).trans v1
                    replace v2 := (HW10.out.cell (p := ⟨d2, _, none⟩) m2).trans v2
                    replace m1 := Nat.lt_of_lt_of_le m1 HW10.out.size
                    replace m2 := Nat.lt_of_lt_of_le m2 HW10.out.size
                    have j0 : (0 : Int) ≤ (j : Int) := by omega
                    have j1 : (j : Int) < (ws'.length : Int) := by omega
                    have jm : ws'.length ≤ 1000000 := QL.out.2
                    have HJL := Lib.hid hjl
                    clear hz hjl
                    go_upto_region 22 with fail
                    go_region
                    all_goals (go_wp2_with fail)
                    all_goals exact ⟨⟨j + 1, HJL.out, rfl, HJ10.out.drew⟩, by have := HJL.out; simp [intOf]; omega⟩
                  · obtain rfl : j = ws'.length := by omega
                    have j1 : ¬ ((ws'.length : Int) < (ws'.length : Int)) := by omega
                    have jm : ws'.length ≤ 1000000 := QL.out.2
                    clear hjl
                    go_wp2_with fail
                    exact ⟨⟨k + 1, HK.out, rfl, below_call (below_call (below_call HL.out HC1.out) HJ9.out) HJ10.out⟩, by have := HK.out; simp [intOf]; omega⟩
        · obtain rfl : k = C.length := by omega
          have kl1 : ¬ ((C.length : Int) < (C.length : Int)) := by omega
          clear hkl
          go_wp2_with fail
          go_ret
          exact ⟨rfl, HBw.out⟩
end Go.Proofs.Ytdbfakllcaojcaa

namespace Go.Proofs.Ytdbfakllcaojcaa
open Go Go.RowKit
set_option linter.unusedVariables false
set_option linter.unusedSimpArgs false
set_option maxRecDepth 100000

def clampNd (a lo hi : Int) : Nd := ⟨9, a, 0, 0, 0, 0, 0, 0, 0, 0, 0, 0, 0, 0, 0, 0, 0, 0, lo, hi, 0, 0, 0, 0, 0, 0⟩
def g27 (b : Nat) : GrQ := ⟨1, 1, 1, none, 0, [], some ⟨b, 0, none⟩, 2, [clampNd 0 (-5) 9, clampNd 1 (-9) 3], 2⟩
theorem g27_ok (b : Nat) : (graphE (g27 b).gr).1 = 0 := by kernel_rfl
theorem g27_fu (b : Nat) : (fuN ⟨(g27 b).ns, usesR (g27 b), 0⟩ (g27 b).ns.length).ns = [clampNd 0 (-5) 9, clampNd 0 (-5) 3] ∧ (fuN ⟨(g27 b).ns, usesR (g27 b), 0⟩ (g27 b).ns.length).m = 1 := ⟨by kernel_rfl, by kernel_rfl⟩
set_option maxHeartbeats 4000000 in
theorem lives27c (CP : CpC) (w : World) : Calls Try.prog 13 #[] w fun e w' => e = .returned (.bool true) ∧ Below w.heap.size w w' := by
  have RN := Lib.hid (RowAt.new w [.int .i64 9, .int .i64 0, .int .i64 0, .int .i64 0, .int .i64 0, .int .i64 0, .int .i64 0, .int .i64 0, .int .i64 0, .int .i64 0, .int .i64 0, .int .i64 0, .int .i64 0, .int .i64 0, .int .i32 0, .int .i32 0, .int .i64 0, .int .i64 0, .int .i64 (-5), .int .i64 9, .int .i64 0, .int .i64 0, .int .i64 0, .int .i64 0, .int .i64 0, .int .i64 0, .int .i64 9, .int .i64 1, .int .i64 0, .int .i64 0, .int .i64 0, .int .i64 0, .int .i64 0, .int .i64 0, .int .i64 0, .int .i64 0, .int .i64 0, .int .i64 0, .int .i64 0, .int .i64 0, .int .i32 0, .int .i32 0, .int .i64 0, .int .i64 0, .int .i64 (-9), .int .i64 3, .int .i64 0, .int .i64 0, .int .i64 0, .int .i64 0, .int .i64 0, .int .i64 0] 57)
  have EQ : ∀ W : World, (Op.equalIn 10000 57 (.agg (clampNd 0 (-5) 3).cells.toArray) (.agg #[Value.int .i64 9, Value.int .i64 0, Value.int .i64 0, Value.int .i64 0, Value.int .i64 0, Value.int .i64 0, Value.int .i64 0, Value.int .i64 0, Value.int .i64 0, Value.int .i64 0, Value.int .i64 0, Value.int .i64 0, Value.int .i64 0, Value.int .i64 0, Value.int .i32 0, Value.int .i32 0, Value.int .i64 0, Value.int .i64 0, Value.int .i64 (-5), Value.int .i64 3, Value.int .i64 0, Value.int .i64 0, Value.int .i64 0, Value.int .i64 0, Value.int .i64 0, Value.int .i64 0])).run Try.prog W = .ok true W := fun W => by
    obtain ⟨r, hr, hi⟩ := nd_eq (clampNd 0 (-5) 3) (clampNd 0 (-5) 3) W
    rw [hi.2 rfl] at hr
    exact hr
  obtain ⟨T, Z, Z0, NL⟩ := node_type
  have hL := NL.load
  have tA := NL.agg
  have tS := NL.size
  go_enter Try.func13, Try.ntmps13
  simp only [hL]
  clear hL
  go_upto_region 1 with fail
  go_cut [1] (fun s1 wx => s1 = .pointer (some ⟨w.heap.size + 1, 0, none⟩) ∧ RowAt wx (w.heap.size + 1) [.int .i64 1, .int .i64 1, .int .i64 1, .slice none 0 0, .slice (some ⟨w.heap.size, 0, none⟩) 2 2, .int .i64 2] ∧ RowAt wx w.heap.size (nd26 [clampNd 0 (-5) 9, clampNd 1 (-9) 3]) ∧ Below w.heap.size w wx)
  case first =>
    go_wp2_with fail
    go_meet
    refine ⟨rfl, ?_, ?_, Below.alloc (Below.alloc (Below.refl w.heap.size w) (Nat.le_refl _) _) (by simp) _⟩
    · have := RowAt.new (w.alloc (.cells ([.int .i64 9, .int .i64 0, .int .i64 0, .int .i64 0, .int .i64 0, .int .i64 0, .int .i64 0, .int .i64 0, .int .i64 0, .int .i64 0, .int .i64 0, .int .i64 0, .int .i64 0, .int .i64 0, .int .i32 0, .int .i32 0, .int .i64 0, .int .i64 0, .int .i64 (-5), .int .i64 9, .int .i64 0, .int .i64 0, .int .i64 0, .int .i64 0, .int .i64 0, .int .i64 0, .int .i64 9, .int .i64 1, .int .i64 0, .int .i64 0, .int .i64 0, .int .i64 0, .int .i64 0, .int .i64 0, .int .i64 0, .int .i64 0, .int .i64 0, .int .i64 0, .int .i64 0, .int .i64 0, .int .i32 0, .int .i32 0, .int .i64 0, .int .i64 0, .int .i64 (-9), .int .i64 3, .int .i64 0, .int .i64 0, .int .i64 0, .int .i64 0, .int .i64 0, .int .i64 0] : List Value).toArray 57)) [.int .i64 1, .int .i64 1, .int .i64 1, .slice none 0 0, .slice (some ⟨w.heap.size, 0, none⟩) 2 2, .int .i64 2] 26
      rw [size_alloc1] at this
      exact this
    · exact RN.out.over (Below.alloc (Below.refl _ _) (Nat.le_refl _) _)
  case rest =>
    obtain ⟨rfl, h1, h2, h3⟩ := hcut
    have R1 := Lib.hid h1
    have HB := Lib.hid h3
    have b0 := h1.cell 0 _ rfl
    have b1 := h1.cell 1 _ rfl
    have b2 := h1.cell 2 _ rfl
    have b3 := h1.cell 3 _ rfl
    have b4 := h1.cell 4 _ rfl
    have b5 := h1.cell 5 _ rfl
    have bl := h1.lt
    have FF := fuse_any CP (g27 w.heap.size) wc ⟨by simp [g27], by simp [g27], by simp [g27], Or.inl ⟨rfl, rfl, rfl⟩⟩ (nds_row h2 (by show 2 ≤ 2; omega) (by show 2 ≤ 9223372036854775807; omega) (by
      intro n hn
      have hn : n = clampNd 0 (-5) 9 ∨ n = clampNd 1 (-9) 3 := by simpa [g27] using hn
      rcases hn with rfl | rfl <;> exact ⟨⟨_, rfl, by decide⟩, ⟨_, rfl, by decide⟩, ⟨_, rfl, by decide⟩, ⟨_, rfl, by decide⟩, ⟨_, rfl, by decide⟩, ⟨_, rfl, by decide⟩, ⟨_, rfl, by decide⟩, ⟨_, rfl, by decide⟩, ⟨_, rfl, by decide⟩, ⟨_, rfl, by decide⟩, ⟨_, rfl, by decide⟩, ⟨_, rfl, by decide⟩, ⟨_, rfl, by decide⟩, ⟨_, rfl, by decide⟩, ⟨_, rfl, by decide⟩, ⟨_, rfl, by decide⟩, ⟨_, rfl, by decide⟩, ⟨_, rfl, by decide⟩, ⟨_, rfl, by decide⟩, ⟨_, rfl, by decide⟩, ⟨_, rfl, by decide⟩, ⟨_, rfl, by decide⟩, ⟨_, rfl, by decide⟩, ⟨_, rfl, by decide⟩, ⟨_, rfl, by decide⟩, ⟨_, rfl, by decide⟩, trivial⟩)) (by show 2 ≤ 1000; omega) (by show 0 ≤ 1000; omega) (fun q hq => by simp [g27] at hq)
    obtain ⟨fu1, fu2⟩ := g27_fu w.heap.size
    have FF2 := Lib.hid (FF.mono (R' := fun e w' => Below wc.heap.size wc w' ∧ ∃ (h : GrQ), e = .returned (.tuple #[.agg #[.int .i64 1, .int .i64 1, .int .i64 1, .slice h.ca h.C.length h.cc, .slice h.na 2 h.nc, .int .i64 2], .int .i64 1, .int .i64 0]) ∧ NdsIn w' h.na [clampNd 0 (-5) 9, clampNd 0 (-5) 3] h.nc) (by
      rintro e w' ⟨hb, _, hy⟩
      obtain ⟨h, S, hS, rfl, q1, q2, q3, q4, q5, q6, hcn, hnd⟩ := hy (g27_ok _)
      rw [hS, fu1] at q6
      rw [q6] at hnd
      refine ⟨hb, h, ?_, hnd⟩
      unfold GrQ.val
      rw [q1, q2, q3, q4, q6, hS, fu2]
      rfl))
    unfold GrQ.val g27 at FF2
    dsimp only [List.length] at FF2
    clear FF fu1 fu2 h1 h2 h3
    go_upto_region 3 with (go_at_call 15; (with_reducible refine FF2.out.mono ?_); rintro e w5 ⟨hb5, ⟨⟨kx, ky, kz, ea, ep, D2, pa, pc, ps, ko⟩, rfl, hnd⟩⟩; have HB5 := Lib.hid hb5; have HND := Lib.hid hnd; clear hb5 hnd; dsimp only at *)
    obtain ⟨nb, no, rfl, nl, nr⟩ := nds_range HND.out 1 (clampNd 0 (-5) 3) rfl
    have hal := Below.alloc (Below.refl w5.heap.size w5) (Nat.le_refl _) (.cells #[.int .i64 1, .int .i64 1, .int .i64 1, .slice ea D2.length ep, .slice (some ⟨nb, no, none⟩) 2 pc, .int .i64 2] 26)
    have RY := RowAt.new w5 [.int .i64 1, .int .i64 1, .int .i64 1, .slice ea D2.length ep, .slice (some ⟨nb, no, none⟩) 2 pc, .int .i64 2] 26
    have HAL := Lib.hid hal
    have tR := NL.read (clampNd 0 (-5) 3) (w5.alloc (.cells #[.int .i64 1, .int .i64 1, .int .i64 1, .slice ea D2.length ep, .slice (some ⟨nb, no, none⟩) 2 pc, .int .i64 2] 26)) nb (no + 26) (fun j v hv => (hal.cell (p := ⟨nb, _, none⟩) nl).trans (nr j v hv))
    have tL := NL.len (clampNd 0 (-5) 3)
    have nl2 := Nat.lt_of_lt_of_le nl hal.size
    have y4 := RY.cell 4 _ rfl
    have yl := RY.lt
    have BWf := Lib.hid (below_call HB.out (below_call HB5.out hal))
    clear b0 b1 b2 b3 b4 b5 bl hal RY nr nl
    obtain ⟨W6, hW6⟩ : ∃ W, W = (w5.alloc (.cells #[.int .i64 1, .int .i64 1, .int .i64 1, .slice ea D2.length ep, .slice (some ⟨nb, no, none⟩) 2 pc, .int .i64 2] 26)) := ⟨_, rfl⟩
    simp only [List.toArray, ← hW6] at tR nl2 y4 yl BWf ⊢
    clear hW6 HAL
    go_wp2_with fail
    go_ret
    exact ⟨rfl, BWf.out⟩
end Go.Proofs.Ytdbfakllcaojcaa

namespace Go.Proofs.Ytdbfakllcaojcaa
open Go Go.RowKit
set_option linter.unusedVariables false
set_option linter.unusedSimpArgs false
set_option maxRecDepth 100000

/-- how much of the network Fuse leaves -/
theorem ff_len {g : GrQ} (he : (graphE g.gr).1 = 0) : (fuN ⟨g.ns, usesR g, 0⟩ g.ns.length).ns.length = g.ns.length ∧ (fuN ⟨g.ns, usesR g, 0⟩ g.ns.length).m ≤ g.ns.length := by
  obtain ⟨r, h1, h2⟩ := fuI_start (g := g.gr) (L := usesR g) he (usesR_len g) (fun i hi => usesR_at g he i hi)
  have h3 := fuN_inv h1 rfl g.ns.length (Nat.le_refl _)
  exact ⟨h3.1.len, h3.2⟩
theorem zero_graph (w : World) : CnsIn w none [] 0 ∧ NdsIn w none [] 0 := ⟨⟨by simp, by simp, by simp, Or.inl ⟨rfl, rfl, rfl⟩⟩, ⟨by simp, by simp, by simp, Or.inl ⟨rfl, rfl, rfl⟩⟩⟩
theorem cn_len {C D : List CnQ} (h : C.map CnQ.cn = D.map CnQ.cn) (hD : ∀ q ∈ D, q.bs.length ≤ 1000000 ∧ q.ws.length ≤ 1000000) : ∀ q ∈ C, q.bs.length ≤ 1000000 ∧ q.ws.length ≤ 1000000 := by
  intro q hq
  have h1 : q.cn ∈ D.map CnQ.cn := by rw [← h]; exact List.mem_map.2 ⟨q, hq, rfl⟩
  obtain ⟨p, hp, he⟩ := List.mem_map.1 h1
  have h2 : p.bs = q.bs ∧ p.ws = q.ws := by simpa [CnQ.cn] using he
  have := hD p hp
  rw [h2.1, h2.2] at this
  exact this
set_option maxHeartbeats 8000000 in
theorem walk_fuses (FW : FwC) (CP : CpC) (w : World) (g : GrQ) (hg : g.ok w) :
    Calls Try.prog 4 #[g.val] w fun e w' => e = .returned (.bool true) ∧ Below w.heap.size w w' := by
  obtain ⟨gx, gy, gz, ca, cc, C, na, nc, ns, go⟩ := g
  have FX := Lib.hid (fun W (hW : Below w.heap.size w W) => FW ⟨gx, gy, gz, ca, cc, C, na, nc, ns, go⟩ W ⟨hg.1, hg.2.1.later hW, FlatIn.later hg.2.2.1 hW, hg.2.2.2⟩)
  have LV := Lib.hid (fun W => lives27c CP W)
  clear FW hg
  unfold GrQ.val at FX ⊢
  dsimp only at FX ⊢
  go_enter Try.func4, Try.ntmps4
  have RB := Lib.hid (RowAt.new w [.int .i64 gx, .int .i64 gy, .int .i64 gz, .slice ca C.length cc, .slice na ns.length nc, .int .i64 go] 26)
  have BB : Below w.heap.size w (w.alloc (.cells #[.int .i64 gx, .int .i64 gy, .int .i64 gz, .slice ca C.length cc, .slice na ns.length nc, .int .i64 go] 26)) := Below.alloc (Below.refl _ _) (Nat.le_refl _) _
  have FY := Lib.hid (FX.out _ BB)
  have BW := Lib.hid BB
  clear BB FX
  have hs0 : (w.alloc (.cells #[.int .i64 gx, .int .i64 gy, .int .i64 gz, .slice ca C.length cc, .slice na ns.length nc, .int .i64 go] 26)).heap.size = w.heap.size + 1 := by simp
  have HS0 := Lib.hid hs0
  clear hs0
  go_wp2_with (go_at_call 10; (with_reducible refine FY.out.mono ?_); rintro e w2 ⟨⟨hx, hy, hz, da, dc, D, ma, mc, ms, ho⟩, rfl, hb2, hk2, hn2, _, hcl2, hqs2⟩; have HB2 := Lib.hid hb2; have HK2 := Lib.hid hk2; have HN2 := Lib.hid hn2; have HC2 := Lib.hid hcl2; have HQ2 := Lib.hid hqs2; have r2 := RB.out.over hb2; have R2 := Lib.hid r2; have b0 := r2.cell 0 _ rfl; have b1 := r2.cell 1 _ rfl; have b2 := r2.cell 2 _ rfl; have b3 := r2.cell 3 _ rfl; have b4 := r2.cell 4 _ rfl; have b5 := r2.cell 5 _ rfl; have p0 := r2.fr 0; have p1 := r2.fr 1; have p2 := r2.fr 2; have p3 := r2.fr 3; have p4 := r2.fr 4; have p5 := r2.fr 5; have blt := r2.lt; clear hb2 hk2 hn2 hcl2 hqs2 r2; unfold GrQ.val; dsimp only at *)
  have R3 := Lib.hid ((((((R2.out.set (l' := [.int .i64 hx, .int .i64 gy, .int .i64 gz, .slice ca C.length cc, .slice na ns.length nc, .int .i64 go]) 0 (.int .i64 hx) (by simp) rfl).set (l' := [.int .i64 hx, .int .i64 hy, .int .i64 gz, .slice ca C.length cc, .slice na ns.length nc, .int .i64 go]) 1 (.int .i64 hy) (by simp) rfl).set (l' := [.int .i64 hx, .int .i64 hy, .int .i64 hz, .slice ca C.length cc, .slice na ns.length nc, .int .i64 go]) 2 (.int .i64 hz) (by simp) rfl).set (l' := [.int .i64 hx, .int .i64 hy, .int .i64 hz, .slice da D.length dc, .slice na ns.length nc, .int .i64 go]) 3 (.slice da D.length dc) (by simp) rfl).set (l' := [.int .i64 hx, .int .i64 hy, .int .i64 hz, .slice da D.length dc, .slice ma ms.length mc, .int .i64 go]) 4 (.slice ma ms.length mc) (by simp) rfl).set (l' := [.int .i64 hx, .int .i64 hy, .int .i64 hz, .slice da D.length dc, .slice ma ms.length mc, .int .i64 ho]) 5 (.int .i64 ho) (by simp) rfl)
  have K3 := ((((((Kp.refl (w.heap.size + 1) w2).set w.heap.size 0 (.int .i64 hx) (by omega)).set w.heap.size 1 (.int .i64 hy) (by omega)).set w.heap.size 2 (.int .i64 hz) (by omega)).set w.heap.size 3 (.slice da D.length dc) (by omega)).set w.heap.size 4 (.slice ma ms.length mc) (by omega)).set w.heap.size 5 (.int .i64 ho) (by omega)
  have CN3 := Lib.hid (HK2.out _ (by rw [HS0.out]; exact K3))
  have B3 := Lib.hid (Below.setCell (Below.setCell (Below.setCell (Below.setCell (Below.setCell (Below.setCell (below_call BW.out HB2.out) (show w.heap.size ≤ (⟨w.heap.size, 0, none⟩ : Addr).block from Nat.le_refl _) (.int .i64 hx)) (show w.heap.size ≤ (⟨w.heap.size, 1, none⟩ : Addr).block from Nat.le_refl _) (.int .i64 hy)) (show w.heap.size ≤ (⟨w.heap.size, 2, none⟩ : Addr).block from Nat.le_refl _) (.int .i64 hz)) (show w.heap.size ≤ (⟨w.heap.size, 3, none⟩ : Addr).block from Nat.le_refl _) (.slice da D.length dc)) (show w.heap.size ≤ (⟨w.heap.size, 4, none⟩ : Addr).block from Nat.le_refl _) (.slice ma ms.length mc)) (show w.heap.size ≤ (⟨w.heap.size, 5, none⟩ : Addr).block from Nat.le_refl _) (.int .i64 ho))
  clear K3 b0 b1 b2 b3 b4 b5 p0 p1 p2 p3 p4 p5 blt R2 HB2 HK2 RB FY BW
  generalize (((((w2.setCell ⟨w.heap.size, 0, none⟩ (.int .i64 hx)).setCell ⟨w.heap.size, 1, none⟩ (.int .i64 hy)).setCell ⟨w.heap.size, 2, none⟩ (.int .i64 hz)).setCell ⟨w.heap.size, 3, none⟩ (.slice da D.length dc)).setCell ⟨w.heap.size, 4, none⟩ (.slice ma ms.length mc)).setCell ⟨w.heap.size, 5, none⟩ (.int .i64 ho) = W3 at *
  have r3 := R3.out
  have hm2 : ms.length ≤ 12 := HN2.out
  have hd2 : D.length ≤ 20 := HC2.out
  have c0 := r3.cell 0 _ rfl
  have c1 := r3.cell 1 _ rfl
  have c2 := r3.cell 2 _ rfl
  have c3 := r3.cell 3 _ rfl
  have c4 := r3.cell 4 _ rfl
  have c5 := r3.cell 5 _ rfl
  have cl := r3.lt
  have RS := Lib.hid (fun (W : World) (hb : Below W3.heap.size W3 W) => rshapes_any ⟨hx, hy, hz, da, dc, D, ma, mc, ms, ho⟩ W (CN3.out.1.later hb) (FlatIn.later CN3.out.2 hb) (by show ms.length ≤ 1000; omega))
  have FF := Lib.hid (fun (W : World) (hb : Below W3.heap.size W3 W) => fuse_any CP ⟨hx, hy, hz, da, dc, D, ma, mc, ms, ho⟩ W (CN3.out.1.later hb) (FlatIn.later CN3.out.2 hb) (by show ms.length ≤ 1000; omega) (by show D.length ≤ 1000; omega) (fun q hq => by have := HQ2.out q hq; omega))
  have RF := Lib.hid (fun (W : World) (hb : Below W3.heap.size W3 W) (h0 : (graphE (GrQ.gr ⟨hx, hy, hz, da, dc, D, ma, mc, ms, ho⟩)).1 = 0) => rfuse_any ⟨hx, hy, hz, da, dc, D, ma, mc, ms, ho⟩ W (CN3.out.1.later hb) (FlatIn.later CN3.out.2 hb) (by show ms.length ≤ 1000; omega) h0)
  have FL := Lib.hid (fun h => ff_len (g := ⟨hx, hy, hz, da, dc, D, ma, mc, ms, ho⟩) h)
  unfold RShPost at RS
  unfold FfPost at FF
  unfold RfPost at RF
  obtain ⟨E, hE⟩ : ∃ E, E = graphE (GrQ.gr ⟨hx, hy, hz, da, dc, D, ma, mc, ms, ho⟩) := ⟨_, rfl⟩
  rw [← hE] at RS FF RF FL
  obtain ⟨ec, el⟩ := E
  unfold GrQ.val at RS FF RF
  dsimp only at RS FF RF FL
  obtain ⟨S0, hS0⟩ : ∃ S, S = fuN ⟨ms, usesR ⟨hx, hy, hz, da, dc, D, ma, mc, ms, ho⟩, 0⟩ ms.length := ⟨_, rfl⟩
  rw [← hS0] at FF RF FL
  clear hE r3 hS0
  by_cases h0 : ec = 0
  case neg =>
    have h0b : (ec != 0) = true := by simpa using h0
    have h0c : (ec == ec) = true := by simp
    have HO := Lib.hid h0
    clear h0
    go_upto_region 3 with (go_at_call 15; (with_reducible refine (FF.out _ (Below.refl _ _)).mono ?_); rintro e w4 ⟨hb4, hno, _⟩; obtain rfl := hno HO.out; have HB4 := Lib.hid hb4; clear hb4 hno)
    have hal := Below.alloc (Below.refl w4.heap.size w4) (Nat.le_refl _) (.cells #[.int .i64 0, .int .i64 0, .int .i64 0, .slice none 0 0, .slice none 0 0, .int .i64 0] 26)
    have RY := Lib.hid (RowAt.new w4 [.int .i64 0, .int .i64 0, .int .i64 0, .slice none 0 0, .slice none 0 0, .int .i64 0] 26)
    have HB5 := Lib.hid (below_call HB4.out hal)
    clear hal c0 c1 c2 c3 c4 c5 cl
    obtain ⟨W5, hW5⟩ : ∃ W, W = w4.alloc (.cells #[.int .i64 0, .int .i64 0, .int .i64 0, .slice none 0 0, .slice none 0 0, .int .i64 0] 26) := ⟨_, rfl⟩
    simp only [List.toArray, ← hW5] at RY HB5 ⊢
    clear hW5
    have c0 := (R3.out.over HB5.out).cell 0 _ rfl
    have c1 := (R3.out.over HB5.out).cell 1 _ rfl
    have c2 := (R3.out.over HB5.out).cell 2 _ rfl
    have c3 := (R3.out.over HB5.out).cell 3 _ rfl
    have c4 := (R3.out.over HB5.out).cell 4 _ rfl
    have c5 := (R3.out.over HB5.out).cell 5 _ rfl
    have cl := (R3.out.over HB5.out).lt
    go_upto_region 5 with (go_at_call 12; (with_reducible refine (RS.out _ HB5.out).mono ?_); rintro e w6 ⟨v, rfl, hb6, _, _⟩; have HB6 := Lib.hid hb6; clear hb6)
    have ry := RY.out.over HB6.out
    have y0 := ry.cell 0 _ rfl
    have y1 := ry.cell 1 _ rfl
    have y2 := ry.cell 2 _ rfl
    have y3 := ry.cell 3 _ rfl
    have y4 := ry.cell 4 _ rfl
    have y5 := ry.cell 5 _ rfl
    have yl := ry.lt
    have SM := gsame_any ⟨0, 0, 0, none, 0, [], none, 0, [], 0⟩ ⟨0, 0, 0, none, 0, [], none, 0, [], 0⟩ w6 (zero_graph w6).1 (zero_graph w6).2 (zero_graph w6).1 (zero_graph w6).2 rfl rfl rfl rfl rfl rfl (by show 0 ≤ 1000; omega) (by show 0 ≤ 1000; omega) (fun q hq => by cases hq)
    unfold GrQ.val at SM
    dsimp only [List.length] at SM
    have SMH := Lib.hid SM
    clear ry SM c0 c1 c2 c3 c4 c5 cl
    go_wp2_with (first | (go_at_call 16; (with_reducible refine SMH.out.mono ?_); rintro e w7 ⟨rfl, hb7⟩; have HB7 := Lib.hid hb7; clear hb7) | (go_at_call 13; (with_reducible refine (LV.out _).mono ?_); rintro e w8 ⟨rfl, hb8⟩; have HB8 := Lib.hid hb8; clear hb8))
    go_ret
    exact ⟨rfl, below_call B3.out (below_call (below_call (below_call HB5.out HB6.out) HB7.out) HB8.out)⟩
  subst h0
  have FL2 := FL.out (by trivial)
  obtain ⟨fl1, fl2⟩ := FL2
  have RF0 := Lib.hid (fun (W : World) (hb : Below W3.heap.size W3 W) => RF.out W hb (by trivial))
  have FL1 := Lib.hid fl1
  have FL2 := Lib.hid fl2
  clear RF FL
  go_upto_region 3 with (go_at_call 15; (with_reducible refine (FF.out _ (Below.refl _ _)).mono ?_); rintro e w4 ⟨hb4, _, hyes⟩; obtain ⟨⟨kx, ky, kz, ea, ep, D2, pa, pc, ps, ko⟩, S, hS, he, q1, q2, q3, q4, q5, q6, hcn, hnd⟩ := hyes (by trivial); dsimp only at he q1 q2 q3 q4 q5 q6 hcn hnd; rw [hS] at q6; rw [q1, q2, q3, q4, q6, hS, fl1] at he; rw [q6] at hnd; subst he; have HB4 := Lib.hid hb4; have HCN := Lib.hid hcn; have HND := Lib.hid hnd; have Q5 := Lib.hid q5; clear hb4 hyes hS q1 q2 q3 q4 q5 q6 hcn hnd)
  clear fl1 fl2
  have hal := Below.alloc (Below.refl w4.heap.size w4) (Nat.le_refl _) (.cells #[.int .i64 hx, .int .i64 hy, .int .i64 hz, .slice ea D2.length ep, .slice pa ms.length pc, .int .i64 ho] 26)
  have RY := Lib.hid (RowAt.new w4 [.int .i64 hx, .int .i64 hy, .int .i64 hz, .slice ea D2.length ep, .slice pa ms.length pc, .int .i64 ho] 26)
  have HB5 := Lib.hid (below_call HB4.out hal)
  have HCN5 := Lib.hid (HCN.out.later hal)
  have HND5 := Lib.hid (FlatIn.later HND.out hal)
  clear hal c0 c1 c2 c3 c4 c5 cl HCN HND
  obtain ⟨W5, hW5⟩ : ∃ W, W = w4.alloc (.cells #[.int .i64 hx, .int .i64 hy, .int .i64 hz, .slice ea D2.length ep, .slice pa ms.length pc, .int .i64 ho] 26) := ⟨_, rfl⟩
  simp only [List.toArray, ← hW5] at RY HB5 HCN5 HND5 ⊢
  clear hW5
  have c0 := (R3.out.over HB5.out).cell 0 _ rfl
  have c1 := (R3.out.over HB5.out).cell 1 _ rfl
  have c2 := (R3.out.over HB5.out).cell 2 _ rfl
  have c3 := (R3.out.over HB5.out).cell 3 _ rfl
  have c4 := (R3.out.over HB5.out).cell 4 _ rfl
  have c5 := (R3.out.over HB5.out).cell 5 _ rfl
  have cl := (R3.out.over HB5.out).lt
  go_upto_region 6 with (go_at_call 12; (with_reducible refine (RS.out _ HB5.out).mono ?_); rintro e w6 ⟨v, rfl, hb6, _, _⟩; have HB56 := Lib.hid hb6; have HB6 := Lib.hid (below_call HB5.out hb6); clear hb6; replace c0 := (R3.out.over HB6.out).cell 0 _ rfl; replace c1 := (R3.out.over HB6.out).cell 1 _ rfl; replace c2 := (R3.out.over HB6.out).cell 2 _ rfl; replace c3 := (R3.out.over HB6.out).cell 3 _ rfl; replace c4 := (R3.out.over HB6.out).cell 4 _ rfl; replace c5 := (R3.out.over HB6.out).cell 5 _ rfl; replace cl := (R3.out.over HB6.out).lt)
  go_upto_region 7 with (go_at_call 17; (with_reducible refine (RF0.out _ HB6.out).mono ?_); rintro e w7 ⟨hb7, ma2, mc2, S7, hS7, he7, hnd7⟩; rw [hS7] at he7 hnd7; subst he7; have HB67 := Lib.hid hb7; have HND7 := Lib.hid hnd7; clear hb7 hnd7 hS7)
  have hal := Below.alloc (Below.refl w7.heap.size w7) (Nat.le_refl _) (.cells #[.int .i64 hx, .int .i64 hy, .int .i64 hz, .slice da D.length dc, .slice ma2 ms.length mc2, .int .i64 ho] 26)
  have RZ := Lib.hid (RowAt.new w7 [.int .i64 hx, .int .i64 hy, .int .i64 hz, .slice da D.length dc, .slice ma2 ms.length mc2, .int .i64 ho] 26)
  have HB58 := Lib.hid (below_call (below_call HB56.out HB67.out) hal)
  have HND8 := Lib.hid (FlatIn.later HND7.out hal)
  clear hal c0 c1 c2 c3 c4 c5 cl HND7
  obtain ⟨W8, hW8⟩ : ∃ W, W = w7.alloc (.cells #[.int .i64 hx, .int .i64 hy, .int .i64 hz, .slice da D.length dc, .slice ma2 ms.length mc2, .int .i64 ho] 26) := ⟨_, rfl⟩
  simp only [List.toArray, ← hW8] at RZ HB58 HND8 ⊢
  clear hW8
  have hDl : D2.length = D.length := by have := congrArg List.length Q5.out; simpa using this
  have SM := gsame_any ⟨hx, hy, hz, ea, ep, D2, pa, pc, S0.ns, ho⟩ ⟨hx, hy, hz, da, dc, D, ma2, mc2, S0.ns, ho⟩ W8 (HCN5.out.later HB58.out) (FlatIn.later HND5.out HB58.out) (CN3.out.1.later (below_call HB5.out HB58.out)) HND8.out rfl rfl rfl rfl Q5.out.symm rfl (by show S0.ns.length ≤ 1000; rw [FL1.out]; omega) (by show D2.length ≤ 1000; omega) (cn_len Q5.out (fun q hq => by have := HQ2.out q hq; omega))
  unfold GrQ.val at SM
  dsimp only at SM
  rw [FL1.out] at SM
  have SMH := Lib.hid SM
  have RY8 := Lib.hid (RY.out.over HB58.out)
  have y0 := RY8.out.cell 0 _ rfl
  have y1 := RY8.out.cell 1 _ rfl
  have y2 := RY8.out.cell 2 _ rfl
  have y3 := RY8.out.cell 3 _ rfl
  have y4 := RY8.out.cell 4 _ rfl
  have y5 := RY8.out.cell 5 _ rfl
  have yl := RY8.out.lt
  have z0 := RZ.out.cell 0 _ rfl
  have z1 := RZ.out.cell 1 _ rfl
  have z2 := RZ.out.cell 2 _ rfl
  have z3 := RZ.out.cell 3 _ rfl
  have z4 := RZ.out.cell 4 _ rfl
  have z5 := RZ.out.cell 5 _ rfl
  have zl := RZ.out.lt
  have sm : S0.m ≤ ms.length := FL2.out
  clear SM hDl
  go_wp2_with (first | (go_at_call 16; (with_reducible refine SMH.out.mono ?_); rintro e w9 ⟨rfl, hb9⟩; have HB9 := Lib.hid hb9; clear hb9) | (go_at_call 13; (with_reducible refine (LV.out _).mono ?_); rintro e w10 ⟨rfl, hb10⟩; have HB10 := Lib.hid hb10; clear hb10))
  go_ret
  exact ⟨rfl, below_call B3.out (below_call (below_call (below_call HB5.out HB58.out) HB9.out) HB10.out)⟩
end Go.Proofs.Ytdbfakllcaojcaa
