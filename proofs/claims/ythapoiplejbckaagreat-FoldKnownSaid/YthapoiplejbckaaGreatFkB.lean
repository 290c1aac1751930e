/- fold.Known. -/
import Derived.Test.YthapoiplejbckaaGreatFkA
import Derived.Test.YthapoiplejbckaaGreatNY
import Derived.Deep.OwnRows
import Derived.Deep.DeepCutAuto
namespace Go.Proofs.YthapoiplejbckaaGreat
open Go Go.RowKit
set_option linter.unusedVariables false
set_option linter.unusedSimpArgs false
set_option maxRecDepth 100000

theorem info_boolK : (Tryz.prog.info? 4).map (fun i => (i.zero, i.size, i.bytes)) = some (some (.bool false), 1, 1) := by kernel_rfl
theorem made_bools (n : Nat) : (madeCells #[Value.bool false] n) = (boolsV (List.replicate n false)).toArray := by
  apply Array.ext'
  apply List.ext_getElem
  · simp [madeCells, boolsV]
  · intro i h1 h2
    simp [madeCells, boolsV, Nat.mod_one]
theorem made_rowK (w : World) (n : Nat) : RowAt (w.alloc (.cells (madeCells #[Value.bool false] n) 4)) w.heap.size (boolsV (List.replicate n false)) := by
  rw [made_bools]; exact RowAt.new w _ _
theorem knR_row {w : World} {U m k : Nat} {ns : List Nd} {n : Nd} (h : RowAt w U (boolsV (knR m k ns))) (hk : k < m) (hl : ns.length = m) (hn : ns[k]? = some n) : RowAt (w.setCell ⟨U, k + 1, none⟩ (.bool (knO (knL (ns.take k)) n))) U (boolsV (knR m (k + 1) ns)) :=
  h.set (k + 1) _ (by rw [boolsV_len, knR_len (by omega) hl]; omega) (by rw [← knR_set hk hl hn]; unfold boolsV; simp [List.map_set])
/-- what fold.Known tells -/
def FkPost (g : GrQ) (w : World) (e : Ending) (w' : World) : Prop :=
  ((graphE g.gr).1 ≠ 0 → e = .returned (.tuple #[.slice none 0 0, .int .i64 (graphE g.gr).1])) ∧ Below w.heap.size w w' ∧
  ((graphE g.gr).1 = 0 → ∃ U c, e = .returned (.tuple #[.slice (some ⟨U, 0, none⟩) (g.ns.length + 1) c, .int .i64 0]) ∧ w.heap.size ≤ U ∧ RowAt w' U (boolsV (knL g.ns)))
set_option maxHeartbeats 8000000 in
theorem known_any (g : GrQ) (w : World) (hC : CnsIn w g.ca g.C g.cc) (hN : NdsIn w g.na g.ns g.nc) (hn : g.ns.length ≤ 1000) :
    Calls Tryz.prog 5 #[g.val] w (FkPost g w) := by
  obtain ⟨T, Z, Z0, NL⟩ := node_type
  have hL := NL.load
  have hAl := NL.alloc
  have hSt := NL.store
  have tA := NL.agg
  have tS := NL.size
  have tZ := NL.zero
  obtain ⟨E, hE⟩ : ∃ E, E = graphE g.gr := ⟨_, rfl⟩
  have GA := Lib.hid (fun (h : E.1 = 0) => graph_ahead (g := g.gr) (by rw [← hE]; exact h))
  unfold FkPost
  rw [← hE]
  obtain ⟨gx, gy, gz, ca, cc, C, na, nc, ns, go⟩ := g
  have B0 : Below w.heap.size w (w.alloc (.cells #[.int .i64 gx, .int .i64 gy, .int .i64 gz, .slice ca C.length cc, .slice na ns.length nc, .int .i64 go] 26)) := Below.alloc (Below.refl _ _) (Nat.le_refl _) _
  have SY := shapes_all ⟨gx, gy, gz, ca, cc, C, na, nc, ns, go⟩ (w.alloc (.cells #[.int .i64 gx, .int .i64 gy, .int .i64 gz, .slice ca C.length cc, .slice na ns.length nc, .int .i64 go] 26)) (hC.later B0) (FlatIn.later hN B0) hn
  unfold ShPost at SY
  rw [← hE] at SY
  have HN := Lib.hid hN
  have hnl := hN.1
  rw [List.length_map] at hnl
  have hcb : nc ≤ 9223372036854775807 := hN.2.1
  obtain ⟨ec, el⟩ := E
  unfold GrQ.val at SY ⊢
  dsimp only at *
  have RG := Lib.hid (RowAt.new w [.int .i64 gx, .int .i64 gy, .int .i64 gz, .slice ca C.length cc, .slice na ns.length nc, .int .i64 go] 26)
  have BW := Lib.hid B0
  have SYH := Lib.hid SY
  clear B0 SY hC hN
  have hmk := fun W => run_make_row' (P := Tryz.prog) 28 4 (.bool false) 1 Tryz.underlying28 info_boolK rfl .i64 .i64 (ns.length + 1) (by omega) (by omega) W
  push_cast at hmk
  go_enter Tryz.func5, Tryz.ntmps5
  simp only [hL, hAl, hSt]
  clear hL hAl hSt
  by_cases h0 : ec = 0
  case neg =>
    have h0b : (ec != 0) = true := by simpa using h0
    have HO := Lib.hid h0
    clear h0
    go_wp2_with (go_at_call 10; (with_reducible refine SYH.out.mono ?_); rintro e w2 ⟨v, rfl, hb2, _, _⟩; have HB2 := Lib.hid (below_call BW.out hb2); clear hb2)
    go_returns
    exact ⟨fun _ => rfl, HB2.out, fun h => absurd h HO.out⟩
  subst h0
  go_upto_region 5 with (go_at_call 10; (with_reducible refine SYH.out.mono ?_); rintro e w2 ⟨v, rfl, hb2, _, _⟩; have HB2 := Lib.hid (below_call BW.out hb2); have RG2 := Lib.hid (RG.out.over hb2); have b4 := RG2.out.cell 4 _ rfl; have bl := RG2.out.lt; clear hb2)
  have hsz := size_alloc1 w2 (.cells (madeCells #[Value.bool false] (ns.length + 1)) 4)
  have h23 : Below w2.heap.size w2 (w2.alloc (.cells (madeCells #[Value.bool false] (ns.length + 1)) 4)) := Below.alloc (Below.refl _ _) (Nat.le_refl _) _
  have h34 : Below (w2.alloc (.cells (madeCells #[Value.bool false] (ns.length + 1)) 4)).heap.size (w2.alloc (.cells (madeCells #[Value.bool false] (ns.length + 1)) 4)) ((w2.alloc (.cells (madeCells #[Value.bool false] (ns.length + 1)) 4)).alloc (.cells #[.slice (some ⟨w2.heap.size, 0, none⟩) (ns.length + 1) (ns.length + 1)] 28)) := Below.alloc (Below.refl _ _) (Nat.le_refl _) _
  have hkb := RowAt.new (w2.alloc (.cells (madeCells #[Value.bool false] (ns.length + 1)) 4)) [.slice (some ⟨w2.heap.size, 0, none⟩) (ns.length + 1) (ns.length + 1)] 28
  rw [hsz] at hkb
  have HKB := Lib.hid hkb
  have HKU := Lib.hid ((made_rowK w2 (ns.length + 1)).over h34)
  have HB3 := Lib.hid (below_call (below_call HB2.out h23) h34)
  have RG3 := Lib.hid ((RG2.out.over h23).over h34)
  have hUw : w.heap.size < w2.heap.size := bl
  clear hkb h23 h34 hmk b4 bl hsz
  generalize (w2.alloc (.cells (madeCells #[Value.bool false] (ns.length + 1)) 4)).alloc (.cells #[.slice (some ⟨w2.heap.size, 0, none⟩) (ns.length + 1) (ns.length + 1)] 28) = W3 at *
  have b4 := RG3.out.cell 4 _ rfl
  have bl := RG3.out.lt
  have hU3 : w2.heap.size + 1 < W3.heap.size := HKB.out.lt
  have GA1 := Lib.hid (GA.out trivial)
  clear GA
  go_wp2_with fail
  go_loopw [27] (fun s27 wr => ∃ k : Nat, k ≤ ns.length ∧ s27 = .int .i64 k ∧ RowAt wr w2.heap.size (boolsV (knR ns.length k ns)) ∧ W3.grownBy wr (some w2.heap.size)) (fun s27 _ => ns.length - (intOf s27).toNat)
  case atStart => exact ⟨0, Nat.zero_le _, rfl, by rw [knR_zero]; exact HKU.out, World.grownBy.refl _ _⟩
  case round =>
    obtain ⟨k, hk, rfl, hrow, hg⟩ := hrel
    have HR := Lib.hid hrow
    have HG := Lib.hid hg
    have hwg := hg.size
    have RB := Lib.hid (HKB.out.far hg (by intro e; simp at e))
    have RGr := Lib.hid (RG3.out.far hg (by intro e; simp at e; omega))
    have BBr := Lib.hid (show Below w.heap.size w wr from ⟨hg.os.trans HB3.out.os, hg.tape.trans HB3.out.tape, hg.output.trans HB3.out.output, Nat.le_trans HB3.out.size hg.size, fun i hi => (hg.block i (Nat.lt_of_lt_of_le hi HB3.out.size) (by intro e; simp at e; omega)).trans (HB3.out.block i hi)⟩)
    clear hrow hg
    by_cases hkl : k < ns.length
    · obtain ⟨nd, hnd⟩ : ∃ n, ns[k]? = some n := ⟨_, List.getElem?_eq_getElem hkl⟩
      obtain ⟨nb, noff, hna, hnb, hrg⟩ := nds_range HN.out k nd hnd
      subst hna
      have tR := NL.read nd wr nb (noff + k * 26) (fun j v hv => (BBr.out.cell (p := ⟨nb, _, none⟩) hnb).trans (hrg j v hv))
      have tL := NL.len nd
      have tB := NL.st1 nd wr
      have hal : Below wr.heap.size wr (wr.alloc (.cells nd.cells.toArray T)) := Below.alloc (Below.refl _ _) (Nat.le_refl _) _
      have R5B := Lib.hid (RB.out.over hal)
      have R5U := Lib.hid (HR.out.over hal)
      have R5X := Lib.hid (RowAt.new wr nd.cells T)
      have B5 := Lib.hid (below_call BBr.out hal)
      have HAL := Lib.hid hal
      have INS := Lib.hid (fun W => ins_any nd W)
      have hah := GA1.out k nd hnd
      have kl := knR_len (m := ns.length) (k := k) (ns := ns) hk rfl
      have hkn := knO_row (m := ns.length) (n := nd) hk rfl hah
      obtain ⟨q, hq⟩ : ∃ q, q = knO (knL (ns.take k)) nd := ⟨_, rfl⟩
      rw [← hq] at hkn
      have HKN := Lib.hid hkn
      have HKL := Lib.hid kl
      have HAH := Lib.hid hah
      have HQ := Lib.hid hq
      have kl0 : (0 : Int) ≤ (k : Int) := by omega
      have kl1 : (k : Int) < (ns.length : Int) := by omega
      have kl2 : (k : Int) + 1 < (ns.length : Int) + 1 := by omega
      have kl3 : (0 : Int) ≤ (k : Int) + 1 := by omega
      have hni : (ns.length : Int) ≤ 1000 := by omega
      have HND := Lib.hid hnd
      have HK := Lib.hid hkl
      clear hrg hnd hah kl hkn hq hkl hal
      go_upto_region 9 with fail
      clear tR tB tL b4
      have hUr : w2.heap.size + 1 < wr.heap.size := RB.out.lt
      have PS := Lib.hid (show ∀ W', RowAt W' (w2.heap.size + 1) [.slice (some ⟨w2.heap.size, 0, none⟩) (ns.length + 1) (ns.length + 1)] → RowAt W' wr.heap.size nd.cells → Below w.heap.size w W' → (fun w' => w'.cell? ⟨w2.heap.size + 1, 0, none⟩ = some (.slice (some ⟨w2.heap.size, 0, none⟩) (ns.length + 1) (ns.length + 1)) ∧ (loadCellsFrom ⟨wr.heap.size, 0, none⟩ 0 Z #[]).run Tryz.prog w' = .ok nd.cells.toArray w' ∧ Below w.heap.size w w') W' from fun W' h1 h2 h3 => ⟨h1.cell 0 _ rfl, NL.read nd W' wr.heap.size 0 h2.range, h3⟩)
      obtain ⟨kp, hkp⟩ : ∃ m : Nat, m = k + 1 := ⟨_, rfl⟩
      have kw : IntKind.i64.wrap ((k : Int) + 1) = (kp : Int) := by rw [hkp]; simp [IntKind.wrap, IntKind.signed, IntKind.bits]; omega
      have kp0 : (0 : Int) ≤ (kp : Int) := by omega
      have kp1 : (kp : Int) < (ns.length : Int) + 1 := by omega
      have HKP := Lib.hid hkp
      clear kl2 kl3 hkp
      obtain ⟨W5, hW5⟩ : ∃ W : World, W = wr.alloc (.cells nd.cells.toArray T) := ⟨_, rfl⟩
      rw [← hW5] at R5B R5U R5X B5 HAL ⊢
      clear hW5
      go_region_held3 (fun w' => w'.cell? ⟨w2.heap.size + 1, 0, none⟩ = some (.slice (some ⟨w2.heap.size, 0, none⟩) (ns.length + 1) (ns.length + 1)) ∧ (loadCellsFrom ⟨wr.heap.size, 0, none⟩ 0 Z #[]).run Tryz.prog w' = .ok nd.cells.toArray w' ∧ Below w.heap.size w w')
        (first | (with_reducible assumption) | (with_reducible exact PS.out _ R5B.out R5X.out B5.out) | (with_reducible exact PS.out _ R5B.out.drew R5X.out.drew B5.out.drew) | (with_reducible exact PS.out _ R7B.out R7X.out B7.out) | (with_reducible exact PS.out _ R7B.out.drew R7X.out.drew B7.out.drew) | (with_reducible exact PS.out _ R6B.out R6X.out B6.out) | (with_reducible exact PS.out _ R6B.out.drew R6X.out.drew B6.out.drew) | (with_reducible exact PS.out _ (R7B.out.aside w2.heap.size kp _ (by omega)) (R7X.out.aside w2.heap.size kp _ (by omega)) (Below.setCell B7.out (show w.heap.size ≤ (⟨w2.heap.size, kp, none⟩ : Addr).block from Nat.le_of_lt hUw) _)))
        (first
          | (go_at_call 13; (with_reducible refine (INS.out _).mono ?_); rintro e w6 ⟨at0, rfl, hb6, hin6⟩; have hB6 : Below W5.heap.size W5 w6 := (by first | (with_reducible exact hb6) | exact below_call (Below.refl W5.heap.size W5).drew hb6); have R6B := Lib.hid (R5B.out.over hB6); have R6U := Lib.hid (R5U.out.over hB6); have R6X := Lib.hid (R5X.out.over hB6); have B6 := Lib.hid (below_call B5.out hB6); have G6 := Lib.hid (grown_trans (below_grown HAL.out (some w2.heap.size)) (below_grown hB6 (some w2.heap.size))); have CT := Lib.hid (fun (W : World) (h1 : InsAt W5 W at0 (insN nd)) (h2 : KnAt W (w2.heap.size + 1) w2.heap.size (ns.length + 1) (knR ns.length k ns)) => contains_un (w2.heap.size + 1) w2.heap.size (ns.length + 1) (knR ns.length k ns) (insN nd) (ins_len nd) (fun v hv => by have := HAH.out v hv; rw [HKL.out]; omega) (by rw [HKL.out]; omega) at0 (insN nd).length W5 W h1 h2); rw [HKN.out] at CT; have I6 := Lib.hid (show InsAt W5 w6 at0 (insN nd) from hin6); have K6 := Lib.hid (show KnAt w6 (w2.heap.size + 1) w2.heap.size (ns.length + 1) (knR ns.length k ns) from ⟨by rw [HKL.out]; exact R6B.out, R6U.out⟩); clear hb6 hin6 hB6)
          | (go_at_call 12; (first | (with_reducible refine (CT.out _ I6.out K6.out).mono ?_) | (with_reducible refine (CT.out w6.drew I6.out ⟨K6.out.b.drew, K6.out.u.drew⟩).mono ?_)); rintro e w7 ⟨rfl, hb7⟩; have hB7 : Below w6.heap.size w6 w7 := (by first | (with_reducible exact hb7) | exact below_call (Below.refl w6.heap.size w6).drew hb7); have R7B := Lib.hid (R6B.out.over hB7); have R7U := Lib.hid (R6U.out.over hB7); have R7X := Lib.hid (R6X.out.over hB7); have B7 := Lib.hid (below_call B6.out hB7); have G7 := Lib.hid (grown_trans G6.out (below_grown hB7 (some w2.heap.size))); have u7 := R7U.out.cell kp _ (boolsV_at (by rw [HKL.out, HKP.out]; omega)); have f7 := R7U.out.fr kp; have l7 := R7U.out.lt; clear hb7 hB7))
      have hrow := knR_row (m := ns.length) R7U.out HK.out rfl HND.out
      rw [← HQ.out, ← HKP.out] at hrow
      have HROW := Lib.hid hrow
      have HGR := Lib.hid (grownN_set (k := kp) (x := .bool q) (grown_trans HG.out G7.out))
      clear hrow u7 f7 l7
      go_wp2_with fail
      exact ⟨⟨kp, by have := HK.out; have := HKP.out; omega, rfl, HROW.out, HGR.out⟩, by have := HK.out; have := HKP.out; simp [intOf]; omega⟩
    · obtain rfl : k = ns.length := by omega
      have hr := HR.out
      rw [knR_end rfl] at hr
      have HROW := Lib.hid hr
      have bb := RB.out.cell 0 _ rfl
      have bbl := RB.out.lt
      clear hr hkl
      go_wp2_with fail
      go_returns
      exact ⟨BBr.out, _, ⟨_, rfl⟩, Nat.le_of_lt hUw, HROW.out⟩
end Go.Proofs.YthapoiplejbckaaGreat
