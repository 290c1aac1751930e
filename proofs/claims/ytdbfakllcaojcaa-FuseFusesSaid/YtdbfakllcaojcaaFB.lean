/- fuse.Uses; the document's Uses. -/
import Derived.Test.YtdbfakllcaojcaaFA
import Derived.Test.YtdbfakllcaojcaaNY
import Derived.Test.YtdbfakllcaojcaaRF
import Derived.Deep.OwnRows
namespace Go.Proofs.Ytdbfakllcaojcaa
open Go Go.RowKit
set_option linter.unusedVariables false
set_option linter.unusedSimpArgs false
set_option maxRecDepth 100000

theorem info_intU : (Try.prog.info? 3).map (fun i => (i.zero, i.size, i.bytes)) = some (some (.int .i64 0), 1, 8) := by kernel_rfl
theorem made_ints (n : Nat) : (madeCells #[Value.int .i64 0] n) = (intsV (List.replicate n 0)).toArray := by
  apply Array.ext'
  apply List.ext_getElem
  · simp [madeCells, intsV]
  · intro i h1 h2
    simp [madeCells, intsV, Nat.mod_one]
theorem made_row (w : World) (n : Nat) : RowAt (w.alloc (.cells (madeCells #[Value.int .i64 0] n) 3)) w.heap.size (intsV (List.replicate n 0)) := by
  rw [made_ints]; exact RowAt.new w _ _
theorem rep_zero (m : Nat) : ∀ x ∈ List.replicate m (0 : Int), -0 ≤ x ∧ x ≤ 0 := by
  intro x hx; rw [List.eq_of_mem_replicate hx]; omega
theorem fold_bd : ∀ (ns : List Nd) (L : List Int) (M : Int), (∀ x ∈ L, -M ≤ x ∧ x ≤ M) → 0 ≤ M → ∀ x ∈ ns.foldl (fun L n => addAll 1 L (insN n)) L, -(M + 2 * ns.length) ≤ x ∧ x ≤ M + 2 * ns.length
  | [], L, M, h, _ => by intro x hx; have := h x hx; simp; exact this
  | n :: r, L, M, h, hM => by
    intro x hx
    have hl := ins_len n
    have := fold_bd r _ (M + 2) (fun y hy => by have := addAll_bd (b := 1) (by decide) (insN n) L M h hM y hy; omega) (by omega) x hx
    rw [List.length_cons]; push_cast; omega
theorem usesL_bd (m : Nat) (ns : List Nd) : ∀ x ∈ usesL m ns, -(2 * (ns.length : Int)) ≤ x ∧ x ≤ 2 * ns.length := by
  intro x hx
  have := fold_bd ns _ 0 (rep_zero m) (by decide) x hx
  omega
/-- what Uses tells of a sound network -/
def usesR (g : GrQ) : List Int := addAt 1 (usesL (g.ns.length + 1) g.ns) g.o
theorem usesR_len (g : GrQ) : (usesR g).length = g.ns.length + 1 := by unfold usesR; rw [addAt_len, usesL_len]
theorem usesR_at (g : GrQ) (h : (graphE g.gr).1 = 0) (i : Nat) (hi : i < g.ns.length + 1) : (usesR g)[i]? = some ((usesV g.o g.ns (i : Int) : Nat) : Int) := by
  obtain ⟨h1, h2, h3⟩ := graph_ins h
  have h1' : ∀ n ∈ g.ns, ∀ v ∈ insN n, 0 ≤ v ∧ v < ((g.ns.length + 1 : Nat) : Int) := h1
  have h2' : 0 ≤ g.o := h2
  have h3' : g.o < ((g.ns.length + 1 : Nat) : Int) := h3
  have e : (usesR g).getD i 0 = ((usesV g.o g.ns (i : Int) : Nat) : Int) := by
    unfold usesR
    rw [addAt_at 1 _ _ i h2' (by rw [usesL_len]; exact h3'), usesL_at _ _ _ h1']
    unfold usesV
    by_cases e : g.o = (i : Int)
    · rw [if_pos e, if_pos e]; push_cast; omega
    · rw [if_neg e, if_neg e]; push_cast; omega
  rw [← e]
  have hl : i < (usesR g).length := by rw [usesR_len]; exact hi
  simp [List.getD, hl]
def FuPost (g : GrQ) (w : World) (e : Ending) (w' : World) : Prop :=
  ((graphE g.gr).1 ≠ 0 → e = .returned (.tuple #[.slice none 0 0, .int .i64 (graphE g.gr).1])) ∧ Below w.heap.size w w' ∧
  ((graphE g.gr).1 = 0 → ∃ U c, e = .returned (.tuple #[.slice (some ⟨U, 0, none⟩) (g.ns.length + 1) c, .int .i64 0]) ∧ w.heap.size ≤ U ∧ RowAt w' U (intsV (usesR g)))
set_option maxHeartbeats 8000000 in
theorem uses_any (g : GrQ) (w : World) (hC : CnsIn w g.ca g.C g.cc) (hN : NdsIn w g.na g.ns g.nc) (hn : g.ns.length ≤ 1000) :
    Calls Try.prog 11 #[g.val] w (FuPost g w) := by
  obtain ⟨T, Z, Z0, NL⟩ := node_type
  have hL := NL.load
  have hAl := NL.alloc
  have hSt := NL.store
  have tA := NL.agg
  have tS := NL.size
  have tZ := NL.zero
  obtain ⟨E, hE⟩ : ∃ E, E = graphE g.gr := ⟨_, rfl⟩
  have GI := Lib.hid (fun (h : E.1 = 0) => graph_ins (g := g.gr) (by rw [← hE]; exact h))
  obtain ⟨R, hR⟩ : ∃ r, r = usesR g := ⟨_, rfl⟩
  have HRR := Lib.hid (show R = addAt 1 (usesL (g.ns.length + 1) g.ns) g.o from hR)
  unfold FuPost
  rw [← hE, ← hR]
  clear hR
  obtain ⟨gx, gy, gz, ca, cc, C, na, nc, ns, go⟩ := g
  have B0 : Below w.heap.size w (w.alloc (.cells #[.int .i64 gx, .int .i64 gy, .int .i64 gz, .slice ca C.length cc, .slice na ns.length nc, .int .i64 go] 26)) := Below.alloc (Below.refl _ _) (Nat.le_refl _) _
  have SY := shapes_all ⟨gx, gy, gz, ca, cc, C, na, nc, ns, go⟩ (w.alloc (.cells #[.int .i64 gx, .int .i64 gy, .int .i64 gz, .slice ca C.length cc, .slice na ns.length nc, .int .i64 go] 26)) (hC.later B0) (FlatIn.later hN B0) hn
  unfold ShPost at SY
  rw [← hE] at SY
  have HN := Lib.hid hN
  have hnl := hN.1
  rw [List.length_map] at hnl
  have hcb : nc ≤ 9223372036854775807 := hN.2.1
  obtain ⟨ec, el⟩ := E
  unfold GrQ.val at SY ⊢
  dsimp only at *
  have RG := Lib.hid (RowAt.new w [.int .i64 gx, .int .i64 gy, .int .i64 gz, .slice ca C.length cc, .slice na ns.length nc, .int .i64 go] 26)
  have BW := Lib.hid B0
  have SYH := Lib.hid SY
  clear B0 SY hC hN
  have hmk := fun W => run_make_row' (P := Try.prog) 28 3 (.int .i64 0) 8 Try.underlying28 info_intU rfl .i64 .i64 (ns.length + 1) (by omega) (by omega) W
  push_cast at hmk
  go_enter Try.func11, Try.ntmps11
  simp only [hL, hAl, hSt]
  clear hL hAl hSt
  by_cases h0 : ec = 0
  case neg =>
    have h0b : (ec != 0) = true := by simpa using h0
    have HO := Lib.hid h0
    clear h0
    go_wp2_with (go_at_call 29; (with_reducible refine SYH.out.mono ?_); rintro e w2 ⟨v, rfl, hb2, _, _⟩; have HB2 := Lib.hid (below_call BW.out hb2); clear hb2)
    go_returns
    exact ⟨fun _ => rfl, HB2.out, fun h => absurd h HO.out⟩
  subst h0
  go_upto_region 5 with (go_at_call 29; (with_reducible refine SYH.out.mono ?_); rintro e w2 ⟨v, rfl, hb2, _, _⟩; have HB2 := Lib.hid (below_call BW.out hb2); have RG2 := Lib.hid (RG.out.over hb2); have b4 := RG2.out.cell 4 _ rfl; have bl := RG2.out.lt; clear hb2)
  have hmr := made_row w2 (ns.length + 1)
  have h23 : Below w2.heap.size w2 (w2.alloc (.cells (madeCells #[Value.int .i64 0] (ns.length + 1)) 3)) := Below.alloc (Below.refl _ _) (Nat.le_refl _) _
  have HMR := Lib.hid hmr
  have HB3 := Lib.hid (below_call HB2.out h23)
  have RG3 := Lib.hid (RG2.out.over h23)
  have hUw : w.heap.size < w2.heap.size := bl
  clear hmr h23 hmk b4 bl
  generalize w2.alloc (.cells (madeCells #[Value.int .i64 0] (ns.length + 1)) 3) = W3 at *
  have b4 := RG3.out.cell 4 _ rfl
  have bl := RG3.out.lt
  obtain ⟨gi1, gi2, gi3⟩ := GI.out trivial
  have HG1 := Lib.hid gi1
  have go0 : 0 ≤ go := gi2
  have go1 : go < ((ns.length + 1 : Nat) : Int) := gi3
  clear gi1 gi2 gi3 GI
  go_wp2_with fail
  go_loopw [25] (fun s25 wr => ∃ k : Nat, k ≤ ns.length ∧ s25 = .int .i64 k ∧ RowAt wr w2.heap.size (intsV (usesL (ns.length + 1) (ns.take k))) ∧ W3.grownBy wr (some w2.heap.size)) (fun s25 _ => ns.length - (intOf s25).toNat)
  case atStart => exact ⟨0, Nat.zero_le _, rfl, HMR.out, World.grownBy.refl _ _⟩
  case round =>
    obtain ⟨k, hk, rfl, hrow, hg⟩ := hrel
    have HR := Lib.hid hrow
    have HG := Lib.hid hg
    have hwg := hg.size
    clear hrow hg
    by_cases hkl : k < ns.length
    · obtain ⟨nd, hnd⟩ : ∃ n, ns[k]? = some n := ⟨_, List.getElem?_eq_getElem hkl⟩
      obtain ⟨nb, noff, hna, hnb, hrg⟩ := nds_range HN.out k nd hnd
      subst hna
      have hr2 : ∀ j v, nd.cells[j]? = some v → _ := fun j v hv => HG.out.cell ((HB3.out.cell (p := ⟨nb, _, none⟩) hnb).trans (hrg j v hv)) (by intro e; simp at e; omega)
      have tR := NL.read nd _ nb (noff + k * 26) hr2
      have tL := NL.len nd
      have hnm := List.mem_of_getElem? hnd
      have tk := usesL_len (ns.length + 1) (ns.take k)
      have hbd : ∀ x ∈ usesL (ns.length + 1) (ns.take k), -1000000 ≤ x ∧ x ≤ 1000000 := fun x hx => by
        have := usesL_bd (ns.length + 1) (ns.take k) x hx
        have hl : (ns.take k).length ≤ 1000 := by rw [List.length_take]; omega
        omega
      obtain ⟨wo, hwo⟩ : ∃ W : World, W = wr := ⟨_, rfl⟩
      have CT := count_any w2.heap.size (ns.length + 1) (usesL (ns.length + 1) (ns.take k)) nd 1 (wr.alloc (.cells nd.cells.toArray T)) (by decide) (HR.out.over (Below.alloc (Below.refl _ _) (Nat.le_refl _) _)) (fun v hv => by rw [tk]; exact HG1.out nd hnm v hv) hbd (by rw [tk]; omega)
      rw [tk] at CT
      push_cast at CT
      have HCT := Lib.hid CT
      have tB := NL.st1 nd wr
      have tR2 := NL.read nd (wr.alloc (.cells nd.cells.toArray T)) wr.heap.size 0 (RowAt.new wr nd.cells T).range
      have HAL := Lib.hid (below_grown (Below.alloc (Below.refl wr.heap.size wr) (Nat.le_refl _) (.cells nd.cells.toArray T)) (some w2.heap.size))
      have kl0 : (0 : Int) ≤ (k : Int) := by omega
      have kl1 : (k : Int) < (ns.length : Int) := by omega
      have HND := Lib.hid hnd
      have HK := Lib.hid hkl
      clear hr2 hrg hnd hnm tk hbd CT hwo hkl
      go_wp2_with (go_at_call 30; (with_reducible refine HCT.out.mono ?_); rintro e w5 ⟨rfl, hg5, hr5⟩; have HG5 := Lib.hid hg5; have HR5 := Lib.hid hr5; clear hg5 hr5)
      refine ⟨⟨k + 1, by have := HK.out; omega, rfl, ?_, grown_trans HG.out (grown_trans HAL.out HG5.out)⟩, by have := HK.out; simp [intOf]; omega⟩
      rw [take_succ_at HND.out, usesL_snoc]; exact HR5.out
    · obtain rfl : k = ns.length := by omega
      have e : ns.take ns.length = ns := List.take_length
      have HR2 := HR.out
      rw [e] at HR2
      obtain ⟨v, rfl⟩ : ∃ v : Nat, go = (v : Int) := ⟨go.toNat, by omega⟩
      have hvl : v < (usesL (ns.length + 1) ns).length := by rw [usesL_len]; omega
      obtain ⟨x, hx⟩ : ∃ x, (usesL (ns.length + 1) ns)[v]? = some x := ⟨_, List.getElem?_eq_getElem hvl⟩
      have hxb := usesL_bd (ns.length + 1) ns x (List.mem_of_getElem? hx)
      obtain ⟨x0, x1⟩ : -2000 ≤ x ∧ x ≤ 2000 := by omega
      have c1 := HR2.cell v _ (intsV_at hx)
      have f1 := HR2.fr v
      have l1 := HR2.lt
      have bo := HG.out.cell (RG3.out.cell 5 _ rfl) (by intro e; simp at e; omega)
      have bl2 : w.heap.size < wr.heap.size := Nat.lt_of_lt_of_le bl hwg
      have v0 : (0 : Int) ≤ (v : Int) := by omega
      have v1 : (v : Int) < (ns.length : Int) + 1 := by push_cast at go1; omega
      have hset := addAt_row (b := 1) HR2 hvl
      have hgx : (usesL (ns.length + 1) ns).getD v 0 = x := by simp [List.getD, hx]
      rw [hgx, ← HRR.out] at hset
      have HSET := Lib.hid hset
      have HBo := Lib.hid (Below.setCell (show Below w.heap.size w wr from ⟨HG.out.os.trans HB3.out.os, HG.out.tape.trans HB3.out.tape, HG.out.output.trans HB3.out.output, Nat.le_trans HB3.out.size HG.out.size, fun i hi => (HG.out.block i (Nat.lt_of_lt_of_le hi HB3.out.size) (by intro e; simp at e; omega)).trans (HB3.out.block i hi)⟩) (show w.heap.size ≤ (⟨w2.heap.size, v, none⟩ : Addr).block from Nat.le_of_lt hUw) (.int .i64 (x + 1)))
      clear hkl e HR2 hx hxb hvl hset hgx go0 go1
      go_wp2_with fail
      go_returns
      exact ⟨HBo.out, _, ⟨_, rfl⟩, Nat.le_of_lt hUw, HSET.out⟩
end Go.Proofs.Ytdbfakllcaojcaa
