/- The document's Shapes. -/
import Derived.Test.YtdbfakllcaojcaaRX
import Derived.Test.YtdbfakllcaojcaaRsN
import Derived.Deep.DeepCutAuto
namespace Go.Proofs.Ytdbfakllcaojcaa
open Go Go.RowKit
set_option linter.unusedVariables false
set_option linter.unusedSimpArgs false
set_option maxRecDepth 100000

/-- what the document's Shapes tells -/
def RShPost (g : GrQ) (w : World) (e : Ending) (w' : World) : Prop :=
  ∃ v, e = .returned (.tuple #[v, .int .i64 (graphE g.gr).1]) ∧ Below w.heap.size w w' ∧ ((graphE g.gr).1 ≠ 0 → ∃ a c, v = .slice a 0 c) ∧ ((graphE g.gr).1 = 0 → w'.ownsRow w.heap.size 22 3 v (graphE g.gr).2.length (sh3 (graphE g.gr).2))
theorem node_type2 : ∃ T Z Z0, NdT T Z Z0 ∧ ∀ (n : Nd) (W : World) (b : Nat), RowAt W b Z0 → (storeCells ⟨b, 0, none⟩ n.cells 0).run Try.prog W = .ok () (W.setCells b 0 n.cells) ∧ RowAt (W.setCells b 0 n.cells) b n.cells := by
  have hz : ([.int .i64 0, .int .i64 0, .int .i64 0, .int .i64 0, .int .i64 0, .int .i64 0, .int .i64 0, .int .i64 0, .int .i64 0, .int .i64 0, .int .i64 0, .int .i64 0, .int .i64 0, .int .i64 0, .int .i32 0, .int .i32 0, .int .i64 0, .int .i64 0, .int .i64 0, .int .i64 0, .int .i64 0, .int .i64 0, .int .i64 0, .int .i64 0, .int .i64 0, .int .i64 0] : List Value).length = 26 := rfl
  refine ⟨57, 26, [.int .i64 0, .int .i64 0, .int .i64 0, .int .i64 0, .int .i64 0, .int .i64 0, .int .i64 0, .int .i64 0, .int .i64 0, .int .i64 0, .int .i64 0, .int .i64 0, .int .i64 0, .int .i64 0, .int .i32 0, .int .i32 0, .int .i64 0, .int .i64 0, .int .i64 0, .int .i64 0, .int .i64 0, .int .i64 0, .int .i64 0, .int .i64 0, .int .i64 0, .int .i64 0], ⟨fun _ => rfl, rfl, fun _ _ => rfl, fun w => by simp, fun w => by simp, node_zero, fun n => n.cells_len, fun n W b o hr => ?_, fun n W => ?_⟩, fun n W b hr => ⟨?_, ?_⟩⟩
  · have := run_loadCells_list (P := Try.prog) (w := W) ⟨b, o, none⟩ n.cells (fun j v hv => by rw [Addr.add_mid]; exact hr j v hv)
    rw [n.cells_len] at this
    simpa [loadCells] using this
  · rw [(RowAt.new W _ 57).store (P := Try.prog) (by rw [n.cells_len, hz]) (Nd.one n), node_new W _ _ hz n.cells_len (Nd.one n)]
  · exact hr.store (by rw [n.cells_len, hz]) (Nd.one n)
  · exact hr.stored (by rw [n.cells_len, hz])
theorem insAt_over {w0 w0' w w' : World} {a : Option Addr} {l : List Int} (h : InsAt w0 w a l) (hs : w0'.heap.size ≤ w0.heap.size) (hb : Below w.heap.size w w') : InsAt w0' w' a l := by
  intro i z hz
  obtain ⟨g, ha, hg, hlt, hc⟩ := h i z hz
  exact ⟨g, ha, Nat.le_trans hs hg, Nat.lt_of_lt_of_le hlt hb.size, (hb.cell (p := ⟨g, _, none⟩) hlt).trans hc⟩
theorem insAt_aside {w0 w0' w w' : World} {a : Option Addr} {l : List Int} {B : Nat} (h : InsAt w0 w a l) (hs : w0'.heap.size ≤ w0.heap.size) (hB : B < w0.heap.size) (hb : w.grownBy w' (some B)) : InsAt w0' w' a l := by
  intro i z hz
  obtain ⟨g, ha, hg, hlt, hc⟩ := h i z hz
  exact ⟨g, ha, Nat.le_trans hs hg, Nat.lt_of_lt_of_le hlt hb.size, hb.cell hc (by intro e; simp at e; omega)⟩
/-- where a sound node's inputs lie -/
theorem ins_bounds {n : Nd} {m : Nat} (hm : 0 < m) (h1 : 1 ≤ n.op) (h2 : n.op ≤ 14) (hi : insOk n m = true) (hd : idleN n = true) : (0 ≤ n.a ∧ n.a < m) ∧ (0 ≤ n.b ∧ n.b < m) := by
  unfold idleN at hd
  simp only [Bool.and_eq_true, Bool.or_eq_true] at hd
  obtain ⟨⟨⟨⟨⟨⟨⟨⟨⟨⟨⟨⟨⟨ha, hb⟩, _⟩, _⟩, _⟩, _⟩, _⟩, _⟩, _⟩, _⟩, _⟩, _⟩, _⟩, _⟩ := hd
  unfold insOk insN at hi
  by_cases e1 : n.op = 1
  · have a0 : n.a = 0 := by
      rcases ha with h | h
      · unfold hA at h; simp at h; exact absurd e1 h
      · simpa using h
    have b0 : n.b = 0 := by
      rcases hb with h | h
      · unfold hB at h; simp at h; omega
      · simpa using h
    omega
  · rw [if_neg e1] at hi
    by_cases e2 : hB n.op = true
    · rw [if_pos e2] at hi
      simp at hi
      omega
    · rw [if_neg e2] at hi
      have b0 : n.b = 0 := by
        rcases hb with h | h
        · exact absurd h e2
        · simpa using h
      simp at hi
      omega
theorem insOk_all {n : Nd} {m : Nat} (h : ∀ (i : Nat) (z : Int), (insN n)[i]? = some z → 0 ≤ z ∧ z < m) : insOk n m = true := by
  unfold insOk
  rw [List.all_eq_true]
  intro z hz
  obtain ⟨i, hi⟩ := List.getElem?_of_mem hz
  exact decide_eq_true (h i z hi)
theorem insOk_not {n : Nd} {m i : Nat} {z : Int} (hz : (insN n)[i]? = some z) (h : z < 0 ∨ (m : Int) ≤ z) : insOk n m = false := by
  cases hb : insOk n m
  · rfl
  · have := List.all_eq_true.1 hb z (List.mem_of_getElem? hz)
    have := of_decide_eq_true this
    omega
theorem nodeE_op {C : List Cn} {n : Nd} {l : List Sh} (h : n.op < 1 ∨ 14 < n.op) : nodeE C n l = (15, default) := by unfold nodeE; rw [if_pos h]
theorem nodeE_main {C : List Cn} {n : Nd} {l : List Sh} {sa sb : Sh} {oe : Int} {os : Sh} (h : 1 ≤ n.op ∧ n.op ≤ 14) (hi : insOk n l.length = true) (hd : idleN n = true) (ha : l.getD n.a.toNat default = sa) (hb : l.getD n.b.toNat default = sb) (ho : (oe, os) = outN n sa sb) :
    nodeE C n l = if oe ≠ 0 then (oe, default) else if os.fit ≠ 0 then (os.fit, default) else if n.op = 4 ∧ 4096 < sa.size then (12, default) else if weightsE C n sa os ≠ 0 then (weightsE C n sa os, default) else if numbersB C n = false then (11, default) else (0, os) := by
  unfold nodeE
  rw [if_neg (by omega), if_neg (by rw [hi]; simp), if_neg (by rw [hd]; simp), ha, hb, ← ho]
theorem out_facts {n : Nd} {a b : Sh} (h1 : 1 ≤ n.op) (h2 : n.op ≤ 14) (hd : idleN n = true) (h : (outN n a b).1 = 0) : (0 ≤ n.k0 * n.k1 ∧ n.k0 * n.k1 ≤ 64) ∧ (hC n.op = true → 1 ≤ n.chans ∧ n.chans ≤ 64) ∧ (n.op = 3 → (outN n a b).2.z = a.z) := by
  have hw : hWin n.op = true → winG n a = true := by
    intro hw
    cases hg : winG n a
    · rw [outN, hw, hg] at h; simp at h
    · rfl
  refine ⟨?_, ?_, ?_⟩
  · cases hwn : hWin n.op
    · unfold idleN at hd
      simp only [Bool.and_eq_true, Bool.or_eq_true] at hd
      obtain ⟨⟨⟨⟨⟨⟨⟨⟨⟨⟨⟨⟨⟨_, _⟩, hk⟩, _⟩, _⟩, _⟩, _⟩, _⟩, _⟩, _⟩, _⟩, _⟩, _⟩, _⟩ := hd
      rw [hwn] at hk
      simp at hk
      rw [hk.1.1.1]; simp
    · have g := hw hwn
      unfold winG at g
      simp only [Bool.and_eq_true] at g
      have g0 := of_decide_eq_true g.1
      have g1 := of_decide_eq_true g.2
      exact ⟨(mul_bd (p := 8) (q := 8) (by omega) (by omega) (by omega) (by omega)).1, (mul_bd (x := n.k0) (y := n.k1) (p := 8) (q := 8) (by omega) (by omega) (by omega) (by omega)).2⟩
  · intro hc
    have hww := hw
    unfold outN at h
    cases hwn : hWin n.op
    · rw [hwn, hc] at h
      by_cases g : 1 ≤ n.chans ∧ n.chans ≤ 64
      · exact g
      · simp [g] at h
    · rw [hwn, hww hwn, hc] at h
      by_cases g : 1 ≤ n.chans ∧ n.chans ≤ 64
      · exact g
      · simp [g] at h
  · intro h3
    have e : winG n a = true := hw (by rw [h3]; rfl)
    simp [outN, h3, e, hWin, hC]
set_option maxHeartbeats 8000000 in
theorem rshapes_any (g : GrQ) (w : World) (hC : CnsIn w g.ca g.C g.cc) (hN : NdsIn w g.na g.ns g.nc) (hn : g.ns.length ≤ 1000) :
    Calls Try.prog 12 #[g.val] w (RShPost g w) := by
  obtain ⟨T, Z, Z0, NL, ST2⟩ := node_type2
  have hL := NL.load
  have hAl := NL.alloc
  have hSt := NL.store
  have tA := NL.agg
  have tS := NL.size
  have tZ := NL.zero
  have HST2 := Lib.hid ST2
  clear ST2
  obtain ⟨E, hE⟩ : ∃ E, E = graphE g.gr := ⟨_, rfl⟩
  unfold RShPost
  rw [← hE]
  obtain ⟨gx, gy, gz, ca, cc, C, na, nc, ns, go⟩ := g
  have FS := Lib.hid (fun W => rfits_sh ⟨gx, gy, gz⟩ W)
  obtain ⟨f, hf⟩ : ∃ f, f = Sh.fit ⟨gx, gy, gz⟩ := ⟨_, rfl⟩
  rw [← hf] at FS
  have HF := Lib.hid hf
  have HE := Lib.hid hE
  have HC := Lib.hid hC
  have HN := Lib.hid hN
  have hnl := hN.1
  rw [List.length_map] at hnl
  have hcb : nc ≤ 9223372036854775807 := hN.2.1
  clear hC hN hE hf
  unfold GrQ.val
  dsimp only at *
  have RB := Lib.hid (RowAt.new w [.int .i64 gx, .int .i64 gy, .int .i64 gz, .slice ca C.length cc, .slice na ns.length nc, .int .i64 go] 26)
  have BB : Below w.heap.size w (w.alloc (.cells #[.int .i64 gx, .int .i64 gy, .int .i64 gz, .slice ca C.length cc, .slice na ns.length nc, .int .i64 go] 26)) := Below.alloc (Below.refl _ _) (Nat.le_refl _) _
  have BW := Lib.hid BB
  have HSZ := Lib.hid (size_alloc1 w (.cells #[.int .i64 gx, .int .i64 gy, .int .i64 gz, .slice ca C.length cc, .slice na ns.length nc, .int .i64 go] 26))
  clear BB
  go_enter Try.func12, Try.ntmps12
  simp only [hL, hAl, hSt]
  clear hL hAl hSt
  go_upto_region 1 with fail
  generalize w.alloc (.cells #[.int .i64 gx, .int .i64 gy, .int .i64 gz, .slice ca C.length cc, .slice na ns.length nc, .int .i64 go] 26) = W1 at *
  go_cut [4, 5] (fun s4 s5 wx => ∃ b4 c4 b5 c5, s4 = .slice (some ⟨b4, 0, none⟩) 0 c4 ∧ s5 = .slice (some ⟨b5, 0, none⟩) 1 c5 ∧ wx.ownsRow (w.heap.size + 1) 22 3 (.slice (some ⟨b5, 0, none⟩) 1 c5) 1 (sh3 [⟨gx, gy, gz⟩]) ∧ RowAt wx w.heap.size [.int .i64 gx, .int .i64 gy, .int .i64 gz, .slice ca C.length cc, .slice na ns.length nc, .int .i64 go] ∧ Below (w.heap.size + 1) W1 wx)
  case first =>
    have b0 := RB.out.cell 0 _ rfl
    have b1 := RB.out.cell 1 _ rfl
    have b2 := RB.out.cell 2 _ rfl
    have bl := RB.out.lt
    go_region
    all_goals (go_wp2_with fail; go_meet)
    · have hs := HSZ.out
      have h1 : Below (w.heap.size + 1) W1 (W1.alloc (.cells #[] 22)) := Below.alloc (Below.refl _ _) (by omega) _
      have h2 : Below (w.heap.size + 1) W1 ((W1.alloc (.cells #[] 22)).alloc (.cells #[.int .i64 gx, .int .i64 gy, .int .i64 gz] 22)) := h1.trans (Below.alloc (Below.refl _ _) (by have := h1.size; omega) _)
      have o1 := World.ownsRow_lit (base := w.heap.size + 1) (e := 22) (size := 3) (W1.alloc (.cells #[] 22)) #[.int .i64 gx, .int .i64 gy, .int .i64 gz] 1 (by have := h1.size; omega) (by decide) rfl
      rw [size_alloc1] at o1
      exact ⟨_, _, _, _, rfl, rfl, own_laterS o1 (Below.refl _ _).drew, RB.out.later h2.drew (by omega), h2.drew⟩
    · have hs := HSZ.out
      have h1 : Below (w.heap.size + 1) W1 (W1.alloc (.cells #[.int .i64 gx, .int .i64 gy, .int .i64 gz] 22)) := Below.alloc (Below.refl _ _) (by omega) _
      have h2 : Below (w.heap.size + 1) W1 ((W1.alloc (.cells #[.int .i64 gx, .int .i64 gy, .int .i64 gz] 22)).alloc (.cells #[] 22)) := h1.trans (Below.alloc (Below.refl _ _) (by have := h1.size; omega) _)
      have o1 := World.ownsRow_lit (base := w.heap.size + 1) (e := 22) (size := 3) W1 #[.int .i64 gx, .int .i64 gy, .int .i64 gz] 1 (by omega) (by decide) rfl
      exact ⟨_, _, _, _, rfl, rfl, own_laterS o1 (Below.alloc (Below.refl _ _) (Nat.le_refl _) (.cells #[] 22)).drew, RB.out.later h2.drew (by omega), h2.drew⟩
  case rest =>
    obtain ⟨b4, c4, b5, c5, h4, h5, hown, hrow, hbel⟩ := hcut
    subst h4
    subst h5
    have OW0 := Lib.hid hown
    have RB1 := Lib.hid hrow
    have HW1 := Lib.hid hbel
    have BWc := Lib.hid (BW.out.trans (hbel.mono (by omega)))
    have hwc : w.heap.size < wc.heap.size := hrow.lt
    clear hown hrow hbel RB BW
    by_cases hf0 : f ≠ 0
    · have hfb : (f != 0) = true := by simpa using hf0
      have HF0 := Lib.hid hf0
      have b0 := RB1.out.cell 0 _ rfl
      have b1 := RB1.out.cell 1 _ rfl
      have b2 := RB1.out.cell 2 _ rfl
      clear hf0
      have GE : E = (f, []) := by rw [HE.out, HF.out]; exact graph_in0 (by have := HF0.out; rw [HF.out] at this; exact this)
      have HGE := Lib.hid GE
      clear GE
      go_wp2_with (go_at_call 31; (with_reducible refine (FS.out _).mono ?_); rintro e w2 ⟨rfl, hb2⟩; have HB2 := Lib.hid hb2; clear hb2)
      go_returns
      rw [HGE.out]
      exact ⟨_, rfl, below_call BWc.out HB2.out, fun _ => ⟨_, _, rfl⟩, fun h => absurd h HF0.out⟩
    have hf1 : f = 0 := Decidable.of_not_not hf0
    have hfit : Sh.fit ⟨gx, gy, gz⟩ = 0 := by rw [← HF.out]; exact hf1
    have HFI := Lib.hid hfit
    clear hf0 hfit HF
    subst hf1
    have b0 := RB1.out.cell 0 _ rfl
    have b1 := RB1.out.cell 1 _ rfl
    have b2 := RB1.out.cell 2 _ rfl
    go_wp2_with (go_at_call 31; (with_reducible refine (FS.out _).mono ?_); rintro e w2 ⟨rfl, hb2⟩; have HB2 := Lib.hid hb2; have RB2 := Lib.hid (RB1.out.over hb2); clear hb2)
    have BW2 := Lib.hid (below_call BWc.out HB2.out)
    have OW2 := Lib.hid (own_laterS OW0.out HB2.out)
    obtain ⟨i0, hi, hz0, hz1, hz2⟩ : ∃ i, Try.prog.info? 22 = some i ∧ i.zero = some (.agg #[.int .i64 0, .int .i64 0, .int .i64 0]) ∧ i.size = 3 ∧ i.bytes = 24 := ⟨(Try.prog.info? 22).get!, by kernel_rfl, by kernel_rfl, by kernel_rfl, by kernel_rfl⟩
    have hw2 : w.heap.size < w2.heap.size := RB2.out.lt
    clear b0 b1 b2 RB1 BWc OW0 HW1 HB2 FS hwc
    have HB5 := Lib.hid (fun (W : World) (hb : Below (w.heap.size + 1) w2 W) => RB2.out.later hb (Nat.lt_succ_self _))
    go_loopw [5, 7] (fun s5 kk wr => ∃ (k : Nat) (l : List Sh), k ≤ ns.length ∧ kk = .int .i64 k ∧ wr.ownsRow (w.heap.size + 1) 22 3 s5 l.length (sh3 l) ∧ Below (w.heap.size + 1) w2 wr ∧ l.length = k + 1 ∧ (∀ s ∈ l, s.fit = 0) ∧ shapesE (C.map CnQ.cn) (ns.drop k) l = shapesE (C.map CnQ.cn) ns [⟨gx, gy, gz⟩]) (fun _ kk _ => ns.length - (intOf kk).toNat)
    case atStart => exact ⟨0, [⟨gx, gy, gz⟩], Nat.zero_le _, rfl, OW2.out, Below.refl _ _, rfl, fun s hs => by obtain rfl : s = _ := List.mem_singleton.1 hs; exact HFI.out, rfl⟩
    case round =>
      obtain ⟨k, l, hk, rfl, hown, hB, hll, hgood, hsp⟩ := hrel
      have rb := HB5.out wr hB
      have b4 := rb.cell 4 _ rfl
      have blt2 := rb.lt
      have RBr := Lib.hid rb
      have OWN := Lib.hid hown
      have HB := Lib.hid hB
      have HGD := Lib.hid hgood
      have HSP := Lib.hid hsp
      have HBW := Lib.hid (BW2.out.trans (hB.mono (by omega)))
      obtain ⟨g, cap, hv, hgb, hglt, hsh⟩ := own_sh hown (by omega)
      have HSH := Lib.hid hsh
      have HLL := Lib.hid hll
      have ll : l.length ≤ 1001 := by omega
      clear rb hown hB hgood hsp hsh hll
      subst hv
      by_cases hkl : k < ns.length
      · obtain ⟨nd, hnd⟩ : ∃ n, ns[k]? = some n := ⟨_, List.getElem?_eq_getElem hkl⟩
        obtain ⟨nb, noff, hna, hnb, hrg⟩ := nds_range HN.out k nd hnd
        subst hna
        have HRG := Lib.hid (fun (W : World) (hb : Below wr.heap.size wr W) => NL.read nd W nb (noff + k * 26) (fun j v hv => ((below_call HBW.out hb).cell (p := ⟨nb, _, none⟩) hnb).trans (hrg j v hv)))
        have tL := NL.len nd
        have HND := Lib.hid hnd
        have RI := Lib.hid (fun W => rins nd W)
        have kl0 : (0 : Int) ≤ (k : Int) := by omega
        have kl1 : (k : Int) < (ns.length : Int) := by omega
        have HK := Lib.hid hkl
        clear hnd hrg hkl
        go_upto_region 8 with fail
        go_cut [8, 9] (fun s8 s9 wx => ∃ X at0 c, s8 = .pointer (some ⟨X, 0, none⟩) ∧ s9 = .slice at0 (insN nd).length c ∧ wr.heap.size ≤ X ∧ RowAt wx X nd.cells ∧ InsAt wr wx at0 (insN nd) ∧ Below wr.heap.size wr wx)
        case first =>
          have PS := Lib.hid (show ∀ W', Below wr.heap.size wr W' → (fun w' => (loadCellsFrom ⟨nb, noff + k * 26, none⟩ 0 Z #[]).run Try.prog w' = .ok nd.cells.toArray w' ∧ w'.cell? ⟨w.heap.size, 4, none⟩ = some (.slice (some ⟨nb, noff, none⟩) ns.length nc) ∧ Below wr.heap.size wr w') W' from fun W' hb => ⟨HRG.out W' hb, (RBr.out.over hb).cell 4 _ rfl, hb⟩)
          have tB := NL.st1 nd
          clear b4
          go_region_held3 (fun w' => (loadCellsFrom ⟨nb, noff + k * 26, none⟩ 0 Z #[]).run Try.prog w' = .ok nd.cells.toArray w' ∧ w'.cell? ⟨w.heap.size, 4, none⟩ = some (.slice (some ⟨nb, noff, none⟩) ns.length nc) ∧ Below wr.heap.size wr w')
            (first | (with_reducible assumption) | (refine PS.out _ ?_; first | (with_reducible exact Below.refl _ _) | (with_reducible exact (Below.refl _ _).drew) | (with_reducible exact Below.alloc (Below.refl _ _) (Nat.le_refl _) _) | (with_reducible exact (Below.alloc (Below.refl _ _) (Nat.le_refl _) _).drew) | (with_reducible exact hB2) | (with_reducible exact hB2.drew) | (with_reducible exact Below.alloc hB2 hB2.size _) | (with_reducible exact (Below.alloc hB2 hB2.size _).drew) | (with_reducible exact hBs)))
            (first | (go_at_call 28; (with_reducible refine (RI.out _).mono ?_); rintro e w4 ⟨at0, c, rfl, hb2, hins⟩; (first | (have hB2 := below_call (Below.refl wr.heap.size wr) hb2; have st := NL.st1 nd w4; have st' := (show (storeCells ⟨w4.heap.size, 0, none⟩ nd.cells 0).run Try.prog (w4.alloc (.cells Z0.toArray T)).drew = .ok () (w4.alloc (.cells nd.cells.toArray T)).drew from NL.st1 nd w4.drew)) | (have hB2 := below_call (Below.refl wr.heap.size wr).drew hb2; have st := NL.st1 nd w4; have st' := (show (storeCells ⟨w4.heap.size, 0, none⟩ nd.cells 0).run Try.prog (w4.alloc (.cells Z0.toArray T)).drew = .ok () (w4.alloc (.cells nd.cells.toArray T)).drew from NL.st1 nd w4.drew)) | (have hB2 := below_call (Below.alloc (Below.refl wr.heap.size wr) (Nat.le_refl _) (.cells Z0.toArray T)) hb2; have RZ := (RowAt.new wr Z0 T).over hb2; have st := (HST2.out nd w4 wr.heap.size RZ).1; have RZ2 := Lib.hid (HST2.out nd w4 wr.heap.size RZ).2; have hBs := hB2.trans (grown_below (grown_setCells wr.heap.size nd.cells w4 0) (Nat.le_refl _) hB2.size); clear RZ) | (have hB2 := below_call (Below.alloc (Below.refl wr.heap.size wr) (Nat.le_refl _) (.cells Z0.toArray T)).drew hb2; have RZ := (RowAt.new wr Z0 T).drew.over hb2; have st := (HST2.out nd w4 wr.heap.size RZ).1; have RZ2 := Lib.hid (HST2.out nd w4 wr.heap.size RZ).2; have hBs := hB2.trans (grown_below (grown_setCells wr.heap.size nd.cells w4 0) (Nat.le_refl _) hB2.size); clear RZ))))
          · go_wp2_with fail
            go_meet
            exact ⟨_, _, _, rfl, rfl, hB2.size, RowAt.new w4 nd.cells T, insAt_over hins (Nat.le_refl _) (Below.alloc (Below.refl _ _) (Nat.le_refl _) _), Below.alloc hB2 hB2.size _⟩
          · go_wp2_with fail
            go_meet
            exact ⟨_, _, _, rfl, rfl, Nat.le_refl _, RZ2.out, insAt_aside hins (Nat.le_of_lt (lt_alloc_drew wr (.cells Z0.toArray T))) (lt_alloc_drew wr (.cells Z0.toArray T)) (grown_setCells wr.heap.size nd.cells w4 0), hBs⟩
        case rest =>
          obtain ⟨X, at0, ci, h8, h9, hX, hrn, hia, hbc⟩ := hcut
          subst h8
          subst h9
          have RN := Lib.hid hrn
          have IA := Lib.hid hia
          have HBc := Lib.hid hbc
          have RG := Lib.hid (RBr.out.over hbc)
          have hXl : X < wc.heap.size := hrn.lt
          have cn0 := hrn.cell 0 _ rfl
          have hgc : g < wc.heap.size := Nat.lt_of_lt_of_le hglt hbc.size
          have hlc : (insN nd).length ≤ 2 := by unfold insN; split <;> (try split) <;> simp
          clear hrn hia hbc b4 tL
          have NOP : ∀ e : Int, nodeE (C.map CnQ.cn) nd l = (e, default) → e ≠ 0 → E = (e, []) := by
            intro e he h0
            have hs : shapesE (C.map CnQ.cn) ns [⟨gx, gy, gz⟩] = (e, []) := by
              rw [← HSP.out, drop_at HND.out, shapesE, he, if_pos h0]
            exact HE.out.trans (graph_sh (g := ⟨⟨gx, gy, gz⟩, C.map CnQ.cn, ns, go⟩) HFI.out hs h0)
          have HNOP := Lib.hid NOP
          clear NOP
          by_cases o1 : nd.op < 1
          · have o1b : decide (nd.op < 1) = true := by simpa using o1
            have GE := Lib.hid (HNOP.out 15 (nodeE_op (Or.inl o1)) (by decide))
            clear o1
            go_wp2_with fail
            go_returns
            rw [GE.out]
            exact ⟨_, rfl, below_call HBW.out HBc.out, fun _ => ⟨_, _, rfl⟩, fun h => absurd h (by decide)⟩
          have o1b : decide (nd.op < 1) = false := by simpa using o1
          by_cases o2 : 14 < nd.op
          · have o2b : decide (14 < nd.op) = true := by simpa using o2
            have GE := Lib.hid (HNOP.out 15 (nodeE_op (Or.inr o2)) (by decide))
            clear o1 o2
            go_wp2_with fail
            go_returns
            rw [GE.out]
            exact ⟨_, rfl, below_call HBW.out HBc.out, fun _ => ⟨_, _, rfl⟩, fun h => absurd h (by decide)⟩
          have o2b : decide (14 < nd.op) = false := by simpa using o2
          have HOP := Lib.hid (show 1 ≤ nd.op ∧ nd.op ≤ 14 by omega)
          clear o1 o2
          go_wp2_with fail
          go_loopw [10] (fun s10 wx => ∃ j : Nat, j ≤ (insN nd).length ∧ s10 = .int .i64 j ∧ Below wc.heap.size wc wx ∧ ∀ i z, i < j → (insN nd)[i]? = some z → 0 ≤ z ∧ z ≤ (k : Int)) (fun s10 _ => (insN nd).length - (intOf s10).toNat)
          case atStart => exact ⟨0, Nat.zero_le _, rfl, Below.refl _ _, fun i z hi => absurd hi (by omega)⟩
          case round =>
            obtain ⟨j, hj, rfl, hBx, hall⟩ := hrel
            have HBX := Lib.hid hBx
            have HALL := Lib.hid hall
            have BX := Lib.hid (below_call HBc.out hBx)
            clear hBx hall
            by_cases hjl : j < (insN nd).length
            · obtain ⟨z, hz⟩ : ∃ z, (insN nd)[j]? = some z := ⟨_, List.getElem?_eq_getElem hjl⟩
              obtain ⟨gi, hat, hgi, hgl, hc⟩ := IA.out j z hz
              subst hat
              have hc2 := (HBX.out.cell (p := ⟨gi, _, none⟩) hgl).trans hc
              have jl0 : (0 : Int) ≤ (j : Int) := by omega
              have jl1 : (j : Int) < ((insN nd).length : Int) := by omega
              have HZ := Lib.hid hz
              have HJ := Lib.hid hjl
              clear hc hz hjl
              by_cases z0 : z < 0
              · have z0b : decide (z < 0) = true := by simpa using z0
                have GE := Lib.hid (HNOP.out 4 (nodeE_ins HOP.out (insOk_not HZ.out (Or.inl z0))) (by decide))
                clear z0
                go_wp2_with fail
                go_returns
                rw [GE.out]
                exact ⟨_, rfl, below_call HBW.out BX.out, fun _ => ⟨_, _, rfl⟩, fun h => absurd h (by decide)⟩
              have z0b : decide (z < 0) = false := by simpa using z0
              by_cases z1 : (k : Int) < z
              · have z1b : decide ((k : Int) < z) = true := by simpa using z1
                have GE := Lib.hid (HNOP.out 4 (nodeE_ins HOP.out (insOk_not HZ.out (Or.inr (by rw [HLL.out]; omega)))) (by decide))
                clear z0 z1
                go_wp2_with fail
                go_returns
                rw [GE.out]
                exact ⟨_, rfl, below_call HBW.out BX.out, fun _ => ⟨_, _, rfl⟩, fun h => absurd h (by decide)⟩
              have z1b : decide ((k : Int) < z) = false := by simpa using z1
              have HZK := Lib.hid (show 0 ≤ z ∧ z ≤ (k : Int) by omega)
              clear z0 z1
              go_wp2_with fail
              refine ⟨⟨j + 1, by have := HJ.out; omega, rfl, HBX.out, ?_⟩, by have := HJ.out; simp [intOf]; omega⟩
              intro i z' hi hz'
              by_cases e : i = j
              · subst e
                rw [HZ.out] at hz'
                obtain rfl := Option.some.inj hz'
                exact HZK.out
              · exact HALL.out i z' (by omega) hz'
            obtain rfl : j = (insN nd).length := by omega
            have HIN := Lib.hid (insOk_all (n := nd) (m := l.length) fun i z hz => by
              have := HALL.out i z (List.getElem?_eq_some_iff.1 hz).1 hz
              rw [HLL.out]; omega)
            have RN2 := Lib.hid (RN.out.over HBX.out)
            have tR := NL.read nd wr X 0 RN2.out.range
            have tL := NL.len nd
            have RID := Lib.hid (fun W => ridle nd HOP.out.1 HOP.out.2 W)
            have hXw : X < wr.heap.size := RN2.out.lt
            clear hjl HALL
            cases hid0 : idleN nd
            · rw [hid0] at RID
              have GE := Lib.hid (HNOP.out 4 (nodeE_idle HOP.out HIN.out hid0) (by decide))
              clear hid0
              go_wp2_with (go_at_call 32; (with_reducible refine (RID.out _).mono ?_); rintro e w5 ⟨rfl, hb5⟩; have HB5' := Lib.hid hb5; clear hb5)
              go_returns
              rw [GE.out]
              exact ⟨_, rfl, below_call (below_call HBW.out BX.out) HB5'.out, fun _ => ⟨_, _, rfl⟩, fun h => absurd h (by decide)⟩
            rw [hid0] at RID
            have HID := Lib.hid hid0
            clear hid0
            go_upto_region 18 with (go_at_call 32; (with_reducible refine (RID.out _).mono ?_); rintro e w5 ⟨rfl, hb5⟩; have HB5' := Lib.hid (below_call BX.out hb5); have RN3 := Lib.hid (RN2.out.over hb5); clear hb5)
            obtain ⟨⟨a0, a1⟩, ⟨d0, d1⟩⟩ := ins_bounds (m := l.length) (by rw [HLL.out]; omega) HOP.out.1 HOP.out.2 HIN.out HID.out
            obtain ⟨ia, hia⟩ : ∃ i : Nat, nd.a = (i : Int) := ⟨nd.a.toNat, by omega⟩
            obtain ⟨ib, hib⟩ : ∃ i : Nat, nd.b = (i : Int) := ⟨nd.b.toNat, by omega⟩
            obtain ⟨sa, hsa⟩ : ∃ s, l[ia]? = some s := ⟨_, List.getElem?_eq_getElem (by omega)⟩
            obtain ⟨sb, hsb⟩ : ∃ s, l[ib]? = some s := ⟨_, List.getElem?_eq_getElem (by omega)⟩
            have hga : sa.good = true := Sh.fit_good (HGD.out sa (List.mem_of_getElem? hsa))
            have hgb2 : sb.good = true := Sh.fit_good (HGD.out sb (List.mem_of_getElem? hsb))
            have ega : l.getD nd.a.toNat default = sa := by rw [hia]; simp [hsa]
            have egb : l.getD nd.b.toNat default = sb := by rw [hib]; simp [hsb]
            have ROU := Lib.hid (fun W => rout nd sa sb HOP.out.1 HOP.out.2 hga hgb2 W)
            have e1 : nd.cells[1]? = some (.int .i64 (ia : Int)) := by rw [← hia]; rfl
            have e2 : nd.cells[2]? = some (.int .i64 (ib : Int)) := by rw [← hib]; rfl
            have SA := Lib.hid (show ∀ W', Below w5.heap.size w5 W' → W'.cell? ⟨g, ia * 3, none⟩ = some (.int .i64 sa.x) ∧ W'.cell? ⟨g, ia * 3 + 1, none⟩ = some (.int .i64 sa.y) ∧ W'.cell? ⟨g, ia * 3 + 2, none⟩ = some (.int .i64 sa.z) from fun W' hb => by
              obtain ⟨g', off, hgg, hgl, s0, s1, s2⟩ := (HSH.out.later (below_call HB5'.out hb)) ia sa hsa
              injection hgg with hgg
              injection hgg with e1 e2 e3
              subst e1 e2
              rw [Nat.zero_add] at s0 s1 s2
              exact ⟨s0, s1, s2⟩)
            have SB := Lib.hid (show ∀ W', Below w5.heap.size w5 W' → W'.cell? ⟨g, ib * 3, none⟩ = some (.int .i64 sb.x) ∧ W'.cell? ⟨g, ib * 3 + 1, none⟩ = some (.int .i64 sb.y) ∧ W'.cell? ⟨g, ib * 3 + 2, none⟩ = some (.int .i64 sb.z) from fun W' hb => by
              obtain ⟨g', off, hgg, hgl, s0, s1, s2⟩ := (HSH.out.later (below_call HB5'.out hb)) ib sb hsb
              injection hgg with hgg
              injection hgg with e1 e2 e3
              subst e1 e2
              rw [Nat.zero_add] at s0 s1 s2
              exact ⟨s0, s1, s2⟩)
            have HGA := Lib.hid hga
            have EGA := Lib.hid ega
            have EGB := Lib.hid egb
            have HIA := Lib.hid hia
            have HSA := Lib.hid hsa
            have ia0 : (0 : Int) ≤ (ia : Int) := by omega
            have ia1 : (ia : Int) < (l.length : Int) := by omega
            have ib0 : (0 : Int) ≤ (ib : Int) := by omega
            have ib1 : (ib : Int) < (l.length : Int) := by omega
            have hgw : g < w5.heap.size := Nat.lt_of_lt_of_le hglt HB5'.out.size
            have hX5 : X < w5.heap.size := RN3.out.lt
            obtain ⟨OE, hOE⟩ : ∃ o, o = outN nd sa sb := ⟨_, rfl⟩
            unfold RoPost at ROU
            rw [← hOE] at ROU
            have HOE := Lib.hid hOE
            clear a0 a1 d0 d1 hia hib hsa hsb hga hgb2 ega egb hOE tR cn0
            go_cut [11, 12] (fun s11 s12 wx => ∃ (Y : Nat) (x y z : Int), s11 = .pointer (some ⟨Y, 0, none⟩) ∧ s12 = .int .i64 OE.1 ∧ w5.heap.size ≤ Y ∧ RowAt wx Y [.int .i64 x, .int .i64 y, .int .i64 z] ∧ Below w5.heap.size w5 wx ∧ (OE.1 = 0 → OE.2 = ⟨x, y, z⟩))
            case first =>
              have PS := Lib.hid (show ∀ W', Below w5.heap.size w5 W' → (fun w' => (loadCellsFrom ⟨X, 0, none⟩ 0 Z #[]).run Try.prog w' = .ok nd.cells.toArray w' ∧ w'.cell? ⟨X, 1, none⟩ = some (.int .i64 (ia : Int)) ∧ w'.cell? ⟨X, 2, none⟩ = some (.int .i64 (ib : Int)) ∧ w'.cell? ⟨g, ia * 3, none⟩ = some (.int .i64 sa.x) ∧ w'.cell? ⟨g, ia * 3 + 1, none⟩ = some (.int .i64 sa.y) ∧ w'.cell? ⟨g, ia * 3 + 2, none⟩ = some (.int .i64 sa.z) ∧ w'.cell? ⟨g, ib * 3, none⟩ = some (.int .i64 sb.x) ∧ w'.cell? ⟨g, ib * 3 + 1, none⟩ = some (.int .i64 sb.y) ∧ w'.cell? ⟨g, ib * 3 + 2, none⟩ = some (.int .i64 sb.z) ∧ Below w5.heap.size w5 w') W' from fun W' hb => ⟨NL.read nd W' X 0 (RN3.out.over hb).range, (RN3.out.over hb).cell 1 _ e1, (RN3.out.over hb).cell 2 _ e2, (SA.out W' hb).1, (SA.out W' hb).2.1, (SA.out W' hb).2.2, (SB.out W' hb).1, (SB.out W' hb).2.1, (SB.out W' hb).2.2, hb⟩)
              clear SA SB
              go_region_held3 (fun w' => (loadCellsFrom ⟨X, 0, none⟩ 0 Z #[]).run Try.prog w' = .ok nd.cells.toArray w' ∧ w'.cell? ⟨X, 1, none⟩ = some (.int .i64 (ia : Int)) ∧ w'.cell? ⟨X, 2, none⟩ = some (.int .i64 (ib : Int)) ∧ w'.cell? ⟨g, ia * 3, none⟩ = some (.int .i64 sa.x) ∧ w'.cell? ⟨g, ia * 3 + 1, none⟩ = some (.int .i64 sa.y) ∧ w'.cell? ⟨g, ia * 3 + 2, none⟩ = some (.int .i64 sa.z) ∧ w'.cell? ⟨g, ib * 3, none⟩ = some (.int .i64 sb.x) ∧ w'.cell? ⟨g, ib * 3 + 1, none⟩ = some (.int .i64 sb.y) ∧ w'.cell? ⟨g, ib * 3 + 2, none⟩ = some (.int .i64 sb.z) ∧ Below w5.heap.size w5 w')
                (first | (with_reducible assumption) | (refine PS.out _ ?_; first | (with_reducible exact Below.refl _ _) | (with_reducible exact (Below.refl _ _).drew) | (with_reducible exact Below.alloc (Below.refl _ _) (Nat.le_refl _) _) | (with_reducible exact (Below.alloc (Below.refl _ _) (Nat.le_refl _) _).drew) | (with_reducible exact hB2) | (with_reducible exact hB2.drew) | (with_reducible exact Below.alloc hB2 hB2.size _) | (with_reducible exact (Below.alloc hB2 hB2.size _).drew) | (with_reducible exact hBs)))
                (first | (go_at_call 33; (with_reducible refine (ROU.out _).mono ?_); rintro e w6 ⟨ox, oy, oz, rfl, hb2, hoz⟩; (first | (have hB2 := below_call (Below.refl w5.heap.size w5) hb2) | (have hB2 := below_call (Below.refl w5.heap.size w5).drew hb2) | (have hB2 := below_call (Below.alloc (Below.refl w5.heap.size w5) (Nat.le_refl _) (.cells #[.int .i64 0, .int .i64 0, .int .i64 0] 22)) hb2; have RZ := (RowAt.new w5 [.int .i64 0, .int .i64 0, .int .i64 0] 22).over hb2; have z0 := RZ.cell 0 _ rfl; have z1 := RZ.cell 1 _ rfl; have z2 := RZ.cell 2 _ rfl; have y0 := RZ.fr 0; have y1 := RZ.fr 1; have y2 := RZ.fr 2; have yl := RZ.lt; have RZ2 := Lib.hid RZ; clear RZ) | (have hB2 := below_call (Below.alloc (Below.refl w5.heap.size w5) (Nat.le_refl _) (.cells #[.int .i64 0, .int .i64 0, .int .i64 0] 22)).drew hb2; have RZ := (RowAt.new w5 [.int .i64 0, .int .i64 0, .int .i64 0] 22).drew.over hb2; have z0 := RZ.cell 0 _ rfl; have z1 := RZ.cell 1 _ rfl; have z2 := RZ.cell 2 _ rfl; have y0 := RZ.fr 0; have y1 := RZ.fr 1; have y2 := RZ.fr 2; have yl := RZ.lt; have RZ2 := Lib.hid RZ; clear RZ)); have hBs := Below.setCell (Below.setCell (Below.setCell hB2 (show w5.heap.size ≤ (⟨w5.heap.size, 0, none⟩ : Addr).block from Nat.le_refl _) (.int .i64 ox)) (show w5.heap.size ≤ (⟨w5.heap.size, 1, none⟩ : Addr).block from Nat.le_refl _) (.int .i64 oy)) (show w5.heap.size ≤ (⟨w5.heap.size, 2, none⟩ : Addr).block from Nat.le_refl _) (.int .i64 oz)))
              · go_wp2_with fail
                go_meet
                exact ⟨_, _, _, _, rfl, rfl, hB2.size, RowAt.new w6 [.int .i64 ox, .int .i64 oy, .int .i64 oz] 22, Below.alloc hB2 hB2.size _, hoz⟩
              · go_wp2_with fail
                go_meet
                exact ⟨_, _, _, _, rfl, rfl, Nat.le_refl _, ((RZ2.out.set (l' := [.int .i64 ox, .int .i64 0, .int .i64 0]) 0 _ (by show 0 < 3; omega) rfl).set (l' := [.int .i64 ox, .int .i64 oy, .int .i64 0]) 1 _ (by show 1 < 3; omega) rfl).set (l' := [.int .i64 ox, .int .i64 oy, .int .i64 oz]) 2 _ (by show 2 < 3; omega) rfl, hBs, hoz⟩
            case rest =>
              obtain ⟨Y, ox, oy, oz, h11, h12, hY, hys, hbo, hoz⟩ := hcut
              subst h11
              subst h12
              obtain ⟨oe, os⟩ := OE
              dsimp only at hoz ⊢
              have NM := nodeE_main (C := C.map CnQ.cn) HOP.out HIN.out HID.out EGA.out EGB.out HOE.out
              obtain ⟨W7, hW7⟩ : ∃ W : World, W = wc := ⟨_, rfl⟩
              rw [← hW7] at hys hbo ⊢
              clear hW7
              have HB7 := Lib.hid (below_call HB5'.out hbo)
              have RY := Lib.hid hys
              have RN7 := Lib.hid (RN3.out.over hbo)
              have RG7 := Lib.hid (RBr.out.over HB7.out)
              have SA7 := Lib.hid (fun (W' : World) (hb : Below W7.heap.size W7 W') => SA.out W' (below_call hbo hb))
              have hX7 : X < W7.heap.size := RN7.out.lt
              have hg7 : g < W7.heap.size := Nat.lt_of_lt_of_le hgw hbo.size
              have hY7 : Y < W7.heap.size := hys.lt
              clear hys hbo hY SA SB
              by_cases hoe : oe ≠ 0
              · have ob0 : (oe == 0) = false := by simpa using hoe
                have ob1 : (oe != 0) = true := by simpa using hoe
                have GE := Lib.hid (HNOP.out oe (by rw [NM, if_pos hoe]) hoe)
                have HO0 := Lib.hid hoe
                clear NM hoz hoe
                go_wp2_with fail
                go_returns
                rw [GE.out]
                exact ⟨_, rfl, below_call HBW.out HB7.out, fun _ => ⟨_, _, rfl⟩, fun h => absurd h HO0.out⟩
              have hoe0 : oe = 0 := Decidable.of_not_not hoe
              subst hoe0
              obtain rfl := hoz rfl
              rw [if_neg (by simp)] at NM
              have OF := out_facts (n := nd) (a := sa) (b := sb) HOP.out.1 HOP.out.2 HID.out (by rw [← HOE.out])
              rw [← HOE.out] at OF
              have HOF := Lib.hid OF
              have FIT := Lib.hid (fun W => rfits_sh ⟨ox, oy, oz⟩ W)
              dsimp only at FIT
              have y0 := RY.out.cell 0 _ rfl
              have y1 := RY.out.cell 1 _ rfl
              have y2 := RY.out.cell 2 _ rfl
              clear hoz hoe OF
              obtain ⟨fe, hfe⟩ : ∃ f, f = Sh.fit ⟨ox, oy, oz⟩ := ⟨_, rfl⟩
              rw [← hfe] at NM FIT
              have HFE := Lib.hid hfe
              clear hfe
              by_cases hf : fe ≠ 0
              · have ob0 : (fe == 0) = false := by simpa using hf
                have ob1 : (fe != 0) = true := by simpa using hf
                have GE := Lib.hid (HNOP.out fe (by rw [NM, if_pos hf]) hf)
                have HO0 := Lib.hid hf
                clear NM hf
                go_wp2_with (go_at_call 31; (with_reducible refine (FIT.out _).mono ?_); rintro e w8 ⟨rfl, hb8⟩; have HB8 := Lib.hid (below_call HB7.out hb8); clear hb8)
                go_returns
                rw [GE.out]
                exact ⟨_, rfl, below_call HBW.out HB8.out, fun _ => ⟨_, _, rfl⟩, fun h => absurd h HO0.out⟩
              have hf0 : fe = 0 := Decidable.of_not_not hf
              subst hf0
              rw [if_neg (by simp)] at NM
              have hsg : Sh.good ⟨ox, oy, oz⟩ = true := Sh.fit_good HFE.out.symm
              have HSG := Lib.hid hsg
              clear hf hsg
              obtain ⟨B, hBd⟩ : ∃ b, b = decide (nd.op = 4 ∧ 4096 < sa.size) := ⟨_, rfl⟩
              have HBD := Lib.hid hBd
              have HNM := Lib.hid NM
              clear NM hBd
              go_upto_region 21 with (go_at_call 31; (with_reducible refine (FIT.out _).mono ?_); rintro e w8 ⟨rfl, hb8⟩; have HB8 := Lib.hid (below_call HB7.out hb8); have RN8 := Lib.hid (RN7.out.over hb8); have RG8 := Lib.hid (RG7.out.over hb8); have RY8 := Lib.hid (RY.out.over hb8); have SA8 := Lib.hid (fun (W' : World) (hb : Below w8.heap.size w8 W') => SA7.out W' (below_call hb8 hb)); clear hb8)
              have hX8 : X < w8.heap.size := RN8.out.lt
              have hg8 : g < w8.heap.size := Nat.lt_of_lt_of_le hglt HB8.out.size
              clear y0 y1 y2 hX7 hg7 hY7 RN7 RG7 RY SA7
              go_cut [109] (fun s109 wx => s109 = .bool B ∧ Below w8.heap.size w8 wx)
              case first =>
                have x0 := RN8.out.cell 0 _ rfl
                have x1 := RN8.out.cell 1 _ e1
                obtain ⟨s0, s1, s2⟩ := SA8.out w8 (Below.refl _ _)
                have RSZ := Lib.hid (fun W => (show Calls Try.prog 34 #[.agg #[.int .i64 sa.x, .int .i64 sa.y, .int .i64 sa.z]] W fun e w' => e = .returned (.int .i64 sa.size) ∧ Below W.heap.size W w' from by have h := rsize_sh sa W; rw [size_good HGA.out] at h; exact h))
                by_cases o4 : nd.op = 4
                · have o4b : (nd.op == 4) = true := by simpa using o4
                  have hbb : B = decide (4096 < sa.size) := by rw [HBD.out]; simp [o4]
                  have HBB := Lib.hid hbb
                  clear o4 hbb
                  go_wp2_with (go_at_call 34; (with_reducible refine (RSZ.out _).mono ?_); rintro e w9 ⟨rfl, hb9⟩; have HB9 := Lib.hid hb9; clear hb9)
                  go_meet
                  exact ⟨by rw [HBB.out], HB9.out⟩
                · have o4b : (nd.op == 4) = false := by simpa using o4
                  have hbb : B = false := by rw [HBD.out]; simp [o4]
                  have HBB := Lib.hid hbb
                  clear o4 hbb
                  go_wp2_with fail
                  go_meet
                  exact ⟨by rw [HBB.out], Below.refl _ _⟩
              case rest =>
                obtain ⟨h109, hbo9⟩ := hcut
                subst h109
                obtain ⟨W9, hW9⟩ : ∃ W : World, W = wc := ⟨_, rfl⟩
                rw [← hW9] at hbo9 ⊢
                clear hW9
                have HB9 := Lib.hid (below_call HB8.out hbo9)
                have RN9 := Lib.hid (RN8.out.over hbo9)
                have RG9 := Lib.hid (RG8.out.over hbo9)
                have RY9 := Lib.hid (RY8.out.over hbo9)
                have SA9 := Lib.hid (fun (W' : World) (hb : Below W9.heap.size W9 W') => SA8.out W' (below_call hbo9 hb))
                have hX9 : X < W9.heap.size := RN9.out.lt
                have hg9 : g < W9.heap.size := Nat.lt_of_lt_of_le hglt HB9.out.size
                have hY9 : Y < W9.heap.size := RY9.out.lt
                have hw9 : w.heap.size < W9.heap.size := RG9.out.lt
                clear hbo9 hX8 hg8 RN8 RG8 RY8 SA8 hXw hgw hX5 hXl hgc
                cases B
                case true =>
                  have hcc : nd.op = 4 ∧ 4096 < sa.size := of_decide_eq_true HBD.out.symm
                  have GE := Lib.hid (HNOP.out 12 (by rw [HNM.out, if_pos hcc]) (by decide))
                  clear hcc
                  go_wp2_with fail
                  go_returns
                  rw [GE.out]
                  exact ⟨_, rfl, below_call HBW.out HB9.out, fun _ => ⟨_, _, rfl⟩, fun h => absurd h (by decide)⟩
                have hcc : ¬ (nd.op = 4 ∧ 4096 < sa.size) := of_decide_eq_false HBD.out.symm
                have NM := HNM.out
                rw [if_neg hcc] at NM
                clear hcc
                have RWT := Lib.hid (fun (W' : World) (hb : Below W9.heap.size W9 W') => rweights ⟨gx, gy, gz, ca, cc, C, some ⟨nb, noff, none⟩, nc, ns, go⟩ nd sa ⟨ox, oy, oz⟩ HOP.out.1 HOP.out.2 W' (HC.out.later (below_call (below_call HBW.out HB9.out) hb)) HGA.out HSG.out HOF.out.1 HOF.out.2.1 HOF.out.2.2)
                unfold GrQ.val at RWT
                dsimp only at RWT
                obtain ⟨we, hwe⟩ : ∃ x, x = weightsE (C.map CnQ.cn) nd sa ⟨ox, oy, oz⟩ := ⟨_, rfl⟩
                rw [← hwe] at RWT NM
                have HWE := Lib.hid hwe
                have HNM2 := Lib.hid NM
                clear NM hwe
                go_upto_region 24 with fail
                go_cut [12] (fun s12 wx => s12 = .int .i64 we ∧ Below W9.heap.size W9 wx)
                case first =>
                  have PS := Lib.hid (show ∀ W', Below W9.heap.size W9 W' → (fun w' => w'.cell? ⟨w.heap.size, 0, none⟩ = some (.int .i64 gx) ∧ w'.cell? ⟨w.heap.size, 1, none⟩ = some (.int .i64 gy) ∧ w'.cell? ⟨w.heap.size, 2, none⟩ = some (.int .i64 gz) ∧ w'.cell? ⟨w.heap.size, 3, none⟩ = some (.slice ca C.length cc) ∧ w'.cell? ⟨w.heap.size, 4, none⟩ = some (.slice (some ⟨nb, noff, none⟩) ns.length nc) ∧ w'.cell? ⟨w.heap.size, 5, none⟩ = some (.int .i64 go) ∧ (loadCellsFrom ⟨X, 0, none⟩ 0 Z #[]).run Try.prog w' = .ok nd.cells.toArray w' ∧ w'.cell? ⟨X, 1, none⟩ = some (.int .i64 (ia : Int)) ∧ w'.cell? ⟨g, ia * 3, none⟩ = some (.int .i64 sa.x) ∧ w'.cell? ⟨g, ia * 3 + 1, none⟩ = some (.int .i64 sa.y) ∧ w'.cell? ⟨g, ia * 3 + 2, none⟩ = some (.int .i64 sa.z) ∧ w'.cell? ⟨Y, 0, none⟩ = some (.int .i64 ox) ∧ w'.cell? ⟨Y, 1, none⟩ = some (.int .i64 oy) ∧ w'.cell? ⟨Y, 2, none⟩ = some (.int .i64 oz) ∧ Below W9.heap.size W9 w') W' from fun W' hb => ⟨(RG9.out.over hb).cell 0 _ rfl, (RG9.out.over hb).cell 1 _ rfl, (RG9.out.over hb).cell 2 _ rfl, (RG9.out.over hb).cell 3 _ rfl, (RG9.out.over hb).cell 4 _ rfl, (RG9.out.over hb).cell 5 _ rfl, NL.read nd W' X 0 (RN9.out.over hb).range, (RN9.out.over hb).cell 1 _ e1, (SA9.out W' hb).1, (SA9.out W' hb).2.1, (SA9.out W' hb).2.2, (RY9.out.over hb).cell 0 _ rfl, (RY9.out.over hb).cell 1 _ rfl, (RY9.out.over hb).cell 2 _ rfl, hb⟩)
                  go_region_held3 (fun w' => w'.cell? ⟨w.heap.size, 0, none⟩ = some (.int .i64 gx) ∧ w'.cell? ⟨w.heap.size, 1, none⟩ = some (.int .i64 gy) ∧ w'.cell? ⟨w.heap.size, 2, none⟩ = some (.int .i64 gz) ∧ w'.cell? ⟨w.heap.size, 3, none⟩ = some (.slice ca C.length cc) ∧ w'.cell? ⟨w.heap.size, 4, none⟩ = some (.slice (some ⟨nb, noff, none⟩) ns.length nc) ∧ w'.cell? ⟨w.heap.size, 5, none⟩ = some (.int .i64 go) ∧ (loadCellsFrom ⟨X, 0, none⟩ 0 Z #[]).run Try.prog w' = .ok nd.cells.toArray w' ∧ w'.cell? ⟨X, 1, none⟩ = some (.int .i64 (ia : Int)) ∧ w'.cell? ⟨g, ia * 3, none⟩ = some (.int .i64 sa.x) ∧ w'.cell? ⟨g, ia * 3 + 1, none⟩ = some (.int .i64 sa.y) ∧ w'.cell? ⟨g, ia * 3 + 2, none⟩ = some (.int .i64 sa.z) ∧ w'.cell? ⟨Y, 0, none⟩ = some (.int .i64 ox) ∧ w'.cell? ⟨Y, 1, none⟩ = some (.int .i64 oy) ∧ w'.cell? ⟨Y, 2, none⟩ = some (.int .i64 oz) ∧ Below W9.heap.size W9 w')
                    (first | (with_reducible assumption) | (refine PS.out _ ?_; first | (with_reducible exact Below.refl _ _) | (with_reducible exact (Below.refl _ _).drew) | (with_reducible exact hB2) | (with_reducible exact hB2.drew)))
                    (first | (go_at_call 35; (first | (with_reducible refine (RWT.out _ (Below.refl _ _)).mono ?_) | (with_reducible refine (RWT.out _ (Below.refl _ _).drew).mono ?_)); rintro e w6 ⟨rfl, hb2⟩; (first | (have hB2 := below_call (Below.refl W9.heap.size W9) hb2) | (have hB2 := below_call (Below.refl W9.heap.size W9).drew hb2))))
                  all_goals (go_wp2_with fail; go_meet; exact ⟨rfl, hB2⟩)
                case rest =>
                  obtain ⟨h12, hbo10⟩ := hcut
                  subst h12
                  obtain ⟨W10, hW10⟩ : ∃ W : World, W = wc := ⟨_, rfl⟩
                  rw [← hW10] at hbo10 ⊢
                  clear hW10
                  have HB10 := Lib.hid (below_call HB9.out hbo10)
                  have hB9x := HB9.out.size
                  by_cases hw0 : we ≠ 0
                  · have ob0 : (we == 0) = false := by simpa using hw0
                    have ob1 : (we != 0) = true := by simpa using hw0
                    have GE := Lib.hid (HNOP.out we (by rw [HNM2.out, if_pos hw0]) hw0)
                    have HO0 := Lib.hid hw0
                    clear hw0
                    go_wp2_with fail
                    go_returns
                    rw [GE.out]
                    exact ⟨_, rfl, below_call HBW.out HB10.out, fun _ => ⟨_, _, rfl⟩, fun h => absurd h HO0.out⟩
                  have hw00 : we = 0 := Decidable.of_not_not hw0
                  subst hw00
                  have NM := HNM2.out
                  rw [if_neg (by simp)] at NM
                  have RNU := Lib.hid (fun (W' : World) (hb : Below W10.heap.size W10 W') => rnumbers ⟨gx, gy, gz, ca, cc, C, some ⟨nb, noff, none⟩, nc, ns, go⟩ nd sa ⟨ox, oy, oz⟩ HOP.out.1 HOP.out.2 W' (HC.out.later (below_call (below_call HBW.out HB10.out) hb)) HWE.out.symm)
                  unfold GrQ.val at RNU
                  dsimp only at RNU
                  obtain ⟨nu, hnu⟩ : ∃ x, x = numbersB (C.map CnQ.cn) nd := ⟨_, rfl⟩
                  rw [← hnu] at RNU NM
                  have RG10 := Lib.hid (RG9.out.over hbo10)
                  have RN10 := Lib.hid (RN9.out.over hbo10)
                  have RY10 := Lib.hid (RY9.out.over hbo10)
                  have tR := NL.read nd W10 X 0 RN10.out.range
                  have g0 := RG10.out.cell 0 _ rfl
                  have g1 := RG10.out.cell 1 _ rfl
                  have g2 := RG10.out.cell 2 _ rfl
                  have g3 := RG10.out.cell 3 _ rfl
                  have g4 := RG10.out.cell 4 _ rfl
                  have g5 := RG10.out.cell 5 _ rfl
                  have hX10 : X < W10.heap.size := RN10.out.lt
                  have hw10 : w.heap.size < W10.heap.size := RG10.out.lt
                  have HNM3 := Lib.hid NM
                  clear NM hw0 hnu hbo10 hX9 hg9 hY9 hw9
                  cases nu
                  · have GE := Lib.hid (HNOP.out 11 (by rw [HNM3.out, if_pos rfl]) (by decide))
                    go_wp2_with (go_at_call 36; (with_reducible refine (RNU.out _ (Below.refl _ _)).mono ?_); rintro e w11 ⟨rfl, hb11⟩; have HB11 := Lib.hid (below_call HB10.out hb11); clear hb11)
                    go_returns
                    rw [GE.out]
                    exact ⟨_, rfl, below_call HBW.out HB11.out, fun _ => ⟨_, _, rfl⟩, fun h => absurd h (by decide)⟩
                  · go_upto_region 29 with (go_at_call 36; (with_reducible refine (RNU.out _ (Below.refl _ _)).mono ?_); rintro e w11 ⟨rfl, hb11⟩; have HB11 := Lib.hid (below_call HB10.out hb11); have RY11 := Lib.hid (RY10.out.over hb11); clear hb11)
                    have hne : nodeE (C.map CnQ.cn) nd l = (0, ⟨ox, oy, oz⟩) := by rw [HNM3.out, if_neg (by simp)]
                    have HNE := Lib.hid hne
                    have y0 := RY11.out.cell 0 _ rfl
                    have y1 := RY11.out.cell 1 _ rfl
                    have y2 := RY11.out.cell 2 _ rfl
                    have yl := RY11.out.lt
                    have E1 := Lib.hid (show l.length + 1 ≤ maxLen by unfold maxLen; omega)
                    have E2 := Lib.hid (show (l.length + 1) * 24 ≤ 140737488355328 by omega)
                    have gw : w.heap.size + 1 ≤ w11.heap.size := by have := HB11.out.size; omega
                    have HGW := Lib.hid (show w.heap.size + 1 ≤ _ from blt2)
                    clear hne tR g0 g1 g2 g3 g4 g5 hX10 hw10 RNU RN10 RG10 RY10 kl0 kl1 ia0 ia1 ib0 ib1
                    go_wp2_with (first
                      | (at_builtin; refine wpList_append_own _ rfl (.tmp 133) (.tmp 135) 32 rfl (w.heap.size + 1) 22 i0 (.agg #[.int .i64 0, .int .i64 0, .int .i64 0]) 3 24 Try.underlying32 hi hz0 hz1 hz2 rfl (by decide) _ l.length (sh3 l) rfl (own_laterS (own_laterS OWN.out HB11.out) (Below.alloc (Below.refl _ _) (Nat.le_refl _) _)) ⟨_, 0, none⟩ 1 1 [.int .i64 ox, .int .i64 oy, .int .i64 oz] rfl rfl (news3 _ _ ox oy oz _ rfl) (one3 ox oy oz) E1.out E2.out (by simp; omega) ?_; intro v' w12 hown6 hg6 hn6))
                    have BX := below_call HB11.out (Below.alloc (Below.refl _ _) (Nat.le_refl _) (.cells #[.int .i64 ox, .int .i64 oy, .int .i64 oz] 22))
                    refine ⟨⟨k + 1, l ++ [⟨ox, oy, oz⟩], by have := HK.out; omega, rfl, ?_, ?_, by rw [List.length_append]; have := HLL.out; simp; omega, ?_, ?_⟩, by have := HK.out; simp [intOf]; omega⟩
                    · rw [List.length_append, sh3_app]; exact hown6
                    · exact (HB.out.trans (BX.mono blt2)).grown hg6 (by have := BX.size; omega) (fun x hx => by obtain rfl := Option.some.inj hx; exact hgb)
                    · intro s hs
                      rcases List.mem_append.1 hs with h | h
                      · exact HGD.out s h
                      · obtain rfl := List.mem_singleton.1 h; exact HFE.out.symm
                    · rw [← HSP.out, drop_at HND.out, shapesE, if_neg (by rw [HNE.out]; simp), HNE.out]
      · obtain rfl : k = ns.length := by omega
        have hs : shapesE (C.map CnQ.cn) ns [⟨gx, gy, gz⟩] = (0, l) := by
          rw [← HSP.out, List.drop_length]; rfl
        have HS0 := Lib.hid hs
        have b3 := RBr.out.cell 5 _ rfl
        clear hs hkl
        by_cases h0 : go < 0
        · have h0b : decide (go < 0) = true := by simpa using h0
          have GE : E = (4, []) := HE.out.trans (graph_no (g := ⟨⟨gx, gy, gz⟩, C.map CnQ.cn, ns, go⟩) HFI.out HS0.out (Or.inl h0))
          have HGE := Lib.hid GE
          clear GE h0
          go_wp2_with fail
          go_returns
          rw [HGE.out]
          exact ⟨_, rfl, HBW.out, fun _ => ⟨_, _, rfl⟩, fun h => absurd h (by decide)⟩
        have h0b : decide (go < 0) = false := by simpa using h0
        by_cases h1 : (ns.length : Int) < go
        · have h1b : decide ((ns.length : Int) < go) = true := by simpa using h1
          have GE : E = (4, []) := HE.out.trans (graph_no (g := ⟨⟨gx, gy, gz⟩, C.map CnQ.cn, ns, go⟩) HFI.out HS0.out (Or.inr (by rw [HLL.out]; show ((ns.length + 1 : Nat) : Int) ≤ go; omega)))
          have HGE := Lib.hid GE
          clear GE h0 h1
          go_wp2_with fail
          go_returns
          rw [HGE.out]
          exact ⟨_, rfl, HBW.out, fun _ => ⟨_, _, rfl⟩, fun h => absurd h (by decide)⟩
        have h1b : decide ((ns.length : Int) < go) = false := by simpa using h1
        have GE : E = (0, l) := HE.out.trans (graph_yes (g := ⟨⟨gx, gy, gz⟩, C.map CnQ.cn, ns, go⟩) HFI.out HS0.out (by rw [HLL.out]; show ¬ (go < 0 ∨ ((ns.length + 1 : Nat) : Int) ≤ go); omega))
        have HGE := Lib.hid GE
        clear GE h0 h1
        go_wp2_with fail
        go_returns
        rw [HGE.out]
        exact ⟨_, rfl, HBW.out, fun h => absurd rfl h, fun _ => own_base OWN.out (Nat.le_succ _)⟩
end Go.Proofs.Ytdbfakllcaojcaa
