/- InferGood, by the contracts of Few and Shapes. -/
import Derived.Test.YtekdcfepfieleaaShp
import Derived.Test.YtekdcfepfieleaaGrL
namespace Go.Proofs.Ytekdcfepfieleaa
open Go Go.RowKit
set_option linter.unusedVariables false

/-- W holds what w' holds from block B on -/
def Kp (B : Nat) (w' W : World) : Prop := w'.heap.size ≤ W.heap.size ∧ ∀ k, B ≤ k → k < w'.heap.size → W.heap[k]? = w'.heap[k]?
theorem Kp.refl (B : Nat) (w : World) : Kp B w w := ⟨Nat.le_refl _, fun _ _ _ => rfl⟩
theorem Kp.set {B : Nat} {w' W : World} (h : Kp B w' W) (b j : Nat) (v : Value) (hb : b < B) : Kp B w' (W.setCell ⟨b, j, none⟩ v) :=
  ⟨by simpa using h.1, fun k hk hl => (RowKit.Below.heap_setCell _ _ _ _ (by intro e; simp at e; omega)).trans (h.2 k hk hl)⟩
/-- W holds what w' holds from block B on, but for block g -/
def KpX (B g : Nat) (w' W : World) : Prop := w'.heap.size ≤ W.heap.size ∧ ∀ k, B ≤ k → k < w'.heap.size → k ≠ g → W.heap[k]? = w'.heap[k]?
theorem Kp.but {B : Nat} {w' W : World} (h : Kp B w' W) (g : Nat) : KpX B g w' W := ⟨h.1, fun k a b _ => h.2 k a b⟩
/-- what Few tells: a network of its own, of few nodes -/
def FwPost (w : World) (e : Ending) (w' : World) : Prop :=
  ∃ g : GrQ, e = .returned g.val ∧ Below w.heap.size w w' ∧ (∀ W, Kp w.heap.size w' W → CnsIn W g.ca g.C g.cc ∧ NdsIn W g.na g.ns g.nc) ∧ g.ns.length ≤ 12 ∧
    (0 < g.ns.length → ∃ nb, g.na = some ⟨nb, 0, none⟩ ∧ w.heap.size ≤ nb ∧ (∀ j, w'.frozen? ⟨nb, j, none⟩ = false) ∧ ∀ W, KpX w.heap.size nb w' W → CnsIn W g.ca g.C g.cc)
def FwC : Prop := ∀ (g : GrQ) (w : World), g.ok w → Calls Try.prog 5 #[g.val] w (FwPost w)
def ShC : Prop := ∀ (g : GrQ) (w : World), CnsIn w g.ca g.C g.cc → NdsIn w g.na g.ns g.nc → g.ns.length ≤ 1000 → Calls Try.prog 6 #[g.val] w (ShPost g w)
theorem rgood_sh (s : Sh) (h : s.good = true) (w : World) : Calls Try.prog 8 #[.agg #[.int .i64 s.x, .int .i64 s.y, .int .i64 s.z]] w fun e w' => e = .returned (.bool true) ∧ Below w.heap.size w w' := by
  refine (ref_good s.x s.y s.z w).mono ?_
  rintro e w' ⟨rfl, hw⟩
  refine ⟨?_, by subst hw; go_grown⟩
  have : goodB s.x s.y s.z = true := h
  rw [this]
set_option maxRecDepth 100000 in
set_option maxHeartbeats 4000000 in
theorem walk_good (FW : FwC) (SH : ShC) (w : World) (g : GrQ) (hg : g.ok w) :
    Calls Try.prog 3 #[g.val] w fun e w' => e = .returned (.bool true) ∧ Below w.heap.size w w' := by
  obtain ⟨gx, gy, gz, ca, cc, C, na, nc, ns, go⟩ := g
  have FX := Lib.hid (fun W (hW : Below w.heap.size w W) => FW ⟨gx, gy, gz, ca, cc, C, na, nc, ns, go⟩ W ⟨hg.1, hg.2.1.later hW, FlatIn.later hg.2.2.1 hW, hg.2.2.2⟩)
  have SX := Lib.hid SH
  have LV := Lib.hid (fun W => lives24 W)
  clear FW SH hg
  unfold GrQ.val at FX ⊢
  dsimp only at FX ⊢
  go_enter Try.func3, Try.ntmps3
  have RB := Lib.hid (RowAt.new w [.int .i64 gx, .int .i64 gy, .int .i64 gz, .slice ca C.length cc, .slice na ns.length nc, .int .i64 go] 26)
  have BB : Below w.heap.size w (w.alloc (.cells #[.int .i64 gx, .int .i64 gy, .int .i64 gz, .slice ca C.length cc, .slice na ns.length nc, .int .i64 go] 26)) := Below.alloc (Below.refl _ _) (Nat.le_refl _) _
  have FY := Lib.hid (FX.out _ BB)
  have BW := Lib.hid BB
  clear BB FX
  have hs0 : (w.alloc (.cells #[.int .i64 gx, .int .i64 gy, .int .i64 gz, .slice ca C.length cc, .slice na ns.length nc, .int .i64 go] 26)).heap.size = w.heap.size + 1 := by simp
  have HS0 := Lib.hid hs0
  clear hs0
  go_wp2_with (go_at_call 5; (with_reducible refine FY.out.mono ?_); rintro e w2 ⟨⟨hx, hy, hz, da, dc, D, ma, mc, ms, ho⟩, rfl, hb2, hk2, hn2, _⟩; have HB2 := Lib.hid hb2; have HK2 := Lib.hid hk2; have HN2 := Lib.hid hn2; have r2 := RB.out.over hb2; have R2 := Lib.hid r2; have b0 := r2.cell 0 _ rfl; have b1 := r2.cell 1 _ rfl; have b2 := r2.cell 2 _ rfl; have b3 := r2.cell 3 _ rfl; have b4 := r2.cell 4 _ rfl; have b5 := r2.cell 5 _ rfl; have p0 := r2.fr 0; have p1 := r2.fr 1; have p2 := r2.fr 2; have p3 := r2.fr 3; have p4 := r2.fr 4; have p5 := r2.fr 5; have blt := r2.lt; clear hb2 hk2 hn2 r2; unfold GrQ.val; dsimp only at *)
  have R3 := Lib.hid ((((((R2.out.set (l' := [.int .i64 hx, .int .i64 gy, .int .i64 gz, .slice ca C.length cc, .slice na ns.length nc, .int .i64 go]) 0 (.int .i64 hx) (by simp) rfl).set (l' := [.int .i64 hx, .int .i64 hy, .int .i64 gz, .slice ca C.length cc, .slice na ns.length nc, .int .i64 go]) 1 (.int .i64 hy) (by simp) rfl).set (l' := [.int .i64 hx, .int .i64 hy, .int .i64 hz, .slice ca C.length cc, .slice na ns.length nc, .int .i64 go]) 2 (.int .i64 hz) (by simp) rfl).set (l' := [.int .i64 hx, .int .i64 hy, .int .i64 hz, .slice da D.length dc, .slice na ns.length nc, .int .i64 go]) 3 (.slice da D.length dc) (by simp) rfl).set (l' := [.int .i64 hx, .int .i64 hy, .int .i64 hz, .slice da D.length dc, .slice ma ms.length mc, .int .i64 go]) 4 (.slice ma ms.length mc) (by simp) rfl).set (l' := [.int .i64 hx, .int .i64 hy, .int .i64 hz, .slice da D.length dc, .slice ma ms.length mc, .int .i64 ho]) 5 (.int .i64 ho) (by simp) rfl)
  have K3 := ((((((Kp.refl (w.heap.size + 1) w2).set w.heap.size 0 (.int .i64 hx) (by omega)).set w.heap.size 1 (.int .i64 hy) (by omega)).set w.heap.size 2 (.int .i64 hz) (by omega)).set w.heap.size 3 (.slice da D.length dc) (by omega)).set w.heap.size 4 (.slice ma ms.length mc) (by omega)).set w.heap.size 5 (.int .i64 ho) (by omega)
  have CN3 := Lib.hid (HK2.out _ (by rw [HS0.out]; exact K3))
  have B3 := Lib.hid (Below.setCell (Below.setCell (Below.setCell (Below.setCell (Below.setCell (Below.setCell (below_call BW.out HB2.out) (show w.heap.size ≤ (⟨w.heap.size, 0, none⟩ : Addr).block from Nat.le_refl _) (.int .i64 hx)) (show w.heap.size ≤ (⟨w.heap.size, 1, none⟩ : Addr).block from Nat.le_refl _) (.int .i64 hy)) (show w.heap.size ≤ (⟨w.heap.size, 2, none⟩ : Addr).block from Nat.le_refl _) (.int .i64 hz)) (show w.heap.size ≤ (⟨w.heap.size, 3, none⟩ : Addr).block from Nat.le_refl _) (.slice da D.length dc)) (show w.heap.size ≤ (⟨w.heap.size, 4, none⟩ : Addr).block from Nat.le_refl _) (.slice ma ms.length mc)) (show w.heap.size ≤ (⟨w.heap.size, 5, none⟩ : Addr).block from Nat.le_refl _) (.int .i64 ho))
  clear K3 b0 b1 b2 b3 b4 b5 p0 p1 p2 p3 p4 p5 blt R2 HB2 HK2 RB FY BW
  generalize (((((w2.setCell ⟨w.heap.size, 0, none⟩ (.int .i64 hx)).setCell ⟨w.heap.size, 1, none⟩ (.int .i64 hy)).setCell ⟨w.heap.size, 2, none⟩ (.int .i64 hz)).setCell ⟨w.heap.size, 3, none⟩ (.slice da D.length dc)).setCell ⟨w.heap.size, 4, none⟩ (.slice ma ms.length mc)).setCell ⟨w.heap.size, 5, none⟩ (.int .i64 ho) = W3 at *
  have r3 := R3.out
  have b4 := r3.cell 4 _ rfl
  have blt := r3.lt
  have hm1 := HN2.out
  have SY := SX.out ⟨hx, hy, hz, da, dc, D, ma, mc, ms, ho⟩ W3 CN3.out.1 CN3.out.2 (by show ms.length ≤ 1000; omega)
  unfold ShPost at SY
  obtain ⟨E, hE⟩ : ∃ E, E = graphE (GrQ.gr ⟨hx, hy, hz, da, dc, D, ma, mc, ms, ho⟩) := ⟨_, rfl⟩
  rw [← hE] at SY
  obtain ⟨ec, el⟩ := E
  unfold GrQ.val at SY
  dsimp only at SY
  have SZ := Lib.hid SY
  have HE := Lib.hid hE
  clear SY hE SX r3
  refine SZ.out.mono ?_
  rintro e w4 ⟨v, rfl, hb4, hno, hyes⟩
  have b44 := (hb4.cell (p := ⟨w.heap.size, 4, none⟩) blt).trans b4
  have blt4 := Nat.lt_of_lt_of_le blt hb4.size
  have B4 := Lib.hid (below_call B3.out hb4)
  clear hb4 b4 blt
  by_cases h0 : ec = 0
  · have own := hyes h0
    obtain ⟨hgood, hlen0⟩ := graph_ok (g := GrQ.gr ⟨hx, hy, hz, da, dc, D, ma, mc, ms, ho⟩) (by rw [← HE.out]; exact h0)
    rw [← HE.out] at hgood hlen0
    have hlen : el.length = ms.length + 1 := hlen0
    clear hlen0
    obtain ⟨g, cap, hv, hg1, hg2, hsh⟩ := own_sh own (by omega)
    subst hv
    subst h0
    have GD := Lib.hid hgood
    have SHA := Lib.hid hsh
    have HLN := Lib.hid hlen
    have hel : el.length ≤ 13 := by omega
    clear own hgood hsh hlen hyes hno
    go_wp2_with fail
    go_loopw [5] (fun kk wr => ∃ k : Nat, k ≤ el.length ∧ kk = .int .i64 k ∧ Below w4.heap.size w4 wr) (fun kk _ => el.length - (intOf kk).toNat)
    case atStart => exact ⟨0, Nat.zero_le _, rfl, Below.refl _ _⟩
    case round =>
      obtain ⟨k, hk, rfl, hB⟩ := hrel
      have HB := Lib.hid hB
      have c4 := (hB.cell (p := ⟨w.heap.size, 4, none⟩) blt4).trans b44
      have blt5 := Nat.lt_of_lt_of_le blt4 hB.size
      clear hB
      by_cases hkl : k < el.length
      · obtain ⟨s, hs⟩ : ∃ s, el[k]? = some s := ⟨_, List.getElem?_eq_getElem hkl⟩
        obtain ⟨g', off, hgg, hgl, s0, s1, s2⟩ := SHA.out k s hs
        injection hgg with hgg
        injection hgg with hgg1 hgg2 hgg3
        subst hgg1 hgg2
        rw [Nat.zero_add] at s0 s1 s2
        have t0 := (HB.out.cell (p := ⟨g, _, none⟩) hgl).trans s0
        have t1 := (HB.out.cell (p := ⟨g, _, none⟩) hgl).trans s1
        have t2 := (HB.out.cell (p := ⟨g, _, none⟩) hgl).trans s2
        have RG := Lib.hid (fun W => rgood_sh s (GD.out s (List.mem_of_getElem? hs)) W)
        have HK := Lib.hid hkl
        have kl0 : (0 : Int) ≤ (k : Int) := by omega
        have kl1 : (k : Int) < (el.length : Int) := by omega
        clear s0 s1 s2 hs hgg3
        go_wp2_with (go_at_call 8; (with_reducible refine (RG.out _).mono ?_); rintro e w5 ⟨rfl, hb5⟩; have HB5 := Lib.hid hb5; clear hb5)
        refine ⟨⟨k + 1, by have := HK.out; omega, rfl, below_call HB.out HB5.out⟩, by have := HK.out; simp [intOf]; omega⟩
      · obtain rfl : k = el.length := by omega
        have e1 : (el.length : Int) = (ms.length : Int) + 1 := by have := HLN.out; omega
        have e2 : ((el.length : Int) == (ms.length : Int) + 1) = true := by simp [e1]
        have m1 : ms.length ≤ 12 := hm1
        clear e1
        go_wp2_with (go_at_call 7; (with_reducible refine (LV.out _).mono ?_); rintro e w5 ⟨rfl, hb5⟩; have HB5 := Lib.hid hb5; clear hb5)
        go_ret
        exact ⟨rfl, below_call (below_call B4.out HB.out) HB5.out⟩
  · obtain rfl := hno h0
    have h0b : (ec != 0) = true := by simpa using h0
    clear hyes hno
    go_wp2_with (go_at_call 7; (with_reducible refine (LV.out _).mono ?_); rintro e w5 ⟨rfl, hb5⟩; have HB5 := Lib.hid hb5; clear hb5)
    go_ret
    exact ⟨rfl, below_call B4.out HB5.out⟩
end Go.Proofs.Ytekdcfepfieleaa
