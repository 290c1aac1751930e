/- copies.Graph. -/
import Derived.Test.YtdbfakllcaojcaaFS
import Derived.Test.YtdbfakllcaojcaaRsC
import Derived.Deep.DeepCutAuto
import Derived.Deep.AppendLies
namespace Go.Proofs.Ytdbfakllcaojcaa
open Go Go.RowKit
set_option linter.unusedVariables false
set_option linter.unusedSimpArgs false
set_option maxRecDepth 100000

theorem clone_nd2 (na : Option Addr) (nc : Nat) (ns : List Nd) (w : World) (hN : NdsIn w na ns nc) (hn : ns.length ≤ 1000) :
    Calls Try.prog 56 #[.slice na ns.length nc] w fun e w' => ∃ a c, e = .returned (.slice a ns.length c) ∧ Below w.heap.size w w' ∧ w'.ownsRow w.heap.size 57 26 (.slice a ns.length c) ns.length (nd26 ns) := by
  refine (clone_nd na nc ns w hN hn).mono ?_
  rintro e w' ⟨v, rfl, hb, ho⟩
  obtain ⟨a, c, rfl⟩ := own_slice2 ho
  exact ⟨a, c, rfl, hb, ho⟩
theorem own_far {w : World} {X B n s : Nat} {e : TypeId} {a : Option Addr} {c : Nat} {xs : List Value} (ho : w.ownsRow B e s (.slice a n c) n xs) (hX : X < B) : some X ≠ (Value.slice a n c).ownBlock := by
  rcases own_slice ho with ⟨h, _⟩ | ⟨g, c', h⟩
  · rw [h]; intro h; cases h
  · rw [h] at ho ⊢
    have hg := (own_lt ho).1
    intro h
    have := Option.some.inj h
    subst this
    omega
theorem far_own {w w' : World} {X B n s : Nat} {e : TypeId} {a : Option Addr} {c : Nat} {xs l : List Value} (h : RowAt w X l) (ho : w.ownsRow B e s (.slice a n c) n xs) (hX : X < B) (hg : w.grownBy w' (Value.slice a n c).ownBlock) : RowAt w' X l :=
  h.far hg (own_far ho hX)
theorem ownC_far {w w' : World} {B n s : Nat} {e : TypeId} {a : Option Addr} {c : Nat} {xs : List Value} {q : CnQ} (h : OwnC w B q) (ho : w.ownsRow B e s (.slice a n c) n xs) (h1 : e ≠ 73) (h2 : e ≠ 21) (hg : w.grownBy w' (Value.slice a n c).ownBlock) : OwnC w' B q := by
  rcases own_slice ho with ⟨hv, _⟩ | ⟨g, c', hv⟩
  · rw [hv] at hg
    exact h.over ⟨hg.os, hg.tape, hg.output, hg.size, fun i hi => hg.block i hi (by intro h; cases h)⟩
  · rw [hv] at hg ho
    exact h.grown ho h1 h2 hg
theorem grown_own {wc wr w8 w10 : World} {X n s : Nat} {e : TypeId} {a : Option Addr} {c : Nat} {xs : List Value} (hg : wc.grownBy wr (some X)) (hb : Below wr.heap.size wr w8) (ho : w8.ownsRow wc.heap.size e s (.slice a n c) n xs) (h10 : w8.grownBy w10 (Value.slice a n c).ownBlock) (j : Nat) (v : Value) : wc.grownBy (w10.setCell ⟨X, j, none⟩ v) (some X) := by
  have h1 : wc.grownBy w10 (some X) := ⟨h10.os.trans (hb.os.trans hg.os), h10.tape.trans (hb.tape.trans hg.tape), h10.output.trans (hb.output.trans hg.output), Nat.le_trans hg.size (Nat.le_trans hb.size h10.size), fun i hi hne => (h10.block i (Nat.lt_of_lt_of_le hi (Nat.le_trans hg.size hb.size)) (own_far ho hi)).trans ((hb.block i (Nat.lt_of_lt_of_le hi hg.size)).trans (hg.block i hi hne))⟩
  refine ⟨h1.os, h1.tape, h1.output, ?_, fun i hi hne => ?_⟩
  · have h2 := h1.size
    have h3 : (w10.setCell ⟨X, j, none⟩ v).heap.size = w10.heap.size := by simp
    omega
  · exact (RowKit.Below.heap_setCell _ _ _ _ (by intro e; simp at e; subst e; exact hne rfl)).trans (h1.block i hi hne)
theorem cp_leaf {wc wr w7 w10 : World} {X k g10 c10 c : Nat} {C D : List CnQ} {a ba wa a8 a32 : Option Addr} {bc wcp c8 c32 : Nat} {bs ws : List Int} {x0 x1 x2 x4 x5 : Value} (hXl : X < wc.heap.size) (HK : k < C.length) (HQE : C[k]? = some ⟨ba, bc, bs, wa, wcp, ws⟩) (HDM : D.map CnQ.cn = (C.take k).map CnQ.cn) (HDL : D.length = k) (RX10 : RowAt w10 X [x0, x1, x2, .slice a k c, x4, x5])
    (HQD : ∀ q ∈ D, OwnC wr wc.heap.size q) (HG : wc.grownBy wr (some X)) (hb7 : Below wr.heap.size wr w7) (O67 : OwnN .i8 73 w7 wc.heap.size a8 bs c8) (O7 : OwnN .i32 21 w7 wc.heap.size a32 ws c32)
    (OWL : (w7.alloc (.cells #[.slice a8 bs.length c8, .slice a32 ws.length c32] 62)).ownsRow wc.heap.size 62 2 (.slice a k c) k (cn2 D))
    (HO10 : w10.ownsRow wc.heap.size 62 2 (.slice (some ⟨g10, 0, none⟩) (k + 1) c10) (k + 1) (cn2 D ++ [.slice a8 bs.length c8, .slice a32 ws.length c32]))
    (HG10 : (w7.alloc (.cells #[.slice a8 bs.length c8, .slice a32 ws.length c32] 62)).grownBy w10 (Value.slice a k c).ownBlock) :
    (∃ (k' : Nat) (D : List CnQ) (a : Option Addr) (c : Nat), k' ≤ C.length ∧ Value.int IntKind.i64 (↑k + 1) = .int .i64 k' ∧ D.map CnQ.cn = (C.take k').map CnQ.cn ∧ RowAt (w10.setCell ⟨X, 3, none⟩ (.slice (some ⟨g10, 0, none⟩) (k + 1) c10)) X [x0, x1, x2, .slice a k' c, x4, x5] ∧ (w10.setCell ⟨X, 3, none⟩ (.slice (some ⟨g10, 0, none⟩) (k + 1) c10)).ownsRow wc.heap.size 62 2 (.slice a k' c) k' (cn2 D) ∧ D.length = k' ∧ (∀ q ∈ D, OwnC (w10.setCell ⟨X, 3, none⟩ (.slice (some ⟨g10, 0, none⟩) (k + 1) c10)) wc.heap.size q) ∧ wc.grownBy (w10.setCell ⟨X, 3, none⟩ (.slice (some ⟨g10, 0, none⟩) (k + 1) c10)) (some X)) ∧
    C.length - (intOf (.int .i64 (↑k + 1))).toNat < C.length - (intOf (.int .i64 ↑k)).toNat := by
  have hb8 := Below.alloc hb7 hb7.size (.cells #[.slice a8 bs.length c8, .slice a32 ws.length c32] 62)
  refine ⟨⟨k + 1, D ++ [⟨a8, c8, bs, a32, c32, ws⟩], some ⟨g10, 0, none⟩, c10, by omega, rfl, ?_, RX10.set 3 _ (by show 3 < 6; omega) rfl, ?_, by simp [HDL], ?_, grown_own HG hb8 OWL HG10 3 _⟩, by simp [intOf]; omega⟩
  · rw [List.take_add_one, HQE, List.map_append, List.map_append, HDM]; rfl
  · have h := own_setCell (j := 3) (u := .slice (some ⟨g10, 0, none⟩) (k + 1) c10) HO10 hXl
    have he : cn2 (D ++ [⟨a8, c8, bs, a32, c32, ws⟩]) = cn2 D ++ [.slice a8 bs.length c8, .slice a32 ws.length c32] := by simp [cn2, CnQ.cells]
    rw [he]; exact h
  · intro q hq
    rcases List.mem_append.1 hq with h | h
    · exact OwnC.kp (ownC_far ((HQD q h).over hb8) OWL (by decide) (by decide) HG10) ((Kp.refl _ _).set X 3 _ hXl) (Nat.le_refl _)
    · obtain rfl := List.mem_singleton.1 h
      exact OwnC.kp (ownC_far (OwnC.over (w := w7) ⟨O67, O7⟩ (Below.alloc (Below.refl w7.heap.size w7) (Nat.le_refl _) _)) OWL (by decide) (by decide) HG10) ((Kp.refl _ _).set X 3 _ hXl) (Nat.le_refl _)
theorem own_near {w : World} {X B n s : Nat} {e : TypeId} {a : Option Addr} {c : Nat} {xs : List Value} (ho : w.ownsRow B e s (.slice a n c) n xs) (hX : w.heap.size ≤ X) : some X ≠ (Value.slice a n c).ownBlock := by
  rcases own_slice ho with ⟨h, _⟩ | ⟨g, c', h⟩
  · rw [h]; intro h; cases h
  · rw [h] at ho ⊢
    have hg := (own_lt ho).2.1
    intro h
    have := Option.some.inj h
    subst this
    omega
theorem own_grownX {w w' : World} {X B n s : Nat} {e : TypeId} {v : Value} {xs : List Value} (h : w.ownsRow B e s v n xs) (hg : w.grownBy w' (some X)) (hne : some X ≠ v.ownBlock) : w'.ownsRow B e s v n xs := by
  rcases own_slice h with ⟨rfl, rfl⟩ | ⟨g, c, rfl⟩
  · obtain ⟨h1, _⟩ := h; exact ⟨h1, Or.inl ⟨rfl, rfl⟩⟩
  · have hl := (own_lt h).2.1
    exact own_block h (hg.block g hl (fun e => hne e.symm))
theorem ownC_base {w : World} {B B' : Nat} {q : CnQ} (h : OwnC w B q) (hB : B' ≤ B) : OwnC w B' q :=
  ⟨h.1.imp id fun ⟨⟨g, hg, ho⟩, hw⟩ => ⟨⟨g, hg, own_base ho hB⟩, hw⟩, h.2.imp id fun ⟨⟨g, hg, ho⟩, hw⟩ => ⟨⟨g, hg, own_base ho hB⟩, hw⟩⟩
set_option maxHeartbeats 8000000 in
theorem copies_any (g : GrQ) (w : World) (hC : CnsIn w g.ca g.C g.cc) (hN : NdsIn w g.na g.ns g.nc) (hn : g.ns.length ≤ 1000) (hc : g.C.length ≤ 1000) (hq : ∀ q ∈ g.C, q.bs.length ≤ 1000000 ∧ q.ws.length ≤ 1000000) :
    Calls Try.prog 37 #[g.val] w (CpPost g w) := by
  obtain ⟨gx, gy, gz, ca, cc, C, na, nc, ns, go⟩ := g
  unfold GrQ.val CpPost
  dsimp only at *
  have HC := Lib.hid hC
  have HN := Lib.hid hN
  have HQ := Lib.hid hq
  have R0 := RowAt.new w [.int .i64 gx, .int .i64 gy, .int .i64 gz, .slice ca C.length cc, .slice na ns.length nc, .int .i64 go] 26
  have R1 := RowAt.new (w.alloc (.cells #[.int .i64 gx, .int .i64 gy, .int .i64 gz, .slice ca C.length cc, .slice na ns.length nc, .int .i64 go] 26)) [.int .i64 0, .int .i64 0, .int .i64 0, .slice none 0 0, .slice none 0 0, .int .i64 0] 26
  rw [size_alloc1] at R1
  have hal := Below.alloc (Below.refl (w.alloc (.cells #[.int .i64 gx, .int .i64 gy, .int .i64 gz, .slice ca C.length cc, .slice na ns.length nc, .int .i64 go] 26)).heap.size (w.alloc (.cells #[.int .i64 gx, .int .i64 gy, .int .i64 gz, .slice ca C.length cc, .slice na ns.length nc, .int .i64 go] 26))) (Nat.le_refl _) (.cells #[.int .i64 0, .int .i64 0, .int .i64 0, .slice none 0 0, .slice none 0 0, .int .i64 0] 26)
  have RG := Lib.hid (R0.over hal)
  have RZ := Lib.hid R1
  have BW := Lib.hid (below_call (Below.alloc (Below.refl w.heap.size w) (Nat.le_refl _) (.cells #[.int .i64 gx, .int .i64 gy, .int .i64 gz, .slice ca C.length cc, .slice na ns.length nc, .int .i64 go] 26)) hal)
  clear R0 R1 hal hC hN hq
  go_enter Try.func37, Try.ntmps37
  go_upto_region 1 with fail
  generalize (w.alloc (.cells #[.int .i64 gx, .int .i64 gy, .int .i64 gz, .slice ca C.length cc, .slice na ns.length nc, .int .i64 go] 26)).alloc (.cells #[.int .i64 0, .int .i64 0, .int .i64 0, .slice none 0 0, .slice none 0 0, .int .i64 0] 26) = W1 at *
  have gl := RG.out.lt
  have zl := RZ.out.lt
  have CL := Lib.hid (fun (W : World) (hb : Below W1.heap.size W1 W) => clone_nd2 na nc ns W (FlatIn.later HN.out (below_call BW.out hb)) hn)
  go_cut [3] (fun s3 wx => ∃ (X : Nat) (v2 : Value), s3 = .pointer (some ⟨X, 0, none⟩) ∧ W1.heap.size ≤ X ∧ RowAt wx X [.int .i64 gx, .int .i64 gy, .int .i64 gz, .slice none 0 0, v2, .int .i64 go] ∧ wx.ownsRow W1.heap.size 57 26 v2 ns.length (nd26 ns) ∧ Below W1.heap.size W1 wx ∧ some X ≠ v2.ownBlock)
  case first =>
    have PS := Lib.hid (show ∀ W', Below W1.heap.size W1 W' → (fun w' => w'.cell? ⟨w.heap.size, 0, none⟩ = some (.int .i64 gx) ∧ w'.cell? ⟨w.heap.size, 1, none⟩ = some (.int .i64 gy) ∧ w'.cell? ⟨w.heap.size, 2, none⟩ = some (.int .i64 gz) ∧ w'.cell? ⟨w.heap.size, 4, none⟩ = some (.slice na ns.length nc) ∧ w'.cell? ⟨w.heap.size, 5, none⟩ = some (.int .i64 go) ∧ Below W1.heap.size W1 w') W' from fun W' hb => ⟨(RG.out.over hb).cell 0 _ rfl, (RG.out.over hb).cell 1 _ rfl, (RG.out.over hb).cell 2 _ rfl, (RG.out.over hb).cell 4 _ rfl, (RG.out.over hb).cell 5 _ rfl, hb⟩)
    go_region_held3 (fun w' => w'.cell? ⟨w.heap.size, 0, none⟩ = some (.int .i64 gx) ∧ w'.cell? ⟨w.heap.size, 1, none⟩ = some (.int .i64 gy) ∧ w'.cell? ⟨w.heap.size, 2, none⟩ = some (.int .i64 gz) ∧ w'.cell? ⟨w.heap.size, 4, none⟩ = some (.slice na ns.length nc) ∧ w'.cell? ⟨w.heap.size, 5, none⟩ = some (.int .i64 go) ∧ Below W1.heap.size W1 w')
      (first | (with_reducible assumption) | (refine PS.out _ ?_; first | (with_reducible exact Below.refl _ _) | (with_reducible exact (Below.refl _ _).drew) | (with_reducible exact Below.alloc (Below.refl _ _) (Nat.le_refl _) _) | (with_reducible exact (Below.alloc (Below.refl _ _) (Nat.le_refl _) _).drew) | (with_reducible exact hB2) | (with_reducible exact hB2.drew) | (with_reducible exact Below.alloc hB2 hB2.size _) | (with_reducible exact (Below.alloc hB2 hB2.size _).drew) | (with_reducible exact hBs)))
      (first | (go_at_call 56; (first | ((with_reducible refine (CL.out _ (Below.refl _ _)).mono ?_); rintro e w6 ⟨va, vc, rfl, hb2, hown⟩; have hB2 := below_call (Below.refl W1.heap.size W1) hb2; have hO2 := Lib.hid (own_base hown (Nat.le_refl W1.heap.size)); clear hown hb2) | ((with_reducible refine (CL.out _ (Below.refl _ _).drew).mono ?_); rintro e w6 ⟨va, vc, rfl, hb2, hown⟩; have hB2 := below_call (Below.refl W1.heap.size W1).drew hb2; have hO2 := Lib.hid (own_base hown (Nat.le_refl W1.heap.size)); clear hown hb2) | ((with_reducible refine (CL.out _ (Below.alloc (Below.refl _ _) (Nat.le_refl _) _)).mono ?_); rintro e w6 ⟨va, vc, rfl, hb2, hown⟩; have hB2 := below_call (Below.alloc (Below.refl W1.heap.size W1) (Nat.le_refl _) (.cells ([.int .i64 0, .int .i64 0, .int .i64 0, .slice none 0 0, .slice none 0 0, .int .i64 0] : List Value).toArray 26)) hb2; have RX := Lib.hid ((RowAt.new W1 [.int .i64 0, .int .i64 0, .int .i64 0, .slice none 0 0, .slice none 0 0, .int .i64 0] 26).over hb2); have hO2 := Lib.hid hown; have hBs := Below.setCell (Below.setCell (Below.setCell (Below.setCell (Below.setCell (Below.setCell (hB2) (show W1.heap.size ≤ (⟨W1.heap.size, 0, none⟩ : Addr).block from Nat.le_refl _) (.int .i64 gx)) (show W1.heap.size ≤ (⟨W1.heap.size, 1, none⟩ : Addr).block from Nat.le_refl _) (.int .i64 gy)) (show W1.heap.size ≤ (⟨W1.heap.size, 2, none⟩ : Addr).block from Nat.le_refl _) (.int .i64 gz)) (show W1.heap.size ≤ (⟨W1.heap.size, 3, none⟩ : Addr).block from Nat.le_refl _) (.slice none 0 0)) (show W1.heap.size ≤ (⟨W1.heap.size, 4, none⟩ : Addr).block from Nat.le_refl _) (.slice va ns.length vc)) (show W1.heap.size ≤ (⟨W1.heap.size, 5, none⟩ : Addr).block from Nat.le_refl _) (.int .i64 go); have y0 := RX.out.cell 0 _ rfl; have f0 := RX.out.fr 0; have y1 := RX.out.cell 1 _ rfl; have f1 := RX.out.fr 1; have y2 := RX.out.cell 2 _ rfl; have f2 := RX.out.fr 2; have y3 := RX.out.cell 3 _ rfl; have f3 := RX.out.fr 3; have y4 := RX.out.cell 4 _ rfl; have f4 := RX.out.fr 4; have y5 := RX.out.cell 5 _ rfl; have f5 := RX.out.fr 5; have yl := RX.out.lt; clear hown hb2) | ((with_reducible refine (CL.out _ (Below.alloc (Below.refl _ _) (Nat.le_refl _) _).drew).mono ?_); rintro e w6 ⟨va, vc, rfl, hb2, hown⟩; have hB2 := below_call (Below.alloc (Below.refl W1.heap.size W1) (Nat.le_refl _) (.cells ([.int .i64 0, .int .i64 0, .int .i64 0, .slice none 0 0, .slice none 0 0, .int .i64 0] : List Value).toArray 26)).drew hb2; have RX := Lib.hid ((RowAt.new W1 [.int .i64 0, .int .i64 0, .int .i64 0, .slice none 0 0, .slice none 0 0, .int .i64 0] 26).drew.over hb2); have hO2 := Lib.hid hown; have hBs := Below.setCell (Below.setCell (Below.setCell (Below.setCell (Below.setCell (Below.setCell (hB2) (show W1.heap.size ≤ (⟨W1.heap.size, 0, none⟩ : Addr).block from Nat.le_refl _) (.int .i64 gx)) (show W1.heap.size ≤ (⟨W1.heap.size, 1, none⟩ : Addr).block from Nat.le_refl _) (.int .i64 gy)) (show W1.heap.size ≤ (⟨W1.heap.size, 2, none⟩ : Addr).block from Nat.le_refl _) (.int .i64 gz)) (show W1.heap.size ≤ (⟨W1.heap.size, 3, none⟩ : Addr).block from Nat.le_refl _) (.slice none 0 0)) (show W1.heap.size ≤ (⟨W1.heap.size, 4, none⟩ : Addr).block from Nat.le_refl _) (.slice va ns.length vc)) (show W1.heap.size ≤ (⟨W1.heap.size, 5, none⟩ : Addr).block from Nat.le_refl _) (.int .i64 go); have y0 := RX.out.cell 0 _ rfl; have f0 := RX.out.fr 0; have y1 := RX.out.cell 1 _ rfl; have f1 := RX.out.fr 1; have y2 := RX.out.cell 2 _ rfl; have f2 := RX.out.fr 2; have y3 := RX.out.cell 3 _ rfl; have f3 := RX.out.fr 3; have y4 := RX.out.cell 4 _ rfl; have f4 := RX.out.fr 4; have y5 := RX.out.cell 5 _ rfl; have f5 := RX.out.fr 5; have yl := RX.out.lt; clear hown hb2))))
    · go_wp2_with fail
      go_meet
      exact ⟨_, .slice va ns.length vc, rfl, hB2.size, RowAt.new w6 [.int .i64 gx, .int .i64 gy, .int .i64 gz, .slice none 0 0, .slice va ns.length vc, .int .i64 go] 26, own_laterW hO2.out (Below.alloc (Below.refl _ _) (Nat.le_refl _) _), Below.alloc hB2 hB2.size _, own_near hO2.out (Nat.le_refl _)⟩
    · go_wp2_with fail
      go_meet
      exact ⟨_, .slice va ns.length vc, rfl, Nat.le_refl _, ((((((RX.out).set (l' := [.int .i64 gx, .int .i64 0, .int .i64 0, .slice none 0 0, .slice none 0 0, .int .i64 0]) 0 _ (by show 0 < 6; omega) rfl).set (l' := [.int .i64 gx, .int .i64 gy, .int .i64 0, .slice none 0 0, .slice none 0 0, .int .i64 0]) 1 _ (by show 1 < 6; omega) rfl).set (l' := [.int .i64 gx, .int .i64 gy, .int .i64 gz, .slice none 0 0, .slice none 0 0, .int .i64 0]) 2 _ (by show 2 < 6; omega) rfl).set (l' := [.int .i64 gx, .int .i64 gy, .int .i64 gz, .slice none 0 0, .slice none 0 0, .int .i64 0]) 3 _ (by show 3 < 6; omega) rfl).set (l' := [.int .i64 gx, .int .i64 gy, .int .i64 gz, .slice none 0 0, .slice va ns.length vc, .int .i64 0]) 4 _ (by show 4 < 6; omega) rfl).set (l' := [.int .i64 gx, .int .i64 gy, .int .i64 gz, .slice none 0 0, .slice va ns.length vc, .int .i64 go]) 5 _ (by show 5 < 6; omega) rfl, own_base (own_setCell (own_setCell (own_setCell (own_setCell (own_setCell (own_setCell (hO2.out) (lt_alloc _ _)) (lt_alloc _ _)) (lt_alloc _ _)) (lt_alloc _ _)) (lt_alloc _ _)) (lt_alloc _ _)) (Nat.le_of_lt (lt_alloc _ _)), hBs, own_far hO2.out (lt_alloc _ _)⟩
  case rest =>
    obtain ⟨X, v2, h3, hX, hrow, hown, hbel, hfarX⟩ := hcut
    subst h3
    obtain ⟨va, vc, rfl⟩ := own_slice2 hown
    obtain ⟨i2, z2, h2i, h2z, h2s, h2b, h2c⟩ : ∃ i z, Try.prog.info? 62 = some i ∧ i.zero = some z ∧ i.size = 2 ∧ i.bytes = 48 ∧ z.cells.size = 2 := ⟨(Try.prog.info? 62).get!, (Try.prog.info? 62).get!.zero.get!, by kernel_rfl, by kernel_rfl, by kernel_rfl, by kernel_rfl, by kernel_rfl⟩
    have RXc := Lib.hid hrow
    have ON := Lib.hid hown
    have BWc := Lib.hid (below_call BW.out hbel)
    have RGc := Lib.hid (RG.out.over hbel)
    have RZc := Lib.hid (RZ.out.over hbel)
    have b3 := RGc.out.cell 3 _ rfl
    have bl := RGc.out.lt
    have hXl : X < wc.heap.size := hrow.lt
    have c1 : C.length ≤ cc := HC.out.1
    have c2 : cc ≤ 9223372036854775807 := HC.out.2.1
    clear hrow hown hbel CL gl zl
    have gX : w.heap.size + 1 < X := by have := RZ.out.lt; omega
    go_wp2_with fail
    go_loopw [17] (fun s17 wr => ∃ (k : Nat) (D : List CnQ) (a : Option Addr) (c : Nat), k ≤ C.length ∧ s17 = .int .i64 k ∧ D.map CnQ.cn = (C.take k).map CnQ.cn ∧ RowAt wr X [.int .i64 gx, .int .i64 gy, .int .i64 gz, .slice a k c, .slice va ns.length vc, .int .i64 go] ∧ wr.ownsRow wc.heap.size 62 2 (.slice a k c) k (cn2 D) ∧ D.length = k ∧ (∀ q ∈ D, OwnC wr wc.heap.size q) ∧ wc.grownBy wr (some X)) (fun s17 _ => C.length - (intOf s17).toNat)
    case atStart => exact ⟨0, [], none, 0, Nat.zero_le _, rfl, rfl, RXc.out, own_nilV wc _ _ _, rfl, fun q (h : q ∈ ([] : List CnQ)) => absurd h (by simp), World.grownBy.refl _ _⟩
    case round =>
      obtain ⟨k, D, a, c, hk, rfl, hDm, hrx, hown, hDl, hQ, hg⟩ := hrel
      have HDM := Lib.hid hDm
      have RX := Lib.hid hrx
      have OW := Lib.hid hown
      have HDL := Lib.hid hDl
      have HQD := Lib.hid hQ
      have HG := Lib.hid hg
      have x3 := hrx.cell 3 _ rfl
      have f3 := hrx.fr 3
      have xl := hrx.lt
      have wsz := hg.size
      clear hDm hrx hown hDl hQ hg
      by_cases hkl : k < C.length
      · obtain ⟨q, hq⟩ : ∃ q, C[k]? = some q := ⟨_, List.getElem?_eq_getElem hkl⟩
        obtain ⟨cb, off, hca, hlt, hs0, hs1⟩ := cns_cell HC.out hq
        subst hca
        have t0 := HG.out.cell ((BWc.out.cell (p := ⟨cb, _, none⟩) hlt).trans hs0) (by intro e; simp at e; omega)
        have t1 := HG.out.cell ((BWc.out.cell (p := ⟨cb, _, none⟩) hlt).trans hs1) (by intro e; simp at e; omega)
        have HQK := Lib.hid (HC.out.2.2.1 q (List.mem_of_getElem? hq))
        have HQL := Lib.hid (HQ.out q (List.mem_of_getElem? hq))
        obtain ⟨ba, bc, bs, wa, wcp, ws⟩ := q
        dsimp only at t0 t1
        have kl0 : (0 : Int) ≤ (k : Int) := by omega
        have kl1 : (k : Int) < (C.length : Int) := by omega
        have HQE := Lib.hid hq
        have HK := Lib.hid hkl
        clear hs0 hs1 hq hkl
        have RC5 := Lib.hid (RowAt.new wr [.slice ba bs.length bc, .slice wa ws.length wcp] 62)
        have B5 := Lib.hid (Below.alloc (Below.refl wr.heap.size wr) (Nat.le_refl _) (.cells #[.slice ba bs.length bc, .slice wa ws.length wcp] 62))
        go_upto_region 5 with fail
        obtain ⟨W5, hW5⟩ : ∃ W : World, W = wr.alloc (.cells #[.slice ba bs.length bc, .slice wa ws.length wcp] 62) := ⟨_, rfl⟩
        rw [← hW5] at RC5 B5 ⊢
        clear hW5
        have BWr := Lib.hid (show Below w.heap.size w wr from ⟨HG.out.os.trans BWc.out.os, HG.out.tape.trans BWc.out.tape, HG.out.output.trans BWc.out.output, Nat.le_trans BWc.out.size HG.out.size, fun i hi => (HG.out.block i (Nat.lt_of_lt_of_le hi BWc.out.size) (by intro e; simp at e; omega)).trans (BWc.out.block i hi)⟩)
        have BW5 := Lib.hid (below_call BWr.out B5.out)
        have hw5 : wc.heap.size ≤ W5.heap.size := Nat.le_trans wsz B5.out.size
        have C8 := Lib.hid (fun (W : World) (hb : Below W5.heap.size W5 W) => (clone_i8 ba bc bs W (HQK.out.1.later (below_call BW5.out hb)) HQL.out.1).mono (R' := fun e w' => ∃ a8 c8, e = .returned (.slice a8 bs.length c8) ∧ Below W.heap.size W w' ∧ OwnN .i8 73 w' wc.heap.size a8 bs c8) (by
          rintro e w' ⟨v, rfl, h1, h2⟩
          obtain ⟨a8, c8, rfl, h3⟩ := ownN_of h2 HQK.out.1.2 (Nat.le_trans hw5 hb.size)
          exact ⟨a8, c8, rfl, h1, h3⟩))
        have C32 := Lib.hid (fun (W : World) (hb : Below W5.heap.size W5 W) => (clone_i32 wa wcp ws W (HQK.out.2.later (below_call BW5.out hb)) HQL.out.2).mono (R' := fun e w' => ∃ a8 c8, e = .returned (.slice a8 ws.length c8) ∧ Below W.heap.size W w' ∧ OwnN .i32 21 w' wc.heap.size a8 ws c8) (by
          rintro e w' ⟨v, rfl, h1, h2⟩
          obtain ⟨a8, c8, rfl, h3⟩ := ownN_of h2 HQK.out.2.2 (Nat.le_trans hw5 hb.size)
          exact ⟨a8, c8, rfl, h1, h3⟩))
        have PS := Lib.hid (show ∀ w', RowAt w' wr.heap.size [.slice ba bs.length bc, .slice wa ws.length wcp] → (fun w' => w'.cell? ⟨wr.heap.size, 0, none⟩ = some (.slice ba bs.length bc) ∧ w'.cell? ⟨wr.heap.size, 1, none⟩ = some (.slice wa ws.length wcp)) w' from fun w' h => ⟨h.cell 0 _ rfl, h.cell 1 _ rfl⟩)
        have x5 := (RX.out.over B5.out).cell 3 _ rfl
        have xl5 := (RX.out.over B5.out).lt
        have RX5 := Lib.hid (RX.out.over B5.out)
        have E5 := Lib.hid (show k + 1 ≤ maxLen by unfold maxLen; omega)
        have E6 := Lib.hid (show (k + 1) * 48 ≤ 140737488355328 by omega)
        clear t0 t1 x3 f3 xl b3
        have q0 := RC5.out.cell 0 _ rfl
        have q1 := RC5.out.cell 1 _ rfl
        have ql := RC5.out.lt
        go_region_law (first
            | (go_simp; go_at_call 57; (first | (with_reducible refine (C8.out _ (Below.refl _ _)).mono ?_) | (with_reducible refine (C8.out _ (Below.refl _ _).drew).mono ?_)); rintro e w6 ⟨a8, c8, rfl, hb6, ho6⟩; have hB6 : Below W5.heap.size W5 w6 := (by first | (with_reducible exact hb6) | exact below_call (Below.refl W5.heap.size W5).drew hb6); have HB6 := Lib.hid hB6; have RC6 := Lib.hid (RC5.out.over hB6); have RX6 := Lib.hid (RX5.out.over hB6); have O6 := Lib.hid ho6; have x6 := RX6.out.cell 3 _ rfl; have q60 := RC6.out.cell 0 _ rfl; have q61 := RC6.out.cell 1 _ rfl; have ql6 := RC6.out.lt; have xl6 := RX6.out.lt; clear hb6 hB6 ho6)
            | (go_simp; go_at_call 58; (with_reducible refine (C32.out _ HB6.out).mono ?_); rintro e w7 ⟨a32, c32, rfl, hb7, ho7⟩; have HB7 := Lib.hid (below_call HB6.out hb7); have RC7 := Lib.hid (RC6.out.over hb7); have RX7 := Lib.hid (RX6.out.over hb7); have O67 := Lib.hid (OwnN.over O6.out hb7); have O7 := Lib.hid ho7; have x7 := RX7.out.cell 3 _ rfl; have q70 := RC7.out.cell 0 _ rfl; have q71 := RC7.out.cell 1 _ rfl; have ql7 := RC7.out.lt; have xl7 := RX7.out.lt; have OWL := Lib.hid (own_laterW (own_laterW OW.out (below_call B5.out HB7.out)) (Below.alloc (Below.refl w7.heap.size w7) (Nat.le_refl _) (.cells #[.slice a8 bs.length c8, .slice a32 ws.length c32] 62))); clear hb7 ho7)
            | (refine step_append_own rfl (.tmp 22) (.tmp 30) 23 rfl wc.heap.size 62 i2 z2 2 48 Try.underlying23 h2i h2z h2s h2b h2c (by decide) (.slice a k c) k (cn2 D) rfl OWL.out ⟨w7.heap.size, 0, none⟩ 1 1 [.slice a8 bs.length c8, .slice a32 ws.length c32] rfl rfl (news2 w7 _ _ _ _ rfl) (one2 _ _ _ _ _ _) E5.out E6.out (by have := HB7.out.size; simp; omega) ?_; intro v' w10 ho10 hg10 hn10; clear hn10; obtain ⟨g10, c10, rfl⟩ := own_shapeN ho10 (Nat.succ_pos k); have RX10 := Lib.hid (far_own (RX7.out.over (Below.alloc (Below.refl w7.heap.size w7) (Nat.le_refl _) (.cells #[.slice a8 bs.length c8, .slice a32 ws.length c32] 62))) OWL.out hXl hg10); have x10 := RX10.out.cell 3 _ rfl; have f10 := RX10.out.fr 3; have xl10 := RX10.out.lt; have HO10 := Lib.hid ho10; have HG10 := Lib.hid hg10; clear ho10 hg10))
        all_goals (go_wp2_with fail)
        all_goals (with_reducible exact cp_leaf hXl HK.out HQE.out HDM.out HDL.out RX10.out HQD.out HG.out (below_call B5.out HB7.out) O67.out O7.out OWL.out HO10.out HG10.out)
      · obtain rfl : k = C.length := by omega
        have y0 := RX.out.cell 0 _ rfl
        have y1 := RX.out.cell 1 _ rfl
        have y2 := RX.out.cell 2 _ rfl
        have y4 := RX.out.cell 4 _ rfl
        have y5 := RX.out.cell 5 _ rfl
        have RZr := Lib.hid (RZc.out.far HG.out (by intro e; simp at e; omega))
        have z0 := RZr.out.cell 0 _ rfl
        have z1 := RZr.out.cell 1 _ rfl
        have z2 := RZr.out.cell 2 _ rfl
        have z3 := RZr.out.cell 3 _ rfl
        have z4 := RZr.out.cell 4 _ rfl
        have z5 := RZr.out.cell 5 _ rfl
        have zf0 := RZr.out.fr 0
        have zf1 := RZr.out.fr 1
        have zf2 := RZr.out.fr 2
        have zf3 := RZr.out.fr 3
        have zf4 := RZr.out.fr 4
        have zf5 := RZr.out.fr 5
        have zl := RZr.out.lt
        have zne : w.heap.size + 1 ≠ X := by omega
        have kl1 : ¬ ((C.length : Int) < (C.length : Int)) := by omega
        go_wp2_with fail
        have FE := ((((((RZr.out.set (l' := [.int .i64 gx, .int .i64 0, .int .i64 0, .slice none 0 0, .slice none 0 0, .int .i64 0]) 0 _ (by show 0 < 6; omega) rfl).set (l' := [.int .i64 gx, .int .i64 gy, .int .i64 0, .slice none 0 0, .slice none 0 0, .int .i64 0]) 1 _ (by show 1 < 6; omega) rfl).set (l' := [.int .i64 gx, .int .i64 gy, .int .i64 gz, .slice none 0 0, .slice none 0 0, .int .i64 0]) 2 _ (by show 2 < 6; omega) rfl).set (l' := [.int .i64 gx, .int .i64 gy, .int .i64 gz, .slice a C.length c, .slice none 0 0, .int .i64 0]) 3 _ (by show 3 < 6; omega) rfl).set (l' := [.int .i64 gx, .int .i64 gy, .int .i64 gz, .slice a C.length c, .slice va ns.length vc, .int .i64 0]) 4 _ (by show 4 < 6; omega) rfl).set (l' := [.int .i64 gx, .int .i64 gy, .int .i64 gz, .slice a C.length c, .slice va ns.length vc, .int .i64 go]) 5 _ (by show 5 < 6; omega) rfl)
        refine bodyPost_ret (results_cell_mid rfl _ _ (w.heap.size + 1) _ rfl (load_row FE 26 _ Try.underlying26 rfl (by kernel_rfl))) rfl ?_
        have hB : w.heap.size + 1 < wc.heap.size := by omega
        have hB1 : w.heap.size + 1 < W1.heap.size := RZ.out.lt
        have hb0 : w.heap.size ≤ w.heap.size + 1 := Nat.le_succ _
        have BWr : Below w.heap.size w wr := ⟨HG.out.os.trans BWc.out.os, HG.out.tape.trans BWc.out.tape, HG.out.output.trans BWc.out.output, Nat.le_trans BWc.out.size HG.out.size, fun i hi => (HG.out.block i (Nat.lt_of_lt_of_le hi BWc.out.size) (by intro e; simp at e; omega)).trans (BWc.out.block i hi)⟩
        refine ⟨_, _, rfl, Below.setCell (Below.setCell (Below.setCell (Below.setCell (Below.setCell (Below.setCell BWr hb0 _) hb0 _) hb0 _) hb0 _) hb0 _) hb0 _, D, ?_, ?_, ?_, ?_⟩
        · rw [HDM.out, List.take_length]
        · rw [HDL.out]
          exact own_base (own_setCell (own_setCell (own_setCell (own_setCell (own_setCell (own_setCell OW.out hB) hB) hB) hB) hB) hB) BWc.out.size
        · intro q hq
          exact ownC_base (OwnC.kp (HQD.out q hq) ((((((Kp.refl _ _).set _ _ _ hB).set _ _ _ hB).set _ _ _ hB).set _ _ _ hB).set _ _ _ hB |>.set _ _ _ hB) (Nat.le_refl _)) BWc.out.size
        · exact own_base (own_setCell (own_setCell (own_setCell (own_setCell (own_setCell (own_setCell (own_grownX ON.out HG.out hfarX) hB1) hB1) hB1) hB1) hB1) hB1) BW.out.size
end Go.Proofs.Ytdbfakllcaojcaa
