/- Plain: a node that has what it does not need is refused. -/
import Derived.Test.YtekdcfepfieleaaGrI
import Derived.OpenShut
import Derived.Test.YtekdcfepfieleaaGrL
import Derived.Test.YtekdcfepfieleaaIgW
import Derived.Test.YtekdcfepfieleaaNdEq
namespace Go.Proofs.Ytekdcfepfieleaa
open Go Go.RowKit
set_option linter.unusedVariables false

/-- the node that InferIdle makes of a node -/
def bump (f : Nat) (n : Nd) : Nd := match f with
  | 0 => { n with b := IntKind.i64.wrap (n.b + 1) }
  | 1 => { n with k1 := IntKind.i64.wrap (n.k1 + 1) }
  | 2 => { n with p3 := IntKind.i64.wrap (n.p3 + 1) }
  | 3 => { n with za := IntKind.i64.wrap (n.za + 1) }
  | 4 => { n with zb := IntKind.i64.wrap (n.zb - 1) }
  | 5 => { n with m2 := IntKind.i32.wrap (n.m2 + 1) }
  | 6 => { n with w := IntKind.i64.wrap (n.w + 1) }
  | 7 => { n with bias := IntKind.i64.wrap (n.bias + 1) }
  | 8 => { n with chans := IntKind.i64.wrap (n.chans + 1) }
  | _ => { n with h0 := IntKind.i64.wrap (n.h0 + 1) }
/-- whether the operator has the thing -/
def hasL (f : Nat) (o : Int) : Bool := match f with
  | 0 => hB o | 1 => hWin o | 2 => hPad o | 3 => hZa o | 4 => hZb o | 5 => hN o | 6 => hW o | 7 => hI o | 8 => hC o | _ => hS o
/-- its letter -/
def letB (f : Nat) : Int := match f with
  | 0 => 66 | 1 => 119 | 2 => 112 | 3 => 97 | 4 => 98 | 5 => 110 | 6 => 87 | 7 => 73 | 8 => 67 | _ => 83
theorem bump_op (f : Nat) (n : Nd) : (bump f n).op = n.op := by unfold bump; split <;> rfl
theorem ne_up (x : Int) (h0 : -9223372036854775808 ≤ x) (h1 : x ≤ 9223372036854775807) : IntKind.i64.wrap (x + 1) ≠ x := by
  simp [IntKind.wrap, IntKind.signed, IntKind.bits]; split <;> omega
theorem ne_dn (x : Int) (h0 : -9223372036854775808 ≤ x) (h1 : x ≤ 9223372036854775807) : IntKind.i64.wrap (x - 1) ≠ x := by
  simp [IntKind.wrap, IntKind.signed, IntKind.bits]; split <;> omega
theorem ne_up32 (x : Int) (h0 : -2147483648 ≤ x) (h1 : x ≤ 2147483647) : IntKind.i32.wrap (x + 1) ≠ x := by
  simp [IntKind.wrap, IntKind.signed, IntKind.bits]; split <;> omega
theorem in64 {x : Int} (h : (Lit.int .i64 x).wf = true) : -9223372036854775808 ≤ x ∧ x ≤ 9223372036854775807 := by
  simpa [Lit.wf, IntKind.min, IntKind.max, IntKind.signed, IntKind.bits] using h
theorem in32 {x : Int} (h : (Lit.int .i32 x).wf = true) : -2147483648 ≤ x ∧ x ≤ 2147483647 := by
  simpa [Lit.wf, IntKind.min, IntKind.max, IntKind.signed, IntKind.bits] using h
theorem cell_wf {n : Nd} (h : AreInts kN n.cells) : (Lit.int .i64 n.b).wf = true ∧ (Lit.int .i64 n.k1).wf = true ∧ (Lit.int .i64 n.p3).wf = true ∧ (Lit.int .i64 n.za).wf = true ∧ (Lit.int .i64 n.zb).wf = true ∧ (Lit.int .i32 n.m2).wf = true ∧ (Lit.int .i64 n.w).wf = true ∧ (Lit.int .i64 n.bias).wf = true ∧ (Lit.int .i64 n.chans).wf = true ∧ (Lit.int .i64 n.h0).wf = true := by
  simp [kN, Nd.cells, AreInts] at h
  simp [h]
theorem bump_wf {n : Nd} (f : Nat) (h : AreInts kN n.cells) : AreInts kN (bump f n).cells := by
  unfold bump
  split <;> (simp [kN, Nd.cells, AreInts] at h ⊢; simp [h, wf_wrap])
theorem bump_ne {n : Nd} (f : Nat) (h : AreInts kN n.cells) : bump f n ≠ n := by
  obtain ⟨h0, h1, h2, h3, h4, h5, h6, h7, h8, h9⟩ := cell_wf h
  intro e
  unfold bump at e
  split at e
  · exact ne_up _ (in64 h0).1 (in64 h0).2 (congrArg Nd.b e)
  · exact ne_up _ (in64 h1).1 (in64 h1).2 (congrArg Nd.k1 e)
  · exact ne_up _ (in64 h2).1 (in64 h2).2 (congrArg Nd.p3 e)
  · exact ne_up _ (in64 h3).1 (in64 h3).2 (congrArg Nd.za e)
  · exact ne_dn _ (in64 h4).1 (in64 h4).2 (congrArg Nd.zb e)
  · exact ne_up32 _ (in32 h5).1 (in32 h5).2 (congrArg Nd.m2 e)
  · exact ne_up _ (in64 h6).1 (in64 h6).2 (congrArg Nd.w e)
  · exact ne_up _ (in64 h7).1 (in64 h7).2 (congrArg Nd.bias e)
  · exact ne_up _ (in64 h8).1 (in64 h8).2 (congrArg Nd.chans e)
  · exact ne_up _ (in64 h9).1 (in64 h9).2 (congrArg Nd.h0 e)
theorem one_up : IntKind.i64.wrap 1 = 1 := by decide
theorem bump_busy {n : Nd} (f : Nat) (hi : idleN n = true) (hf : hasL f n.op = false) : idleN (bump f n) = false := by
  have e1 : IntKind.i64.wrap 1 = 1 := by decide
  have e2 : IntKind.i64.wrap (-1) = -1 := by decide
  have e3 : IntKind.i32.wrap 1 = 1 := by decide
  unfold hasL at hf
  unfold bump
  unfold idleN at hi
  simp only [Bool.and_eq_true, Bool.or_eq_true] at hi
  obtain ⟨⟨⟨⟨⟨⟨⟨⟨⟨⟨⟨⟨⟨_, hb⟩, hw⟩, hp⟩, hza⟩, hzb⟩, _⟩, _⟩, hn⟩, _⟩, hww⟩, hii⟩, hc⟩, hs⟩ := hi
  split at hf
  · have hq : n.b = 0 := by simpa [hf] using hb
    simp [idleN, hf, hq, e1]
  · have hq : n.k1 = 0 := by rw [hf] at hw; simp at hw; simp [hw]
    simp [idleN, hf, hq, e1]
  · have hq : n.p3 = 0 := by rw [hf] at hp; simp at hp; simp [hp]
    simp [idleN, hf, hq, e1]
  · have hq : n.za = 0 := by simpa [hf] using hza
    simp [idleN, hf, hq, e1]
  · have hq : n.zb = 0 := by simpa [hf] using hzb
    simp [idleN, hf, hq, e2]
  · have hq : n.m2 = 0 := by rw [hf] at hn; simp at hn; simp [hn]
    simp [idleN, hf, hq, e3]
  · have hq : n.w = 0 := by simpa [hf] using hww
    simp [idleN, hf, hq, e1]
  · have hq : n.bias = 0 := by simpa [hf] using hii
    simp [idleN, hf, hq, e1]
  · have hq : n.chans = 0 := by simpa [hf] using hc
    simp [idleN, hf, hq, e1]
  · have hq : n.h0 = 0 := by rw [hf] at hs; simp at hs; simp [hs]
    simp [idleN, hf, hq, e1]
theorem shapes_nodes {C : List Cn} : ∀ (ns : List Nd) (l : List Sh), (shapesE C ns l).1 = 0 → ∀ n ∈ ns, 1 ≤ n.op ∧ n.op ≤ 14 ∧ idleN n = true
  | [], _, _ => by simp
  | n :: r, l, h0 => by
    rw [shapesE] at h0
    by_cases e : (nodeE C n l).1 ≠ 0
    · rw [if_pos e] at h0; exact absurd h0 e
    · rw [if_neg e] at h0
      obtain ⟨_, h1, h2, _, h3⟩ := nodeE_fit (C := C) (n := n) (l := l) (by simpa using e)
      intro m hm
      rcases List.mem_cons.1 hm with rfl | hm
      · exact ⟨h1, h2, h3⟩
      · exact shapes_nodes r _ h0 m hm
theorem graph_nodes {g : Gr} (h : (graphE g).1 = 0) : ∀ n ∈ g.ns, 1 ≤ n.op ∧ n.op ≤ 14 ∧ idleN n = true := by
  unfold graphE at h
  by_cases h1 : g.inp.fit ≠ 0
  · rw [if_pos h1] at h; exact absurd h h1
  · rw [if_neg h1] at h
    by_cases h2 : (shapesE g.C g.ns [g.inp]).1 ≠ 0
    · rw [if_pos h2] at h; exact absurd h h2
    · exact shapes_nodes g.ns _ (by simpa using h2)
/-- what InferIdle asks -/
theorem idle_law {g : Gr} {n : Nd} {i f : Nat} (h : (graphE g).1 = 0) (hn : g.ns[i]? = some n) : hasL f n.op = true ∨ (graphE { g with ns := g.ns.set i (bump f n) }).1 = 4 := by
  have hi := (List.getElem?_eq_some_iff.1 hn).1
  obtain ⟨h1, h2, h3⟩ := graph_nodes h n (List.mem_of_getElem? hn)
  cases hf : hasL f n.op with
  | true => exact Or.inl rfl
  | false => exact Or.inr (graph_busy h hi (by rw [bump_op]; exact h1) (by rw [bump_op]; exact h2) (bump_busy f h3 hf))
end Go.Proofs.Ytekdcfepfieleaa

namespace Go.Proofs.Ytekdcfepfieleaa
open Go Go.RowKit
set_option linter.unusedVariables false
set_option maxRecDepth 100000 in
theorem has_tab : ((List.range 14).all fun o => (List.range 10).all fun i => match runs Try.prog 60 9 [.int .i64 ((o : Int) + 1), .int .u8 (letB i)] with | some (.bool b) => b == hasL i ((o : Int) + 1) | _ => false) = true := by kernel_rfl
theorem has_doc (o : Int) (f : Nat) (h1 : 1 ≤ o) (h2 : o ≤ 14) (hf : f < 10) (w : World) : Calls Try.prog 9 #[.int .i64 o, .int .u8 (letB f)] w fun e w' => e = .returned (.bool (hasL f o)) ∧ Below w.heap.size w w' := by
  have h := List.all_eq_true.1 has_tab (o - 1).toNat (List.mem_range.2 (by omega))
  have h' := List.all_eq_true.1 h f (List.mem_range.2 hf)
  have e : (((o - 1).toNat : Nat) : Int) + 1 = o := by omega
  simp only [e] at h'
  split at h'
  · next b hb =>
    have hbe : b = hasL f o := by simpa using h'
    subst hbe
    exact calls_closed names_ok mixed_ok (n := 60) (args := [.int .i64 o, .int .u8 (letB f)]) hb (by kernel_rfl) rfl rfl w
  · cases h'
end Go.Proofs.Ytekdcfepfieleaa

namespace Go.Proofs.Ytekdcfepfieleaa
open Go Go.RowKit
set_option linter.unusedVariables false

theorem nd_oneW (n : Nd) : ∀ v ∈ n.cells, v.oneCell' = true := Nd.one n
theorem nds_there {w : World} {b c : Nat} {ns : List Nd} (h : NdsIn w (some ⟨b, 0, none⟩) ns c) (i : Nat) (hi : i < ns.length) : ∀ j, j < 26 → (w.cell? ⟨b, i * 26 + j, none⟩).isSome = true := by
  intro j hj
  obtain ⟨n, hn⟩ : ∃ n, ns[i]? = some n := ⟨_, List.getElem?_eq_getElem hi⟩
  obtain ⟨b', off', hbo, hlt, hrg⟩ := nds_range h i n hn
  injection hbo with hbo
  injection hbo with e1 e2 e3
  subst e1 e2
  have hr : j < n.cells.length := by rw [n.cells_len]; exact hj
  have := hrg j _ (List.getElem?_eq_getElem hr)
  rw [Nat.zero_add] at this
  rw [this]; rfl
theorem nds_store {P : Program} {w : World} {b c : Nat} {ns : List Nd} (h : NdsIn w (some ⟨b, 0, none⟩) ns c) (hf : ∀ j : Nat, w.frozen? ⟨b, j, none⟩ = false) (i : Nat) (hi : i < ns.length) (n : Nd) :
    (storeCells ⟨b, i * 26, none⟩ n.cells 0).run P w = .ok () (w.setCells b (i * 26) n.cells) := by
  have := run_storeCells_cells (P := P) b (i * 26) n.cells 0 w (fun j hj => by
    rw [n.cells_len] at hj
    rw [Nat.add_zero]
    exact nds_there h i hi j hj) (fun j hj => hf _) (Nd.one n)
  simpa using this
theorem nds_set {w : World} {b c : Nat} {ns : List Nd} (h : NdsIn w (some ⟨b, 0, none⟩) ns c) (i : Nat) (hi : i < ns.length) (n : Nd) (hw : AreInts kN n.cells) :
    NdsIn (w.setCells b (i * 26) n.cells) (some ⟨b, 0, none⟩) (ns.set i n) c := by
  have h0 := h
  obtain ⟨h1, h2, h3, ⟨h4, _⟩ | ⟨_, h4⟩ | ⟨b', off, hb, hlt, hc⟩⟩ := h
  · cases h4
  · rw [List.map_eq_nil_iff] at h4; subst h4; simp at hi
  · obtain ⟨rfl, rfl⟩ : b = b' ∧ off = 0 := by
      have e1 := congrArg (fun x : Option Addr => (x.getD ⟨0, 0, none⟩).block) hb
      have e2 := congrArg (fun x : Option Addr => (x.getD ⟨0, 0, none⟩).off) hb
      exact ⟨e1, e2.symm⟩
    clear hb
    refine ⟨by simpa using h1, h2, ?_, Or.inr (Or.inr ⟨b, 0, rfl, ?_, ?_⟩)⟩
    · intro x hx
      obtain ⟨m, hm, rfl⟩ := List.mem_map.1 hx
      rcases List.mem_or_eq_of_mem_set hm with hm | rfl
      · exact h3 _ (List.mem_map.2 ⟨m, hm, rfl⟩)
      · exact hw
    · exact Nat.lt_of_lt_of_le hlt (grown_setCells b n.cells w (i * 26)).size
    · intro k x hk j u hu
      rw [List.getElem?_map] at hk
      obtain ⟨m, hm, rfl⟩ := Option.map_eq_some_iff.1 hk
      have hj := (List.getElem?_eq_some_iff.1 hu).1
      rw [m.cells_len] at hj
      have hk26 : (kN.length : Nat) = 26 := rfl
      rw [hk26]
      by_cases e : k = i
      · subst e
        rw [List.getElem?_set_self hi] at hm
        obtain rfl := Option.some.inj hm
        rw [Nat.zero_add]
        have := World.cell?_setCells_in b n.cells (k * 26) w (fun j' hj' => by rw [n.cells_len] at hj'; exact nds_there h0 k hi j' hj') j (by rw [n.cells_len]; exact hj)
        rw [this]
        obtain ⟨hj2, hu2⟩ := List.getElem?_eq_some_iff.1 hu
        rw [← hu2]
      · rw [List.getElem?_set_ne (by omega)] at hm
        have h5 := hc k m.cells (by simp [hm]) j u hu
        rw [hk26] at h5
        rw [World.cell?_setCells_out b n.cells (i * 26) w ⟨b, 0 + k * 26 + j, none⟩ (by intro _ _; rw [n.cells_len]; show 0 + k * 26 + j < i * 26 ∨ i * 26 + 26 ≤ 0 + k * 26 + j; omega)]
        exact h5
theorem kpx_setCells {B b : Nat} {w' W : World} (h : KpX B b w' W) (o : Nat) (l : List Value) : KpX B b w' (W.setCells b o l) :=
  ⟨Nat.le_trans h.1 (grown_setCells b l W o).size, fun k hk hl hne => ((grown_setCells b l W o).block k (Nat.lt_of_lt_of_le hl h.1) (by intro e; exact hne (Option.some.inj e))).trans (h.2 k hk hl hne)⟩
theorem kpx_below {B b : Nat} {w' W W2 : World} (h : KpX B b w' W) (hb : Below W.heap.size W W2) : KpX B b w' W2 :=
  ⟨Nat.le_trans h.1 hb.size, fun k hk hl hne => (hb.block k (Nat.lt_of_lt_of_le hl h.1)).trans (h.2 k hk hl hne)⟩
end Go.Proofs.Ytekdcfepfieleaa
