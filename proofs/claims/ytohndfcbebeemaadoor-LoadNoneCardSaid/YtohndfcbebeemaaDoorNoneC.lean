/- Layer 10: Input of four bytes into the one image's machine, wherever; the walk. -/
import Derived.Test.YtohndfcbebeemaaDoorNoneB
import Derived.Test.YtohndfcbebeemaaDoorCpuA
import Derived.Deep.RegionHeld3
namespace Go.Proofs.YtohndfcbebeemaaDoor
open Go Go.RowKit
set_option linter.unusedVariables false
structure Has (B : Nat) (w W : World) (C M F R S : Nat) : Prop where
  c : W.cell? ⟨C, 0, none⟩ = some (.pointer (some ⟨M, 0, none⟩))
  m0 : W.cell? ⟨M, 0, none⟩ = some (.int .u32 4096)
  m2 : W.cell? ⟨M, 2, none⟩ = some (.int .u32 8192)
  m4 : W.cell? ⟨M, 4, none⟩ = some (.slice (some ⟨F, 0, none⟩) 64 64)
  m5 : W.cell? ⟨M, 5, none⟩ = some (.slice (some ⟨R, 0, none⟩) 64 64)
  f : ∃ cs, W.heap[F]? = some (.cells cs 5 (0, 0)) ∧ 64 ≤ cs.size
  r : ∃ cs, W.heap[R]? = some (.cells cs 5 (0, 0)) ∧ 64 ≤ cs.size
  s : ∀ j v, ([.int .u8 1, .int .u8 2, .int .u8 3, .int .u8 4] : List Value)[j]? = some v → W.cell? ((⟨S, 0, none⟩ : Addr).add j) = some v
  lf : B ≤ F
  lr : B ≤ R
  below : Below B w W
theorem keep {W W' : World} (hb : Below W.heap.size W W') {p : Addr} {v : Value} (h : W.cell? p = some v) : W'.cell? p = some v :=
  (hb.cell (World.block_lt_of_cell? W p h)).trans h
theorem Has.later {B : Nat} {w W W' : World} {C M F R S : Nat} (h : Has B w W C M F R S) (hb : Below W.heap.size W W') : Has B w W' C M F R S :=
  { c := keep hb h.c, m0 := keep hb h.m0, m2 := keep hb h.m2, m4 := keep hb h.m4, m5 := keep hb h.m5
    f := by obtain ⟨cs, h1, h2⟩ := h.f; exact ⟨cs, (hb.block _ (Array.getElem?_eq_some_iff.1 h1).1).trans h1, h2⟩
    r := by obtain ⟨cs, h1, h2⟩ := h.r; exact ⟨cs, (hb.block _ (Array.getElem?_eq_some_iff.1 h1).1).trans h1, h2⟩
    s := fun j v hj => keep hb (h.s j v hj)
    lf := h.lf, lr := h.lr
    below := h.below.trans (hb.mono (by obtain ⟨cs, h1, _⟩ := h.f; have := (Array.getElem?_eq_some_iff.1 h1).1; have := h.lf; omega)) }
theorem lies_cases (a : Nat) : (lies4 a = true ∧ 4096 ≤ a ∧ a ≤ 4156) ∨ (lies4 a = true ∧ 8192 ≤ a ∧ a ≤ 8252) ∨ (lies4 a = false ∧ a < 4096) ∨ (lies4 a = false ∧ 4156 < a ∧ a < 8192) ∨ (lies4 a = false ∧ 8252 < a) := by
  unfold lies4
  by_cases h1 : 4096 ≤ a ∧ a ≤ 4156
  · exact .inl ⟨by simp [h1], h1⟩
  · by_cases h2 : 8192 ≤ a ∧ a ≤ 8252
    · exact .inr (.inl ⟨by simp [h2], h2⟩)
    · have e : (decide (4096 ≤ a ∧ a ≤ 4156) || decide (8192 ≤ a ∧ a ≤ 8252)) = false := by rw [decide_eq_false h1, decide_eq_false h2]; rfl
      rw [e]
      have : a < 4096 ∨ (4156 < a ∧ a < 8192) ∨ 8252 < a := by omega
      rcases this with h | h | h
      · exact .inr (.inr (.inl ⟨rfl, h⟩))
      · exact .inr (.inr (.inr (.inl ⟨rfl, h⟩)))
      · exact .inr (.inr (.inr (.inr ⟨rfl, h⟩)))
theorem put_any {B : Nat} {w W : World} {C M F R S : Nat} (h : Has B w W C M F R S) (a : Nat) (ha : a < 4294967296) :
    Calls Tryd.prog 32 #[.pointer (some ⟨M, 0, none⟩), .int .u32 (a : Nat), .slice (some ⟨S, 0, none⟩) 4 4] W fun e w' => e = .returned (.bool (lies4 a)) ∧ Below B w w' := by
  obtain ⟨cf, hf, sf⟩ := h.f
  obtain ⟨cr, hr, sr⟩ := h.r
  rcases lies_cases a with ⟨e, h1, h2⟩ | ⟨e, h1, h2⟩ | ⟨e, h1⟩ | ⟨e, h1, h2⟩ | ⟨e, h1⟩
  · rw [e]
    exact put_yes M F (a - 4096) a S w W B h.below h.lf cf hf sf (by omega) _ h.s (within_first M F R a W h.m0 h.m4 _ (part_at F 4096 a (by omega) ha))
  · rw [e]
    exact put_yes M R (a - 8192) a S w W B h.below h.lr cr hr sr (by omega) _ h.s (within_second M F R a W h.m0 h.m2 h.m4 h.m5 (part_no F 4096 a (by omega) (by omega) ha) _ _ (part_at R 8192 a (by omega) ha))
  all_goals
    rw [e]
    exact (put_no M a S W (within_second M F R a W h.m0 h.m2 h.m4 h.m5 (part_no F 4096 a (by omega) (by omega) ha) _ _ (part_no R 8192 a (by omega) (by omega) ha))).mono fun e w' ⟨he, hl⟩ => ⟨he, hl.2 _ _ h.below⟩
def image4 (a : Nat) : Value := .agg #[.int .u32 0, .int .u32 0, .int .u32 0, .int .u32 0, .int .u32 0, .int .u32 0, .int .u32 0, .int .u32 0, .int .u32 0, .int .u32 0, .int .u64 0, .int .u32 (a : Nat), .int .u32 4, .int .u32 0, .int .u32 0, .slice none 0 0, .slice none 0 0]
set_option maxRecDepth 100000 in
set_option maxHeartbeats 1000000 in
theorem in_some {B : Nat} {w W : World} {C M F R S : Nat} (h : Has B w W C M F R S) (a : Nat) (ha : a < 4294967296) (b : Bool) (hb : lies4 a = b) (z : Int) (hz : z = if b then 0 else 6) :
    Calls Tryd.prog 21 #[.pointer (some ⟨C, 0, none⟩), .agg #[.int .u32 0, .int .u32 0, .int .u32 0, .int .u32 0, .int .u32 0, .int .u32 0, .int .u32 0, .int .u32 0, .int .u32 0, .int .u32 0, .int .u64 0, .int .u32 (a : Nat), .int .u32 4, .int .u32 0, .int .u32 0, .slice none 0 0, .slice none 0 0], .slice (some ⟨S, 0, none⟩) 4 4] W fun e w' => e = .returned (.int .i64 z) ∧ Below B w w' := by
  have HP := Lib.hid (fun W' (hW : Below W.heap.size W W') => hb ▸ put_any (h.later hW) a ha)
  have hc := h.c
  have hcz := World.block_lt_of_cell? W ⟨C, 0, none⟩ hc
  clear h hb
  go_enter Tryd.func21, Tryd.ntmps21
  go_wp2_with fail
  have hg0 : ∀ (cs : Array Value) (t : TypeId), (W.alloc (.cells cs t)).cell? ⟨C, 0, none⟩ = W.cell? ⟨C, 0, none⟩ := fun cs t => by simp [World.cell?_alloc_past, hcz]
  have g1 : ∀ cs t, (W.alloc (.cells cs t)).cell? ⟨C, 0, none⟩ = some (.pointer (some ⟨M, 0, none⟩)) := fun cs t => (hg0 cs t).trans hc
  have hg := Lib.hid (show ∀ (cs : Array Value) (t : TypeId), Below W.heap.size W (W.alloc (.cells cs t)) from fun cs t => by go_grown)
  generalize hW1 : W.alloc _ = W1
  have c1 : W1.cell? ⟨C, 0, none⟩ = some (.pointer (some ⟨M, 0, none⟩)) := by rw [← hW1]; exact g1 _ _
  have c2 : W1.cell? ⟨W.heap.size, 11, none⟩ = some (.int .u32 (a : Nat)) := by rw [← hW1, World.cell?_alloc_new]; rfl
  have hb1 := Lib.hid (show Below W.heap.size W W1 by rw [← hW1]; exact hg.out _ _)
  clear g1 hg hW1 hc hg0
  go_region_with ((first | (go_at_call 16; refine (mem_some C ⟨M, 0, none⟩ _ (by first | exact c1 | simpa using c1)).mono ?_; rintro e w2 ⟨rfl, rfl⟩) | (go_at_call 32; refine (HP.out _ (by first | exact hb1.out | exact hb1.out.drew)).mono ?_; rintro e w2 ⟨rfl, hB⟩)))
  all_goals cases b
  all_goals simp at hz
  all_goals subst hz
  all_goals go_wp2
  all_goals go_ret
  all_goals exact ⟨rfl, hB⟩
end Go.Proofs.YtohndfcbebeemaaDoor
