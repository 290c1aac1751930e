/- Contracts of the tidier's put. -/
import Derived.Test.YtlieapapmkbbgaaPeep
import Derived.Deep.RegionHeld3
import Derived.Deep.AppendLies
import Derived.Deep.RegionLaw
import Derived.Great.Walk
import Derived.OneCell
namespace Go.Proofs.Ytlieapapmkbbgaa
open Go Go.RowKit
set_option linter.unusedVariables false

theorem info_lopP : (Try.prog.info? 46).map (fun i => (i.zero, i.size, i.bytes)) = some (some (.agg #[.int .i64 0, .int .i64 0, .int .i64 0, .int .i64 0, .int .i32 0]), 5, 40) := by kernel_rfl
def PutPost (T B b0 n : Nat) (xs : List Value) (x : Q5) (w : World) (e : Ending) (w' : World) : Prop := e = .returned (.tuple #[]) ∧ ∃ g cap, w'.cell? ⟨T, 0, none⟩ = some (.slice (some ⟨g, 0, none⟩) (n + 1) cap) ∧ w'.frozen? ⟨T, 0, none⟩ = false ∧
  w'.ownsRow B 46 5 (.slice (some ⟨g, 0, none⟩) (n + 1) cap) (n + 1) (xs ++ x.cells) ∧ g ≠ T ∧ Below b0 w w'
theorem put_done {T B b0 n gg cap N : Nat} {v0 rv : Value} {xs : List Value} {x : Q5} {w W w2 : World} (hbT : b0 ≤ T) (hbB : b0 ≤ B) (hBW : B ≤ W.heap.size) (hBe : Below b0 w W)
    (hown : w2.ownsRow B 46 5 (.slice (some ⟨gg, 0, none⟩) (n + 1) cap) (n + 1) (xs ++ x.cells)) (hg : W.grownBy w2 rv.ownBlock) (hv : ∀ k, rv.ownBlock = some k → B ≤ k) (hat : rv.ownBlock = some gg ∨ gg = N) (hne : rv.ownBlock ≠ some T) (hN : T < N)
    (t0 : w2.cell? ⟨T, 0, none⟩ = some v0) (t1 : w2.frozen? ⟨T, 0, none⟩ = false) : PutPost T B b0 n xs x w (.returned (.tuple #[])) (w2.setCell ⟨T, 0, none⟩ (.slice (some ⟨gg, 0, none⟩) (n + 1) cap)) := by
  have hgT : gg ≠ T := by
    rintro rfl
    rcases hat with h | h
    · exact hne h
    · omega
  refine ⟨rfl, gg, cap, by apply World.cell?_setCell_same; exact t0, by rw [World.frozen?_setCell]; exact t1, ownsRow_setCell_other hown (by simp [Value.ownBlock]; exact hgT) _, hgT, ?_⟩
  exact (hBe.grown hg (by omega) (fun k hk => Nat.le_trans hbB (hv k hk))).setCell hbT _
set_option maxRecDepth 100000 in
set_option maxHeartbeats 2000000 in
theorem put_append (T B b0 : Nat) (a0 : Option Addr) (c0 : Nat) (o d a b i : Int) (w : World) (hT : T < w.heap.size) (hb0 : b0 ≤ T) (hbB : b0 ≤ B) (hB : B ≤ w.heap.size)
    (cT : w.cell? ⟨T, 0, none⟩ = some (.slice a0 0 c0)) (fT : w.frozen? ⟨T, 0, none⟩ = false) (own : w.ownsRow B 46 5 (.slice a0 0 c0) 0 []) (hne : (Value.slice a0 0 c0).ownBlock ≠ some T) (hi : idleS ⟨o, d, a, b, i⟩ = false) :
    Calls Try.prog 16 #[.pointer (some ⟨T, 0, none⟩), .agg #[.int .i64 o, .int .i64 d, .int .i64 a, .int .i64 b, .int .i32 i]] w (PutPost T B b0 0 [] ⟨o, d, a, b, i⟩ w) := by
  obtain ⟨i0, hi0, hz0, hz1, hz2⟩ := info_parts info_lopP
  have IA := Lib.hid (idle_any o d a b i)
  have IS := Lib.hid hi
  have OW := Lib.hid own
  have VL := Lib.hid own.lt
  clear hi own
  go_enter Try.func16, Try.ntmps16
  go_wp2_with fail
  refine (IA.out _).mono ?_
  rw [IS.out]
  rintro e w1 ⟨rfl, hb⟩
  have hs := hb.size
  simp at hs
  have hS : w1.cell? ⟨T, 0, none⟩ = some (.slice a0 0 c0) ∧ w1.frozen? ⟨T, 0, none⟩ = false ∧ w1.cell? ⟨w.heap.size, 0, none⟩ = some (.int .i64 o) ∧ w1.cell? ⟨w.heap.size, 1, none⟩ = some (.int .i64 d) ∧ w1.cell? ⟨w.heap.size, 2, none⟩ = some (.int .i64 a) ∧ w1.cell? ⟨w.heap.size, 3, none⟩ = some (.int .i64 b) ∧ w1.cell? ⟨w.heap.size, 4, none⟩ = some (.int .i32 i) ∧ w.heap.size < w1.heap.size := by
    have hbox : ∀ j v, (Q5.arr ⟨o, d, a, b, i⟩)[j]? = some v → w1.cell? ⟨w.heap.size, j, none⟩ = some v := (boxed hb).1
    exact ⟨(hb.cell (p := ⟨T, 0, none⟩) (by simp; omega)).trans ((World.cell?_alloc_past _ _ _ hT).trans cT), (hb.frozen (p := ⟨T, 0, none⟩) (by simp; omega)).trans ((((Below.refl w.heap.size w).alloc (Nat.le_refl _) _).frozen (p := ⟨T, 0, none⟩) hT).trans fT), hbox 0 _ rfl, hbox 1 _ rfl, hbox 2 _ rfl, hbox 3 _ rfl, hbox 4 _ rfl, by omega⟩
  have O1 := Lib.hid (own_later (OW.out.alloc (.cells #[.int .i64 o, .int .i64 d, .int .i64 a, .int .i64 b, .int .i32 i] 46)) hb)
  have HB1 := Lib.hid (show Below b0 w w1 from ((Below.refl b0 w).alloc (by omega) _).trans (hb.mono (by simp; omega)))
  clear hb cT fT
  have nb : some w.heap.size ≠ (Value.slice a0 0 c0).ownBlock := fun e => by have := (VL.out w.heap.size e.symm).2; omega
  go_wp2_with fail
  obtain ⟨k0, k1, k2, k3, k4, k5, k6, k7⟩ := hS
  have hT1 : T < w1.heap.size := by omega
  have hT2 : T ≤ w1.heap.size := by omega
  have hT3 : w.heap.size ≤ w1.heap.size := by omega
  go_region_law ((first | (refine step_append_lies _ (by rfl) _ _ _ (by rfl) B 46 i0 _ 5 40 Try.underlying22 hi0 hz0 hz1 hz2 rfl (by omega) (.slice a0 0 c0) 0 [] (by rfl) ((O1.out.alloc _).drew) ⟨w1.heap.size, 0, none⟩ 1 1 (Q5.cells ⟨o, d, a, b, i⟩) (by rfl) (by rfl) (World.news_of_block (cs := Q5.arr ⟨o, d, a, b, i⟩) (t := 46) (fr := (0, 0)) (heap_alloc_new w1 _)) (by simp [Q5.cells, Value.oneCell']) (by omega) (by decide) (by decide) (by simp; omega) (w1.heap.size + 1) (by simp) ?_; intro gg cap w2 hown hgrow hat hlt; have t0 := hgrow.cell ((World.cell?_alloc_past _ _ _ (by omega)).trans k0) (Ne.symm hne); have t1 := (World.frozen?_of_block (hgrow.block T (by simp; omega) (Ne.symm hne))).trans ((((Below.refl w1.heap.size w1).alloc (Nat.le_refl _) _).frozen (p := ⟨T, 0, none⟩) (by show T < _; omega)).trans k1)) | (refine step_append_lies _ (by rfl) _ _ _ (by rfl) B 46 i0 _ 5 40 Try.underlying22 hi0 hz0 hz1 hz2 rfl (by omega) (.slice a0 0 c0) 0 [] (by rfl) (O1.out.alloc _) ⟨w1.heap.size, 0, none⟩ 1 1 (Q5.cells ⟨o, d, a, b, i⟩) (by rfl) (by rfl) (World.news_of_block (cs := Q5.arr ⟨o, d, a, b, i⟩) (t := 46) (fr := (0, 0)) (heap_alloc_new w1 _)) (by simp [Q5.cells, Value.oneCell']) (by omega) (by decide) (by decide) (by simp; omega) (w1.heap.size + 1) (by simp) ?_; intro gg cap w2 hown hgrow hat hlt; have t0 := hgrow.cell ((World.cell?_alloc_past _ _ _ (by omega)).trans k0) (Ne.symm hne); have t1 := (World.frozen?_of_block (hgrow.block T (by simp; omega) (Ne.symm hne))).trans ((((Below.refl w1.heap.size w1).alloc (Nat.le_refl _) _).frozen (p := ⟨T, 0, none⟩) (by show T < _; omega)).trans k1))))
  all_goals
    refine Go.Great.bodyPost_end0 (by rfl) (by rfl) ?_
    refine put_done (rv := .slice a0 0 c0) (N := w1.heap.size + 1) hb0 hbB ?_ ?_ hown hgrow (fun k hk => (VL.out k hk).1) hat hne (by omega) t0 t1
    · simp; omega
    · first | exact (HB1.out.alloc (by omega) _).drew | exact HB1.out.alloc (by omega) _
end Go.Proofs.Ytlieapapmkbbgaa
