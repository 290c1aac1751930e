/- Contract of the law's own 'does': all variables behind plain steps, by the document's machine. -/
import Derived.Test.YtokomefopbcihaaRunD
import Derived.Test.YtokomefopbcihaaMachP
import Derived.Deep.MidRow
namespace Go.Proofs.Ytokomefopbcihaa
open Go Go.RowKit Pl
set_option linter.unusedVariables false

theorem zero136 : Try.zeroCells136.size = 68 ∧ Try.zeroCells136[65]? = some (.int .i64 0) ∧ Try.zeroCells136[67]? = some (.int .i64 0) := by
  refine ⟨by kernel_rfl, by kernel_rfl, by kernel_rfl⟩
theorem below4 (w : World) (a b c d : Obj) : Below w.heap.size w ((((w.alloc a).alloc b).alloc c).alloc d) :=
  ((((Below.refl _ _).alloc (Nat.le_refl _) _).alloc (by simp) _).alloc (by simp <;> omega) _).alloc (by simp <;> omega) _
theorem heap4_1 (w : World) (a b c d : Obj) : ((((w.alloc a).alloc b).alloc c).alloc d).heap[w.heap.size + 1]? = some b := by
  rw [heap_alloc_old _ _ (by simp <;> omega), heap_alloc_old _ _ (by simp)]
  have := heap_alloc_new (w.alloc a) b
  simpa using this
theorem mach_new {f : Nat → Int} {B : Nat} (w : World) (MA : Array Value) (hB : w.heap.size = B) (h : MA.size = 68 ∧ (∀ k, k < 64 → MA[1 + k]? = some (.int .u32 (f k))) ∧ MA[65]? = some (.int .i64 0) ∧ MA[66]? = some (.int .i64 1000) ∧ MA[67]? = some (.int .i64 0)) : Mach B f 0 (w.alloc (.cells MA 136)) := by
  subst hB
  obtain ⟨h0, h1, h2, h3, h4⟩ := h
  refine ⟨fun k hk => ?_, ?_, ?_, ?_, fun k hk => ?_, by simp⟩
  · rw [World.cell?_alloc_new]; exact h1 k hk
  · rw [World.cell?_alloc_new]; exact h2
  · rw [World.cell?_alloc_new]; exact h3
  · rw [World.cell?_alloc_new]; exact h4
  · simp
set_option maxRecDepth 100000 in
set_option maxHeartbeats 4000000 in
theorem does_law (f : Nat → Int) (b0 off c : Nat) (l : List Q5) (w : World) (hl : L5 w (some ⟨b0, off, none⟩) l) (hn : l.length ≤ 100) (hb0 : b0 < w.heap.size) (hx : ∀ x ∈ l, OkF x) (hf : WordsF f) :
    Calls Try.prog 36 #[.slice (some ⟨b0, off, none⟩) l.length c, .agg (cellsF f).toArray] w fun e w' => e = .returned (.agg (cellsF (runF l f)).toArray) ∧ Below w.heap.size w w' := by
  obtain ⟨vs, hvs⟩ : ∃ vs : Array Value, (cellsF f).toArray = vs := ⟨_, rfl⟩
  have hsz : vs.size = 64 := by rw [← hvs]; simp [cellsF_len]
  have hat : ∀ k, k < 64 → vs[k]? = some (.int .u32 (f k)) := fun k hk => by rw [← hvs]; simpa using cellsF_at f hk
  rw [hvs]
  clear hvs
  have LAY := Lib.hid (fun p => lay_arr 1 vs (Try.zeroCells136.setIfInBounds 0 p) (by rw [hsz]; simp [zero136.1]))
  have FS : ∀ p, (Array.foldl (fun cs (x : Value × Nat) => cs.setIfInBounds (1 + x.2) x.1) (Try.zeroCells136.setIfInBounds 0 p) vs.zipIdx 0 64).size = 68 := by
    intro p
    have h := (LAY.out p).1
    rw [hsz] at h
    rw [h]; simp [zero136.1]
  have Z68 := zero136.1
  have HSZ := Lib.hid (show (Try.prog.info? 75).map (·.size) = some vs.size by rw [hsz]; kernel_rfl)
  have HV := Lib.hid (show ∀ (c1 c2 : Obj), (((w.alloc (.cells vs 75)).alloc c1).alloc c2).heap[w.heap.size]? = some (.cells vs 75 (0, 0)) from fun c1 c2 => by
    rw [heap_alloc_old _ _ (by simp <;> omega), heap_alloc_old _ _ (by simp), heap_alloc_new])
  have HAT := Lib.hid hat
  have HL := Lib.hid hl
  have HX := Lib.hid hx
  have HF := Lib.hid hf
  clear hat hl hx hf
  go_enter Try.func36, Try.ntmps36
  go_wp2_with (refine wpList_load_row rfl 75 (.tmp 3) rfl w.heap.size rfl 75 vs (0, 0) _ (HV.out _ _) Try.underlying75 rfl HSZ.out ?_)
  clear FS Z68
  generalize hMA : Array.setIfInBounds (Array.foldl _ _ _ _ _) 66 _ = MA
  have hma : MA.size = 68 ∧ (∀ k, k < 64 → MA[1 + k]? = some (.int .u32 (f k))) ∧ MA[65]? = some (.int .i64 0) ∧ MA[66]? = some (.int .i64 1000) ∧ MA[67]? = some (.int .i64 0) := by
    rw [← hMA]
    obtain ⟨h1, h2, h3⟩ := LAY.out (.pointer (some ⟨w.heap.size + 1 + 1, 0, none⟩))
    rw [hsz] at h1 h2 h3
    have hz := zero136
    have hs : (Array.foldl (fun cs (x : Value × Nat) => cs.setIfInBounds (1 + x.2) x.1) (Try.zeroCells136.setIfInBounds 0 (.pointer (some ⟨w.heap.size + 1 + 1, 0, none⟩))) vs.zipIdx 0 64).size = 68 := by rw [h1]; simp [hz.1]
    refine ⟨by simp [hs], fun k hk => ?_, ?_, ?_, ?_⟩
    · rw [Array.getElem?_setIfInBounds, if_neg (by omega), h2 k hk]; exact HAT.out k hk
    · rw [Array.getElem?_setIfInBounds, if_neg (by omega), h3 65 (by omega), Array.getElem?_setIfInBounds, if_neg (by omega)]; exact hz.2.1
    · rw [Array.getElem?_setIfInBounds, if_pos rfl, if_pos (by rw [hs]; omega)]
    · rw [Array.getElem?_setIfInBounds, if_neg (by omega), h3 67 (by omega), Array.getElem?_setIfInBounds, if_neg (by omega)]; exact hz.2.2
  clear hMA LAY
  refine (does_any (w.heap.size + 1 + 1 + 1) f b0 off c l _ (L5.later HL.out (below4 _ _ _ _ _)) hn (by omega) HX.out (mach_new _ MA (by simp) hma) HF.out).mono ?_
  rintro e w5 ⟨rfl, hm5, hg5⟩
  have RB := Lib.hid (And.intro (show w.heap.size + 1 < w5.heap.size by have := hg5.size; simp at this; omega) ((hg5.block (w.heap.size + 1) (by simp <;> omega) (by simp)).trans (heap4_1 _ _ _ _ _)))
  have BW := Lib.hid (show Below w.heap.size w w5 from (below4 w _ _ _ _).trans ⟨hg5.os, hg5.tape, hg5.output, hg5.size, fun i hi => hg5.block i (by simp <;> omega) (by intro e; cases e; omega)⟩)
  have RG := Lib.hid (show w5.rangeAt (w.heap.size + 1 + 1 + 1) 1 (cellsF (runF l f)) from fun j v hj => by
    obtain ⟨hjl, _⟩ := List.getElem?_eq_some_iff.1 hj
    rw [cellsF_len] at hjl
    rw [cellsF_at _ hjl] at hj
    cases hj
    exact hm5.v j hjl)
  have SZ2 := Lib.hid (show (Try.prog.info? 75).map (·.size) = some (cellsF (runF l f)).length by rw [cellsF_len]; kernel_rfl)
  clear hm5 hg5
  have E64 := Lib.hid (show 64 = (cellsF (runF l f)).toArray.size by simp [cellsF_len])
  have SZ3 := Lib.hid (show (Try.prog.info? 75).map (·.size) = some (cellsF (runF l f)).toArray.size by rw [← E64.out]; kernel_rfl)
  have ONE := Lib.hid (show (cellsF (runF l f)).toArray.all (·.oneCell') = true from all_oneCell_toArray (fun v hv => by
    unfold cellsF at hv
    obtain ⟨k, _, rfl⟩ := List.mem_map.1 hv
    rfl))
  have END := Lib.hid (show Below w.heap.size w (w5.setRow (w.heap.size + 1) (cellsF (runF l f)).toArray) from ⟨BW.out.os, BW.out.tape, BW.out.output, by have := BW.out.size; simp [World.setRow]; omega, fun i hi => (setRow_other _ _ _ _ (by omega)).trans (BW.out.block i hi)⟩)
  have HR := Lib.hid (setRow_heap w5 (w.heap.size + 1) _ (cellsF (runF l f)).toArray _ _ RB.out.2)
  obtain ⟨cs, hcs⟩ : ∃ cs, cellsF (runF l f) = cs := ⟨_, rfl⟩
  rw [hcs] at RG SZ2 E64 SZ3 ONE END HR
  have HCS := Lib.hid hcs
  clear hsz HSZ hma hcs
  go_wp2_with (first | (refine wpList_load_mid rfl 75 (.tmp 18) rfl (w.heap.size + 1 + 1 + 1) 1 rfl cs _ RG.out Try.underlying75 rfl SZ2.out ?_) | (refine wpList_store_row rfl 75 (.tmp 4) (.tmp 19) rfl (w.heap.size + 1) cs.toArray rfl rfl 75 _ RB.out.2 SZ3.out E64.out ONE.out ?_))
  exact bodyPost_ret (v := .agg cs.toArray) (results_cell_row Try.results36 _ _ (w.heap.size + 1) 75 cs.toArray (0, 0) _ rfl HR.out Try.underlying75 rfl SZ3.out) rfl ⟨by rw [HCS.out], END.out⟩
end Go.Proofs.Ytokomefopbcihaa
