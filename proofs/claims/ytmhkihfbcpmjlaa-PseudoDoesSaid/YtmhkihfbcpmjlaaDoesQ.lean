/- What the instructions of Set and Add make of registers; Does and can of no instructions. -/
import Derived.Test.YtmhkihfbcpmjlaaOth
import Derived.Test.YtmhkihfbcpmjlaaPseudoCd
namespace Go.Proofs.Ytmhkihfbcpmjlaa
open Go Go.RowKit Pl
set_option linter.unusedVariables false

theorem low_eq (n : Int) : lowS n = (n + 2048) % 4096 - 2048 := by unfold lowS wrap32; omega
theorem set_does {f : Int → Int} {rd n : Int} (h0 : f 0 = 0) (hr : 1 ≤ rd ∧ rd < 32) (k : Int) : doesD f (setS rd n) k = if k = rd then n % 4294967296 else f k := by
  have hd : rd ≠ 0 := by omega
  by_cases hs : -2048 ≤ n ∧ n ≤ 2047
  · rw [set_short hr hs, does_one _ h0 hd]
    show (if k = rd then (f 0 + n) % 4294967296 else f k) = _
    rw [h0, Int.zero_add]
  · cases hl : (lowS n != 0)
    · have hz : lowS n = 0 := by simpa using hl
      rw [set_one hr (by omega) hl, does_one _ h0 hd]
      show (if k = rd then wrap32 (n - lowS n) % 4294967296 else f k) = _
      rw [hz]
      unfold wrap32
      congr 1
      omega
    · rw [set_two hr (by omega) hl, does_two rd _ _ k h0 hd]
      congr 1
      unfold wrap32
      omega
theorem set_ok {rd n : Int} (hr : 1 ≤ rd ∧ rd < 32) (hn : -2147483648 ≤ n ∧ n ≤ 2147483647) : ∀ x ∈ setS rd n, Okd x := by
  have hlow := low_eq n
  have hw : wrap32 (n - lowS n) % 4096 = 0 ∧ -2147483648 ≤ wrap32 (n - lowS n) ∧ wrap32 (n - lowS n) ≤ 2147483647 := by unfold wrap32; omega
  intro x hx
  by_cases hs : -2048 ≤ n ∧ n ≤ 2047
  · rw [set_short hr hs] at hx
    obtain rfl := List.mem_singleton.1 hx
    exact ⟨by simp, by simp only; omega, by simp, by simp, by simp only; omega, by simp only; omega, can_addi (by omega) (by omega) hs⟩
  · cases hl : (lowS n != 0)
    · rw [set_one hr (by omega) hl] at hx
      obtain rfl := List.mem_singleton.1 hx
      exact ⟨by simp, by simp only; omega, by simp, by simp, hw.2.1, hw.2.2, can_lui (by omega) hw.1 hw.2.1 hw.2.2⟩
    · rw [set_two hr (by omega) hl] at hx
      rcases List.mem_cons.1 hx with rfl | hx
      · exact ⟨by simp, by simp only; omega, by simp, by simp, hw.2.1, hw.2.2, can_lui (by omega) hw.1 hw.2.1 hw.2.2⟩
      · obtain rfl := List.mem_singleton.1 hx
        exact ⟨by simp, by simp only; omega, by simp only; omega, by simp, by simp only; omega, by simp only; omega, can_addi (by omega) (by omega) (by omega)⟩
theorem add_does {f : Int → Int} {rd rs n b : Int} (h0 : f 0 = 0) (hf : Words f) (hr : 1 ≤ rd ∧ rd < 32) (hs : 0 ≤ rs ∧ rs < 32) (hb : 1 ≤ b ∧ b < 32) (hbs : b ≠ rs) :
    doesD f (addS rd rs n b) rd = (f rs + n) % 4294967296 ∧ ∀ k, k ≠ rd → k ≠ b → doesD f (addS rd rs n b) k = f k := by
  have hd : rd ≠ 0 := by omega
  by_cases hz : n = 0 ∧ rd = rs
  · rw [add_no (by omega)]
    obtain ⟨rfl, rfl⟩ := hz
    have := hf rd
    refine ⟨?_, fun k _ _ => rfl⟩
    show f rd = _
    omega
  · have hg : 1 ≤ rd ∧ rd < 32 ∧ 0 ≤ rs ∧ rs < 32 ∧ 1 ≤ b ∧ b < 32 ∧ b ≠ rs ∧ ¬ (n = 0 ∧ rd = rs) := ⟨hr.1, hr.2, hs.1, hs.2, hb.1, hb.2, hbs, hz⟩
    by_cases hn : -2048 ≤ n ∧ n ≤ 2047
    · rw [add_short hg hn]
      refine ⟨?_, fun k h1 _ => ?_⟩
      · rw [does_one _ h0 hd, if_pos rfl]; rfl
      · rw [does_one _ h0 hd, if_neg h1]
    · rw [add_long hg hn]
      have e := fun k => set_does (f := f) (rd := b) (n := n) h0 hb k
      have z : doesD f (setS b n) 0 = 0 := by rw [e, if_neg (by omega)]; exact h0
      refine ⟨?_, fun k h1 h2 => ?_⟩
      · rw [does_last (g := doesD f (setS b n)) _ rfl rd rs b rd z hd, if_pos rfl, e, e, if_neg (by omega), if_pos rfl]; omega
      · rw [does_last (g := doesD f (setS b n)) _ rfl rd rs b k z hd, if_neg h1, e, if_neg h2]
theorem add_ok {rd rs n b : Int} (hr : 1 ≤ rd ∧ rd < 32) (hs : 0 ≤ rs ∧ rs < 32) (hb : 1 ≤ b ∧ b < 32) (hn : -2147483648 ≤ n ∧ n ≤ 2147483647) : ∀ x ∈ addS rd rs n b, Okd x := by
  intro x hx
  by_cases hg : 1 ≤ rd ∧ rd < 32 ∧ 0 ≤ rs ∧ rs < 32 ∧ 1 ≤ b ∧ b < 32 ∧ b ≠ rs ∧ ¬ (n = 0 ∧ rd = rs)
  · by_cases hs' : -2048 ≤ n ∧ n ≤ 2047
    · rw [add_short hg hs'] at hx
      obtain rfl := List.mem_singleton.1 hx
      exact ⟨by simp, by simp only; omega, by simp only; omega, by simp, by simp only; omega, by simp only; omega, can_addi (by omega) (by omega) hs'⟩
    · rw [add_long hg hs'] at hx
      rcases List.mem_append.1 hx with h | h
      · exact set_ok hb hn x h
      · obtain rfl := List.mem_singleton.1 h
        exact ⟨by simp, by simp only; omega, by simp only; omega, by simp only; omega, by simp, by simp, can_add (by omega) (by omega) (by omega)⟩
  · rw [add_no hg] at hx; cases hx
theorem own_some {w : World} {base : Nat} {v : Value} {l : List Q5} (h : OwnIns w base v l) (hl : l.length ≤ 3) (h1 : 1 ≤ l.length) :
    ∃ g c, v = .slice (some ⟨g, 0, none⟩) l.length c ∧ L5 w (some ⟨g, 0, none⟩) l ∧ g < w.heap.size := by
  unfold OwnIns at h
  have hlt := h.lt
  have h' := h
  obtain ⟨_, ⟨hv, hn⟩ | ⟨g, cap, cur, hv, hg, hh, hc, hcm, _⟩⟩ := h
  · omega
  · refine ⟨g, cap, hv, l5_mk (by omega) (hlt g (by rw [hv]; rfl)).2 ?_, (hlt g (by rw [hv]; rfl)).2⟩
    intro j u hj
    have := h'.cells (g := g) (by rw [hv]; rfl) j u hj
    rw [add_at] at this
    exact this
theorem own_none {w : World} {base : Nat} {v : Value} (h : OwnIns w base v []) : ∃ a c, v = .slice a 0 c := by
  obtain ⟨_, ⟨hv, hn⟩ | ⟨g, cap, cur, hv, hg, hh, hc, hcm, _⟩⟩ := h
  · exact ⟨none, 0, hv⟩
  · exact ⟨_, cap, hv⟩
set_option maxHeartbeats 1000000 in
theorem can_nil (a : Option Addr) (c : Nat) (w : World) : Calls Try.prog 7 #[.slice a 0 c] w fun e w' => e = .returned (.bool true) ∧ Below w.heap.size w w' := by
  go_enter Try.func7, Try.ntmps7
  go_wp2_with fail
  go_loopw [3] (fun i wr => i = .int .i64 0 ∧ wr = w) (fun i _ => 0)
  case atStart => exact ⟨rfl, rfl⟩
  case round =>
    obtain ⟨rfl, rfl⟩ := hrel
    go_wp2_with fail
    go_ret
    exact ⟨rfl, Below.refl _ _⟩
set_option maxRecDepth 100000 in
set_option maxHeartbeats 4000000 in
theorem does_nil (f : Int → Int) (a : Option Addr) (c : Nat) (w : World) :
    Calls Try.prog 5 #[.agg (cellsR f).toArray, .slice a 0 c] w fun e w' => e = .returned (.agg (cellsR (f)).toArray) ∧ Below w.heap.size w w' := by
  obtain ⟨vs, hvs⟩ : ∃ vs : Array Value, (cellsR f).toArray = vs := ⟨_, rfl⟩
  have hsz : vs.size = 32 := by rw [← hvs]; simp [cellsR_len]
  have hat : ∀ k, k < 32 → vs[k]? = some (.int .u32 (f (k : Int))) := fun k hk => by rw [← hvs]; simpa using cellsR_at f hk
  rw [hvs]
  have HVS := Lib.hid hvs
  clear hvs
  have HSZ := Lib.hid (show (Try.prog.info? 24).map (·.size) = some vs.size by rw [hsz]; exact zeroM)
  have HV := Lib.hid (show ∀ (c1 : Obj), ((w.alloc (.cells vs 24)).alloc c1).heap[w.heap.size]? = some (.cells vs 24 (0, 0)) from fun c1 => by
    rw [heap_alloc_old _ _ (by simp), heap_alloc_new])
  have HAT := Lib.hid hat
  clear hat
  go_enter Try.func5, Try.ntmps5
  go_wp2_with (refine wpList_load_row rfl 24 (.tmp 2) rfl w.heap.size rfl 24 vs (0, 0) _ (HV.out _) Try.underlying24 rfl HSZ.out ?_)
  have LAY := Lib.hid (fun z h => lay_arr 2 vs z h)
  generalize hMA : Array.foldl _ _ _ _ _ = MA
  have hma : MA.size = 34 ∧ ∀ k, k < 32 → MA[2 + k]? = some (.int .u32 (f (k : Int))) := by
    rw [← hMA]
    have h := LAY.out #[.pointer none, .int .u32 0, .int .u32 0, .int .u32 0, .int .u32 0, .int .u32 0, .int .u32 0, .int .u32 0, .int .u32 0, .int .u32 0, .int .u32 0, .int .u32 0, .int .u32 0, .int .u32 0, .int .u32 0, .int .u32 0, .int .u32 0, .int .u32 0, .int .u32 0, .int .u32 0, .int .u32 0, .int .u32 0, .int .u32 0, .int .u32 0, .int .u32 0, .int .u32 0, .int .u32 0, .int .u32 0, .int .u32 0, .int .u32 0, .int .u32 0, .int .u32 0, .int .u32 0, .int .u32 0] (by rw [hsz]; decide)
    rw [hsz] at h
    exact ⟨h.1, fun k hk => by rw [h.2.1 k hk]; exact HAT.out k hk⟩
  clear hMA
  have M0 := Lib.hid (machR_new (f := f) _ (w.heap.size + 1 + 1) MA 41 (by simp) hma.1 hma.2 : MachR _ f (((w.alloc (.cells vs 24)).alloc (.cells zs32 24)).alloc (.cells MA 41)))
  have B0 := Lib.hid (below3 w (.cells vs 24) (.cells zs32 24) (.cells MA 41))
  have R0 := Lib.hid (heap3_1 w (.cells vs 24) (.cells zs32 24) (.cells MA 41))
  have E0 : World.alloc (World.alloc (World.alloc w (.cells vs 24)) (.cells #[.int .u32 0, .int .u32 0, .int .u32 0, .int .u32 0, .int .u32 0, .int .u32 0, .int .u32 0, .int .u32 0, .int .u32 0, .int .u32 0, .int .u32 0, .int .u32 0, .int .u32 0, .int .u32 0, .int .u32 0, .int .u32 0, .int .u32 0, .int .u32 0, .int .u32 0, .int .u32 0, .int .u32 0, .int .u32 0, .int .u32 0, .int .u32 0, .int .u32 0, .int .u32 0, .int .u32 0, .int .u32 0, .int .u32 0, .int .u32 0, .int .u32 0, .int .u32 0] 24)) (.cells MA 41) = ((w.alloc (.cells vs 24)).alloc (.cells zs32 24)).alloc (.cells MA 41) := rfl
  rw [E0]
  clear E0
  generalize World.alloc (World.alloc (World.alloc w _) _) _ = W0 at *
  have ltB := M0.out.lt
  have INI := Lib.hid (World.grownBy.refl W0 (some (w.heap.size + 1 + 1)))
  clear hma
  go_loopw [6] (fun i wr => i = .int .i64 0 ∧ MachR (w.heap.size + 1 + 1) f wr ∧ W0.grownBy wr (some (w.heap.size + 1 + 1))) (fun i _ => 0)
  case atStart => exact ⟨rfl, M0.out, INI.out⟩
  case round =>
    obtain ⟨rfl, hm, hg⟩ := hrel
    have lb := hm.lt
    have BW := Lib.hid (show Below w.heap.size w wr from B0.out.trans ⟨hg.os, hg.tape, hg.output, hg.size, fun i hi => hg.block i (by omega) (by intro e; cases e; omega)⟩)
    have RB := Lib.hid ((hg.block (w.heap.size + 1) (by omega) (by simp)).trans R0.out)
    have RG := Lib.hid (show wr.rangeAt (w.heap.size + 1 + 1) 2 (cellsR (f)) from fun j v hj => by
      obtain ⟨hjl, _⟩ := List.getElem?_eq_some_iff.1 hj
      rw [cellsR_len] at hjl
      rw [cellsR_at _ hjl] at hj
      cases hj
      exact hm.v j hjl)
    have SZ2 := Lib.hid (show (Try.prog.info? 24).map (·.size) = some (cellsR (f)).length by rw [cellsR_len]; exact zeroM)
    have E32 := Lib.hid (show zs32.size = (cellsR (f)).toArray.size by simp [cellsR_len, zs32])
    have SZ3 := Lib.hid (show (Try.prog.info? 24).map (·.size) = some (cellsR (f)).toArray.size by simp only [List.size_toArray, cellsR_len]; exact zeroM)
    have ONE := Lib.hid (cellsR_one (f))
    have END := Lib.hid (show Below w.heap.size w (wr.setRow (w.heap.size + 1) (cellsR (f)).toArray) from ⟨BW.out.os, BW.out.tape, BW.out.output, by have := BW.out.size; simp [World.setRow]; omega, fun i hi => (setRow_other _ _ _ _ (by omega)).trans (BW.out.block i hi)⟩)
    have HR := Lib.hid (setRow_heap wr (w.heap.size + 1) _ (cellsR (f)).toArray _ _ RB.out)
    obtain ⟨cs, hcs⟩ : ∃ cs, cellsR (f) = cs := ⟨_, rfl⟩
    rw [hcs] at RG SZ2 E32 SZ3 ONE END HR
    have HCS := Lib.hid hcs
    clear hcs hm hg hsz
    go_wp2_with (first | (refine wpList_load_mid rfl 24 (.tmp 83) rfl (w.heap.size + 1 + 1) 2 rfl cs _ RG.out Try.underlying24 rfl SZ2.out ?_) | (refine wpList_store_row rfl 24 (.tmp 4) (.tmp 84) rfl (w.heap.size + 1) cs.toArray rfl rfl 24 _ RB.out SZ3.out E32.out ONE.out ?_))
    exact bodyPost_ret (v := .agg cs.toArray) (results_cell_row Try.results5 _ _ (w.heap.size + 1) 24 cs.toArray (0, 0) _ rfl HR.out Try.underlying24 rfl SZ3.out) rfl ⟨by rw [← HVS.out, HCS.out], END.out⟩
end Go.Proofs.Ytmhkihfbcpmjlaa
