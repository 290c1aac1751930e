/- The document's memory: Put. -/
import Derived.Test.YtghclbeoabkgcaaMemS
import Derived.Deep.AppendLies
import Derived.StillTailTactics
namespace Go.Proofs.Ytghclbeoabkgcaa
open Go Go.RowKit
set_option linter.unusedVariables false
theorem writes_next (L : List (Nat × Nat)) (a : Nat) (bs : List Nat) (m b : Nat) (h : bs[m]? = some b) : L ++ writes a (bs.take (m + 1)) = (L ++ writes a (bs.take m)) ++ [(a + m, b)] := by
  have hlt := (List.getElem?_eq_some_iff.1 h).1
  rw [List.take_add_one, h]
  show L ++ writes a (bs.take m ++ [b]) = _
  rw [writes_snoc, List.append_assoc, List.length_take, Nat.min_eq_left (by omega)]
theorem wrap_in_u32 (n : Int) (h0 : 0 ≤ n) (h1 : n < 4294967296) : IntKind.u32.wrap n = n := by
  simp [IntKind.wrap, IntKind.bits, IntKind.signed]; omega
def PutR (X B f n1 r n2 : Nat) (L : List (Nat × Nat)) (v : Value) (W : World) (z : Bool) (e : Ending) (w' : World) : Prop := e = .returned (.bool z) ∧ ∃ v', RefIs X B f n1 r n2 L v' w' ∧ Out (RS X v) W w' ∧ Fresh v v' W
set_option maxRecDepth 100000 in
set_option maxHeartbeats 2000000 in
theorem rput_out {X B f n1 r n2 : Nat} {L : List (Nat × Nat)} {v : Value} {W : World} (h : RefIs X B f n1 r n2 L v W) (a n : Nat) (ad : Option Addr) (cc : Nat) (h0 : 0 < n) (hn : n < 9223372036854775808) (hw : HasIs X a n false W) :
    Calls Try.prog 51 #[.pointer (some ⟨X, 0, none⟩), .int .u32 (a : Nat), .slice ad n cc] W (PutR X B f n1 r n2 L v W false) := by
  have HW := Lib.hid hw
  have RI := Lib.hid (fun W' (hl : LikeG W W') => h.like hl)
  have t : decide (0 < n) = true := by simp; omega
  clear h hw
  go_enter Try.func51, Try.ntmps51
  go_wp2_with fail
  refine HW.out.mono ?_
  rintro e w1 ⟨rfl, hl⟩
  go_wp2_with fail
  go_ret
  exact ⟨rfl, v, RI.out _ hl, hl.out _, .refl _ _⟩
set_option maxRecDepth 100000 in
set_option maxHeartbeats 2000000 in
theorem rput_nil {X B f n1 r n2 : Nat} {L : List (Nat × Nat)} {v : Value} {W : World} (h : RefIs X B f n1 r n2 L v W) (a : Int) (ad : Option Addr) (cc : Nat) :
    Calls Try.prog 51 #[.pointer (some ⟨X, 0, none⟩), .int .u32 a, .slice ad 0 cc] W (PutR X B f n1 r n2 L v W true) := by
  have RI := Lib.hid h
  clear h
  go_enter Try.func51, Try.ntmps51
  go_wp2_with fail
  go_rounds 1
  go_ret
  exact ⟨rfl, v, RI.out, .refl _ _, .refl _ _⟩
set_option maxRecDepth 100000 in
set_option maxHeartbeats 2000000 in
theorem rput_in {X B f n1 r n2 : Nat} {L : List (Nat × Nat)} {v : Value} {W : World} (h : RefIs X B f n1 r n2 L v W) (a : Nat) (bs : List Nat) (b off cc : Nat) (h0 : 0 < bs.length) (hak : a + bs.length ≤ 4294967296) (h256 : ∀ x ∈ bs, x < 256) (hs : L.length + bs.length ≤ 1000000) (hw : HasIs X a bs.length true W)
    (src : ∀ j x, bs[j]? = some x → W.cell? ⟨b, off + j, none⟩ = some (.int .u8 (x : Nat))) (hbX : ¬ RS X v b) :
    Calls Try.prog 51 #[.pointer (some ⟨X, 0, none⟩), .int .u32 (a : Nat), .slice (some ⟨b, off, none⟩) bs.length cc] W (PutR X B f n1 r n2 (L ++ writes a bs) v W true) := by
  obtain ⟨i0, hi, hz0, hz1, hz2⟩ := info_parts info_byteR
  have HW := Lib.hid hw
  have RI := Lib.hid (fun W' (hl : LikeG W W') => h.like hl)
  have ha : a < 4294967296 := by omega
  have t : decide (0 < bs.length) = true := by simp; omega
  have HS := Lib.hid (show ∀ (W' : World), Out (RS X v) W W' → ∀ j x, bs[j]? = some x → W'.cell? ⟨b, off + j, none⟩ = some (.int .u8 (x : Nat)) from fun W' ho j x hj => (ho.cell (p := ⟨b, off + j, none⟩) (World.block_lt_of_cell? W _ (src j x hj)) hbX).trans (src j x hj))
  have H256 := Lib.hid h256
  clear h hw src hbX h256
  go_enter Try.func51, Try.ntmps51
  go_wp2_with fail
  refine HW.out.mono ?_
  rintro e w1 ⟨rfl, hl⟩
  have H1 := Lib.hid (RI.out _ hl)
  have O1 := Lib.hid (hl.out (RS X v))
  have F1 := Lib.hid (Fresh.refl v W)
  clear hl HW RI
  go_wp2_with fail
  go_loopw [7] (fun i wr => ∃ (m : Nat) (v' : Value), m ≤ bs.length ∧ i = .int .i64 m ∧ RefIs X B f n1 r n2 (L ++ writes a (bs.take m)) v' wr ∧ Out (RS X v) W wr ∧ Fresh v v' W) (fun i _ => bs.length - (intOf i).toNat)
  case atStart => exact ⟨0, v, by omega, rfl, by simpa [writes] using H1.out, O1.out, F1.out⟩
  case round =>
    obtain ⟨m, v', hm, rfl, hR, hO, hFr⟩ := hrel
    have HF := Lib.hid hFr
    clear hFr F1
    by_cases hlt : m < bs.length
    · have HR := Lib.hid hR
      have HO := Lib.hid hO
      have c4 := hR.c4
      have hlX := hR.lt
      obtain ⟨x, hx⟩ : ∃ x, bs[m]? = some x := ⟨bs[m], List.getElem?_eq_getElem hlt⟩
      have cx := HS.out wr hO m x hx
      have hx256 := H256.out x (List.mem_of_getElem? hx)
      have T := Lib.hid (writes_next L a bs m x hx)
      have hBw : B ≤ wr.heap.size := hR.bs
      have hln : (L ++ writes a (bs.take m)).length + 1 ≤ 1000000 := by
        rw [List.length_append, writes_length, List.length_take]; omega
      generalize hLL : L ++ writes a (bs.take m) = LL at *
      have OWN := Lib.hid (fun cs t => HR.out.own.alloc (.cells cs t))
      have FX := Lib.hid (show ∀ (W0 : World) (cs : Array Value) (t : TypeId) (w2 : World), W0.heap = wr.heap → (W0.alloc (.cells cs t)).grownBy w2 v'.ownBlock → w2.cell? ⟨X, 4, none⟩ = some v' ∧ w2.frozen? ⟨X, 4, none⟩ = false from fun W0 cs t w2 h0 hg => by
        have e := hg.block X (by simp [h0]; omega) fun e => HR.out.hx e.symm
        have e2 : w2.heap[X]? = wr.heap[X]? := by rw [← h0]; exact e.trans (heap_alloc_old _ _ (by rw [h0]; exact hlX))
        exact ⟨(World.cell?_of_block (a := ⟨X, 4, none⟩) e2).trans HR.out.c4, (World.frozen?_of_block (a := ⟨X, 4, none⟩) e2).trans HR.out.fz⟩)
      have MO := Lib.hid (show ∀ (W0 : World) (cs : Array Value) (t : TypeId) (w2 : World) (g cap : Nat), Below wr.heap.size wr W0 → W0.heap = wr.heap → (W0.alloc (.cells cs t)).grownBy w2 v'.ownBlock → w2.ownsRow B 124 2 (.slice (some ⟨g, 0, none⟩) (LL.length + 1) cap) (LL.length + 1) (cellsB LL ++ [.int .u32 ((a : Int) + (m : Int)), .int .u8 (x : Int)]) → (v'.ownBlock = some g ∨ g = wr.heap.size + 1) → _ from fun W0 cs t w2 g cap hb h0 hg ho ha =>
        HR.out.more (x := (a + m, x)) (g := g) (cap := cap) (V := W0.alloc (.cells cs t)) (hb.alloc (Nat.le_of_eq (by rw [h0])) (.cells cs t)) ⟨by show a + m < 4294967296; omega, hx256⟩ hln (by simpa using ho) hg (by rw [show (W0.alloc (.cells cs t)).heap.size = wr.heap.size + 1 by simp [h0]]; exact ha))
      have LEN := Lib.hid (show LL.length + 1 ≤ maxLen from Nat.le_trans hln (by decide))
      have BYT := Lib.hid (show (LL.length + 1) * 8 ≤ 140737488355328 by omega)
      have e1 : IntKind.u32.wrap (m : Int) = (m : Int) := wrap_in_u32 _ (by omega) (by omega)
      have e2 : IntKind.u32.wrap ((a : Int) + (m : Int)) = (a : Int) + (m : Int) := wrap_in_u32 _ (by omega) (by omega)
      clear hR hO H1 O1 hLL hx
      go_wp2_with fail
      go_region_law ((first
        | (refine step_append_lies _ (by rfl) _ _ _ (by rfl) B 124 i0 _ 2 8 Try.underlying90 hi hz0 hz1 hz2 rfl (by decide) v' LL.length (cellsB LL) (by rfl) ((OWN.out _ _).drew) ⟨wr.heap.size, 0, none⟩ 1 1 [.int .u32 ((a : Int) + (m : Int)), .int .u8 (x : Int)] (by rfl) (by rfl) (World.news_of_block (cs := #[.int .u32 ((a : Int) + (m : Int)), .int .u8 (x : Int)]) (t := 124) (fr := (0, 0)) (heap_alloc_new wr _)) (by simp [Value.oneCell']) (by decide) LEN.out BYT.out (by simp; omega) (wr.heap.size + 1) (by simp) ?_; intro g2 cap2 w2 hown hgd hat hlt2; have hg : (wr.alloc (.cells #[.int .u32 ((a : Int) + (m : Int)), .int .u8 (x : Int)] 124)).grownBy w2 v'.ownBlock := ⟨hgd.os, hgd.tape, hgd.output, hgd.size, hgd.block⟩; clear hgd; obtain ⟨d4, z4⟩ := FX.out wr _ _ w2 rfl hg; have HM := Lib.hid (MO.out wr _ _ w2 g2 cap2 (Below.refl _ _) rfl hg hown hat); clear hown hg hat hlt2)
        | (refine step_append_lies _ (by rfl) _ _ _ (by rfl) B 124 i0 _ 2 8 Try.underlying90 hi hz0 hz1 hz2 rfl (by decide) v' LL.length (cellsB LL) (by rfl) (OWN.out _ _) ⟨wr.heap.size, 0, none⟩ 1 1 [.int .u32 ((a : Int) + (m : Int)), .int .u8 (x : Int)] (by rfl) (by rfl) (World.news_of_block (cs := #[.int .u32 ((a : Int) + (m : Int)), .int .u8 (x : Int)]) (t := 124) (fr := (0, 0)) (heap_alloc_new wr _)) (by simp [Value.oneCell']) (by decide) LEN.out BYT.out (by simp; omega) (wr.heap.size + 1) (by simp) ?_; intro g2 cap2 w2 hown hg hat hlt2; obtain ⟨d4, z4⟩ := FX.out wr _ _ w2 rfl hg; have HM := Lib.hid (MO.out wr _ _ w2 g2 cap2 (Below.refl _ _) rfl hg hown hat); clear hown hg hat hlt2)))
      all_goals go_wp2
      all_goals go_roundw
      all_goals
        first
        | (obtain ⟨q1, q2, q3⟩ := HM.out
           exact ⟨m + 1, _, by omega, by go_num, by rw [T.out]; exact q1, HO.out.chain HF.out q2, HF.out.trans q3 HO.out.size⟩)
        | (simp [intOf]; done)
        | (simp [intOf]; omega)
    · obtain rfl : m = bs.length := by omega
      have HR := Lib.hid hR
      have HO := Lib.hid hO
      clear hR hO H1 O1 hlt
      go_wp2_with fail
      go_ret
      exact ⟨rfl, v', by have := HR.out; rwa [List.take_length] at this, HO.out, HF.out⟩
end Go.Proofs.Ytghclbeoabkgcaa
