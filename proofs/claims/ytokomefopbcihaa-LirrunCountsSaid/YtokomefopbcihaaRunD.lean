/- Contract of the document's machine for loop programs (pintleref16.Does) over plain steps. -/
import Derived.Test.YtokomefopbcihaaOne
import Derived.OwnWalk
namespace Go.Proofs.Ytokomefopbcihaa
open Go Go.RowKit Pl
set_option linter.unusedVariables false

theorem one_any (B : Nat) (x : Q5) (f : Nat → Int) (s : Int) (w : World) (hx : OkF x) (hs : 0 ≤ s ∧ s ≤ 1000) (hm : Mach B f s w) (hf : WordsF f) :
    Calls Try.prog 100 #[.pointer (some ⟨B, 0, none⟩), .agg #[.int .i64 x.o, .int .i64 x.d, .int .i64 x.a, .int .i64 x.b, .int .i32 x.i]] w fun e w' => e = .returned (.tuple #[]) ∧ Mach B (stepF x f) (s + 1) w' ∧ w.grownBy w' (some B) := by
  obtain ⟨o, d, a, b, i⟩ := x
  obtain ⟨ho, hd, ha, hb⟩ := hx
  simp only at ho hd ha hb
  obtain ⟨D, rfl⟩ : ∃ D : Nat, d = D := ⟨d.toNat, by omega⟩
  obtain ⟨A, rfl⟩ : ∃ A : Nat, a = A := ⟨a.toNat, by omega⟩
  obtain ⟨E, rfl⟩ : ∃ E : Nat, b = E := ⟨b.toNat, by omega⟩
  rcases ho with rfl | rfl | rfl | rfl | rfl | rfl | rfl | rfl | rfl | rfl | rfl
  · exact one_1 B D A E i f s w (by omega) (by omega) (by omega) hs hm hf
  · exact one_2 B D A E i f s w (by omega) (by omega) (by omega) hs hm hf
  · exact one_3 B D A E i f s w (by omega) (by omega) (by omega) hs hm hf
  · exact one_4 B D A E i f s w (by omega) (by omega) (by omega) hs hm hf
  · exact one_5 B D A E i f s w (by omega) (by omega) (by omega) hs hm hf
  · exact one_6 B D A E i f s w (by omega) (by omega) (by omega) hs hm hf
  · exact one_7 B D A E i f s w (by omega) (by omega) (by omega) hs hm hf
  · exact one_13 B D A E i f s w (by omega) (by omega) (by omega) hs hm hf
  · exact one_14 B D A E i f s w (by omega) (by omega) (by omega) hs hm hf
  · exact one_15 B D A E i f s w (by omega) (by omega) (by omega) hs hm hf
  · exact one_16 B D A E i f s w (by omega) (by omega) (by omega) hs hm hf
set_option maxHeartbeats 1000000 in
theorem ends_no (B : Nat) (f : Nat → Int) (s : Int) (w : World) (hs : s < 1000) (hm : Mach B f s w) :
    Calls Try.prog 99 #[.pointer (some ⟨B, 0, none⟩)] w fun e w' => e = .returned (.bool false) ∧ Below w.heap.size w w' := by
  have ct := hm.tr
  have cs := hm.st
  have cf := hm.fu
  have t0 : decide (1000 ≤ s) = false := by simp; omega
  clear hm
  go_enter Try.func99, Try.ntmps99
  go_wp2_with fail
  go_region
  go_wp2_with fail
  go_ret
  exact ⟨rfl, (Below.refl _ _).drew⟩
theorem l5_grown {w w' : World} {b0 off B : Nat} {l : List Q5} (h : L5 w (some ⟨b0, off, none⟩) l) (hg : w.grownBy w' (some B)) (hB : b0 ≠ B) : L5 w' (some ⟨b0, off, none⟩) l := by
  obtain ⟨h1, h2 | ⟨b, o, e, hlt, hc⟩⟩ := h
  · exact ⟨h1, Or.inl h2⟩
  · obtain ⟨rfl, rfl⟩ : b0 = b ∧ off = o := by simpa using e
    refine ⟨h1, Or.inr ⟨b0, off, rfl, Nat.lt_of_lt_of_le hlt hg.size, fun k x hx => ?_⟩⟩
    obtain ⟨c0, c1, c2, c3, c4⟩ := hc k x hx
    have ne : some b0 ≠ some B := fun e => hB (by cases e; rfl)
    exact ⟨hg.cell c0 ne, hg.cell c1 ne, hg.cell c2 ne, hg.cell c3 ne, hg.cell c4 ne⟩
theorem l5_at {w : World} {b0 off k : Nat} {l : List Q5} {x : Q5} (h : L5 w (some ⟨b0, off, none⟩) l) (hx : l[k]? = some x) :
    w.cell? ⟨b0, off + k * 5, none⟩ = some (.int .i64 x.o) ∧ w.cell? ⟨b0, off + k * 5 + 1, none⟩ = some (.int .i64 x.d) ∧ w.cell? ⟨b0, off + k * 5 + 2, none⟩ = some (.int .i64 x.a) ∧
    w.cell? ⟨b0, off + k * 5 + 3, none⟩ = some (.int .i64 x.b) ∧ w.cell? ⟨b0, off + k * 5 + 4, none⟩ = some (.int .i32 x.i) := by
  obtain ⟨h1, rfl | ⟨b, o, e, hlt, hc⟩⟩ := h
  · simp at hx
  · obtain ⟨rfl, rfl⟩ : b0 = b ∧ off = o := by simpa using e
    exact hc k x hx
theorem grown_trans {a b c : World} {r : Option Nat} (h : a.grownBy b r) (k : b.grownBy c r) : a.grownBy c r :=
  ⟨k.os.trans h.os, k.tape.trans h.tape, k.output.trans h.output, Nat.le_trans h.size k.size, fun i hi hne => (k.block i (Nat.lt_of_lt_of_le hi h.size) hne).trans (h.block i hi hne)⟩
set_option maxRecDepth 100000 in
set_option maxHeartbeats 4000000 in
theorem does_any (B : Nat) (f : Nat → Int) (b0 off c : Nat) (l : List Q5) (w : World) (hl : L5 w (some ⟨b0, off, none⟩) l) (hn : l.length ≤ 100) (hB : b0 ≠ B) (hx : ∀ x ∈ l, OkF x) (hm : Mach B f 0 w) (hf : WordsF f) :
    Calls Try.prog 78 #[.pointer (some ⟨B, 0, none⟩), .slice (some ⟨b0, off, none⟩) l.length c, .int .i64 0, .int .i64 l.length] w fun e w' => e = .returned (.tuple #[]) ∧ Mach B (runF l f) l.length w' ∧ w.grownBy w' (some B) := by
  have HL := Lib.hid hl
  have HX := Lib.hid hx
  have HM := Lib.hid hm
  have HF := Lib.hid hf
  clear hl hx hm hf
  go_enter Try.func78, Try.ntmps78
  have INI := Lib.hid (World.grownBy.refl w (some B))
  go_wp2_with fail
  go_loopw [8] (fun i wr => ∃ k : Nat, k ≤ l.length ∧ i = .int .i64 k ∧ Mach B (runF (l.take k) f) k wr ∧ w.grownBy wr (some B)) (fun i _ => l.length - (intOf i).toNat)
  case atStart => exact ⟨0, by omega, rfl, by simpa [runF] using HM.out, INI.out⟩
  case round =>
    obtain ⟨k, hk, rfl, hm, hg⟩ := hrel
    by_cases hlt : k < l.length
    · obtain ⟨x, hx⟩ : ∃ x, l[k]? = some x := ⟨_, List.getElem?_eq_getElem hlt⟩
      have OKX := Lib.hid (HX.out x (List.mem_of_getElem? hx))
      have WF := Lib.hid (words_run (l.take k) f HF.out)
      have TK := Lib.hid (show runF (l.take (k + 1)) f = stepF x (runF (l.take k) f) by rw [List.take_add_one, hx, Option.toList_some, run_snoc])
      have u1 := IntWalk.i64_in ((k : Int) + 1) (by omega)
      have t1 : decide ((k : Int) < (l.length : Int)) = true := by simp; omega
      have g0 : (0 : Int) ≤ (k : Int) := by omega
      have g1 : (k : Int) < (l.length : Int) := by omega
      have op23 : (x.o == 23) = false := by
        have := OKX.out.1
        simp; omega
      have HM2 := Lib.hid hm
      have HG2 := Lib.hid hg
      have HXX := Lib.hid hx
      clear hm hg hx
      go_wp2_with fail
      refine (ends_no B _ _ _ (by omega) HM2.out).mono ?_
      rintro e w9 ⟨rfl, hbl⟩
      have HM3 := Lib.hid (HM2.out.grown hbl)
      have HG3 := Lib.hid (grown_trans HG2.out (grown_below (r := some B) hbl))
      obtain ⟨c0, c1, c2, c3, c4⟩ := l5_at (l5_grown HL.out HG3.out hB) HXX.out
      clear hbl
      go_wp2_with fail
      refine (one_any B x _ k w9 OKX.out (by omega) HM3.out WF.out).mono ?_
      rintro e wa ⟨rfl, hm4, hg4⟩
      have HM4 := Lib.hid hm4
      have HG4 := Lib.hid (grown_trans HG3.out hg4)
      clear hm4 hg4 c0 c1 c2 c3 c4
      go_wp2_with fail
      refine ⟨⟨k + 1, by omega, rfl, ?_, HG4.out⟩, by simp [intOf]; omega⟩
      rw [TK.out]; exact HM4.out
    · obtain rfl : k = l.length := by omega
      have t1 : decide ((l.length : Int) < (l.length : Int)) = false := by simp
      have HM2 := Lib.hid hm
      have HG2 := Lib.hid hg
      clear hm hg
      rw [List.take_length] at HM2
      go_wp2_with fail
      exact Go.Great.bodyPost_end0 (by rfl) (by rfl) ⟨rfl, HM2.out, HG2.out⟩
end Go.Proofs.Ytokomefopbcihaa
