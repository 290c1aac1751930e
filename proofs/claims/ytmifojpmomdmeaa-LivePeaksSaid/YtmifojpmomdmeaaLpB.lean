/- LivePeaks: the walk. -/
import Derived.Test.YtmifojpmomdmeaaLpA
import Derived.Test.YtmifojpmomdmeaaPkC
import Derived.Test.YtmifojpmomdmeaaLv29
namespace Go.Proofs.Ytmifojpmomdmeaa
open Go Go.RowKit Go.Maps
set_option linter.unusedVariables false
set_option linter.unusedSimpArgs false
set_option maxRecDepth 100000

theorem lg_one (l : List Lg) : ∀ u ∈ lgV l, u.oneCell' = true := by
  intro u hu
  obtain ⟨x, _, hx⟩ := List.mem_flatMap.1 hu
  simp [Lg.cells] at hx
  rcases hx with rfl | rfl | rfl | rfl | rfl <;> rfl
/-- append of lives to a row just made, of nothing -/
theorem app_lives {ops : Array Oper} {rest : List Oper} {o : Oper} {a : Act} {Q : Exit → Act → World → Prop} (w : World) (hgd : o.guard = none) (s x : Operand)
    (ho : o.op = .call { callee := .builtin .append, args := #[s, x], argTypes := #[28, 28] }) (B : Nat) (g : Nat) (hs : a.eval s = .slice (some ⟨g, 0, none⟩) 0 0) (hown : w.ownsRow B 38 5 (.slice (some ⟨g, 0, none⟩) 0 0) 0 [])
    (at0 : Option Addr) (l : List Lg) (c : Nat) (hx : a.eval x = .slice at0 l.length c) (hA : LgAt w at0 l) (hl : l.length ≤ 1000000) (hB : B ≤ w.heap.size) (hg : B ≤ g)
    (h : ∀ a' c' w', LgAt w' a' l → c' ≤ 9223372036854775807 → Below B w w' → wpList Try.prog ops Q rest (a.put o.dst (.slice a' l.length c')) w') :
    wpList Try.prog ops Q (o :: rest) a w := by
  obtain ⟨i1, z1, hi1, hz1, hz2, hz3, hz4⟩ : ∃ i z, Try.prog.info? 38 = some i ∧ i.zero = some z ∧ i.size = 5 ∧ i.bytes = 40 ∧ z.cells.size = 5 := ⟨(Try.prog.info? 38).get!, (Try.prog.info? 38).get!.zero.get!, by kernel_rfl, by kernel_rfl, by kernel_rfl, by kernel_rfl, by kernel_rfl⟩
  by_cases h0 : l.length = 0
  · obtain rfl := List.eq_nil_of_length_eq_zero h0
    refine wpList_append_zero hgd s x 28 ho 38 i1 z1 Try.underlying28 hi1 hz1 g hs at0 c hx ?_
    exact h _ 0 w (fun k x hx => by simp at hx) (by omega) ⟨rfl, rfl, rfl, Nat.le_refl _, fun _ _ => rfl⟩
  · obtain ⟨g1, off, rfl, hlt, hn⟩ := hA.news (by omega)
    refine wpList_append_own _ hgd s x 28 ho B 38 i1 z1 5 40 Try.underlying28 hi1 hz1 hz2 hz3 hz4 (by decide) _ 0 [] hs hown ⟨g1, off, none⟩ l.length c (lgV l) hx (by rw [lgV_len]) hn (lg_one l) (by unfold maxLen; omega) (by omega) hB ?_
    intro v' w' h1 h2 h3
    rw [Nat.zero_add, List.nil_append] at h1
    obtain ⟨a', c', rfl, hc', hl'⟩ := own_lgA h1
    exact h a' c' w' hl' hc' ⟨h2.os, h2.tape, h2.output, h2.size, fun i hi => h2.block i (by omega) (by intro e; simp [Value.ownBlock] at e; omega)⟩
set_option maxHeartbeats 4000000 in
theorem walk_peaks (w : World) (a0 : Option Addr) (c0 : Nat) (l0 : List Lg) (w0 : LgIn w a0 l0 c0) :
    Calls Try.prog 4 #[.slice a0 l0.length c0] w fun e w' => e = .returned (.bool true) ∧ Below w.heap.size w w' := by
  obtain ⟨t, ht⟩ : ∃ t, t = l0.take 20 := ⟨_, rfl⟩
  have HTI := Lib.hid (show LgIn w a0 t c0 by
    rw [ht]
    exact ⟨by rw [List.length_take]; have := w0.len; omega, w0.cap, fun x hx => w0.ok x (List.mem_of_mem_take hx), w0.cells.take 20⟩)
  have HTL := Lib.hid (show t.length ≤ 20 by rw [ht, List.length_take]; omega)
  have hl := w0.len
  have hc := w0.cap
  go_enter Try.func4, Try.ntmps4
  go_upto_if 5 with fail
  go_cut [0] (fun s0 wx => s0 = .slice a0 t.length c0 ∧ wx = w)
  case first =>
    by_cases h20 : 20 < l0.length
    · have HT := Lib.hid (show t.length = 20 by rw [ht, List.length_take]; omega)
      have g1 : (20 : Int) < (l0.length : Int) := by omega
      have g2 : (20 : Int) ≤ (c0 : Int) := by omega
      have g3 : 20 ≤ c0 := by omega
      clear ht
      go_wp2_with fail
      go_meet
      exact ⟨by rw [HT.out], rfl⟩
    · have HT := Lib.hid (show t.length = l0.length by rw [ht, List.length_take]; omega)
      have g1 : ¬ (20 : Int) < (l0.length : Int) := by omega
      clear ht
      go_wp2_with fail
      go_meet
      exact ⟨by rw [HT.out], rfl⟩
  case rest =>
    obtain ⟨rfl, rfl⟩ := hcut
    have HE := Lib.hid (own_emptyT wc wc.heap.size 38 5 (Nat.le_refl _))
    have HAL := Lib.hid (Below.alloc (Below.refl wc.heap.size wc) (Nat.le_refl _) (.cells #[] 38))
    have hti : (t.length : Int) ≤ 20 := by have := HTL.out; omega
    have L29 := Lib.hid (fun W => lives29 W)
    clear ht w0 hl
    go_wp2_with (first
      | (at_builtin; refine app_lives _ rfl (.tmp 8) (.tmp 9) rfl wc.heap.size _ rfl HE.out a0 t c0 rfl (HTI.out.cells.later HAL.out) (by have := HTL.out; omega) HAL.out.size (Nat.le_refl _) ?_; intro a' c' w' h1 h2 h3; have HL2 := Lib.hid h1; have HC2 := Lib.hid h2; have HB2 := Lib.hid (HAL.out.trans h3); clear h1 h2 h3)
      | (go_at_call 13; (with_reducible refine (peak_calls t HTI.out.ok a' c' w' HL2.out (by have := HTL.out; omega) HC2.out).mono ?_); rintro e w3 ⟨rfl, hb3⟩; have HB3 := Lib.hid (below_call HB2.out hb3); clear hb3)
      | (go_at_call 14; (with_reducible refine (rpeak_any t HTI.out.ok a0 c0 w3 (HTI.out.cells.later HB3.out) (by have := HTL.out; omega) HTI.out.cap).mono ?_); rintro e w4 ⟨rfl, hb4⟩; have HB4 := Lib.hid (below_call HB3.out hb4); clear hb4)
      | (go_at_call 11; (with_reducible refine (L29.out _).mono ?_); rintro e w5 ⟨rfl, hb5⟩; have HB5 := Lib.hid (below_call HB4.out hb5); clear hb5))
    go_ret
    exact ⟨rfl, HB5.out⟩
end Go.Proofs.Ytmifojpmomdmeaa
