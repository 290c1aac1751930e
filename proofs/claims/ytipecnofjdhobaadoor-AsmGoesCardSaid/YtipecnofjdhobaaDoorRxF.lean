/- relax.Check, relax.Layout. -/
import Derived.Test.YtipecnofjdhobaaDoorRxE
namespace Go.Proofs.YtipecnofjdhobaaDoor
open Go Go.RowKit Go.Maps Pl
set_option linter.unusedVariables false
set_option linter.unusedSimpArgs false
set_option maxRecDepth 100000

def CanAll (l : List It) : Prop := ∀ x ∈ l, canIt x = true
def ChPost (l : List It) (w : World) (e : Ending) (w' : World) : Prop :=
  Below w.heap.size w w' ∧ ((e = .returned (.int .i64 0) ∧ CanAll l ∧ ∃ tg, TgOk l tg) ∨ ((e = .returned (.int .i64 1) ∨ e = .returned (.int .i64 8)) ∧ ¬ (CanAll l ∧ Uniq l ∧ Present l)))
theorem ch_one {l : List It} {w w' : World} (hb : Below w.heap.size w w') {x : It} (hx : x ∈ l) (h : canIt x = false) : ChPost l w (.returned (.int .i64 1)) w' := ⟨hb, .inr ⟨.inl rfl, fun k => by have := k.1 x hx; rw [h] at this; cases this⟩⟩
theorem ch_name {l : List It} {w w' : World} (hb : Below w.heap.size w w') (h : ¬ (Uniq l ∧ Present l)) : ChPost l w (.returned (.int .i64 8)) w' := ⟨hb, .inr ⟨.inr rfl, fun k => h k.2⟩⟩
theorem ch_yes {l : List It} {w w' : World} (hb : Below w.heap.size w w') (h : CanAll l) {tg : Nat → Int} (h2 : TgOk l tg) : ChPost l w (.returned (.int .i64 0)) w' := ⟨hb, .inl ⟨rfl, h, tg, h2⟩⟩
set_option maxHeartbeats 8000000 in
theorem check_any (l : List It) (hok : ∀ x ∈ l, x.okay) (at0 : Option Addr) (c : Nat) (w : World) (hA : ItAt w at0 l) (hl : l.length ≤ 4000) (hc : c ≤ 9223372036854775807) :
    Calls Tryd.prog 28 #[.slice at0 l.length c] w (ChPost l w) := by
  have HA := Lib.hid hA
  have HOK := Lib.hid hok
  have HLL := Lib.hid hl
  have HCC := Lib.hid hc
  have hli : (l.length : Int) ≤ 4000 := by omega
  clear hA hok
  go_enter Tryd.func28, Tryd.ntmps28
  go_wp2_with fail
  go_loopw [12] (fun s12 wr => ∃ k : Nat, k ≤ l.length ∧ s12 = .int .i64 k ∧ (∀ (i : Nat) (x : It), i < k → l[i]? = some x → canIt x = true) ∧ Below w.heap.size w wr) (fun s12 _ => l.length - (intOf s12).toNat)
  case atStart => exact ⟨0, Nat.zero_le _, rfl, fun i x h => by omega, Below.refl _ _⟩
  case round =>
    obtain ⟨k, hk, rfl, hcn, hB⟩ := hrel
    have HB := Lib.hid hB
    have HCN := Lib.hid hcn
    clear hB hcn
    by_cases hkl : k < l.length
    · obtain ⟨x, hx⟩ : ∃ x, l[k]? = some x := ⟨_, List.getElem?_eq_getElem hkl⟩
      obtain ⟨g, off, hat, hg, c0, c1, c2, c3, c4, c5, c6⟩ := (HA.out.later HB.out) k x hx
      subst hat
      have HX := Lib.hid (HOK.out x (List.mem_of_getElem? hx))
      have HKL := Lib.hid hkl
      have HXI := Lib.hid hx
      have k0 : (0 : Int) ≤ (k : Int) := by omega
      have k1 : (k : Int) < (l.length : Int) := by omega
      have HCA := Lib.hid (fun W => can_any x HX.out W)
      obtain ⟨kd, o, d, a, b', i, lb⟩ := x
      unfold It.val at HCA
      dsimp only at c0 c1 c2 c3 c4 c5 c6 HCA
      clear hx hkl hk
      go_upto_region 6 with fail
      have hal : Below wr.heap.size wr (wr.alloc (.cells #[.int .i64 kd, .int .i64 o, .int .i64 d, .int .i64 a, .int .i64 b', .int .i32 i, .int .i64 lb] 41)) := Below.alloc (Below.refl _ _) (Nat.le_refl _) _
      have RA := Lib.hid (RowAt.new wr [.int .i64 kd, .int .i64 o, .int .i64 d, .int .i64 a, .int .i64 b', .int .i32 i, .int .i64 lb] 41)
      have HBA := Lib.hid (below_call HB.out hal)
      obtain ⟨A, hA⟩ : ∃ A, A = wr.heap.size := ⟨_, rfl⟩
      rw [← hA] at RA ⊢
      obtain ⟨W, hW⟩ : ∃ W, W = wr.alloc (.cells #[.int .i64 kd, .int .i64 o, .int .i64 d, .int .i64 a, .int .i64 b', .int .i32 i, .int .i64 lb] 41) := ⟨_, rfl⟩
      have hE : wr.alloc (.cells [Value.int .i64 kd, .int .i64 o, .int .i64 d, .int .i64 a, .int .i64 b', .int .i32 i, .int .i64 lb].toArray 41) = W := by rw [hW]
      rw [hE] at RA
      rw [← hW] at HBA ⊢
      clear hal hA hW hE c0 c1 c2 c3 c4 c5 c6
      have a0 := RA.out.cell 0 _ rfl
      have a1 := RA.out.cell 1 _ rfl
      have a2 := RA.out.cell 2 _ rfl
      have a3 := RA.out.cell 3 _ rfl
      have a4 := RA.out.cell 4 _ rfl
      have a5 := RA.out.cell 5 _ rfl
      have a6 := RA.out.cell 6 _ rfl
      have al := RA.out.lt
      obtain ⟨cb, hcb⟩ : ∃ b, b = canIt ⟨kd, o, d, a, b', i, lb⟩ := ⟨_, rfl⟩
      have HCB := Lib.hid hcb
      rw [← hcb] at HCA
      clear hcb
      cases cb with
      | true =>
        have HCN2 := Lib.hid (show ∀ (i : Nat) (x : It), i < k + 1 → l[i]? = some x → canIt x = true from fun j y hj hy => by
          by_cases e : j = k
          · subst e; rw [HXI.out] at hy; injection hy with hy; subst hy; exact HCB.out.symm
          · exact HCN.out j y (by omega) hy)
        go_wp2_with (go_at_call 39; refine (HCA.out _).mono ?_; rintro e w5 ⟨rfl, hb5⟩; have HB5 := Lib.hid hb5; clear hb5)
        exact ⟨⟨k + 1, HKL.out, rfl, HCN2.out, below_call HBA.out HB5.out⟩, by have := HKL.out; simp [intOf]; omega⟩
      | false =>
        go_wp2_with (go_at_call 39; refine (HCA.out _).mono ?_; rintro e w5 ⟨rfl, hb5⟩; have HB5 := Lib.hid hb5; clear hb5)
        go_ret
        exact ch_one (below_call HBA.out HB5.out) (List.mem_of_getElem? HXI.out) HCB.out.symm
    · obtain rfl : k = l.length := by omega
      have kx : ¬ ((l.length : Int) < (l.length : Int)) := by omega
      have HTA := Lib.hid (targets_any l HOK.out at0 c wr (HA.out.later HB.out) HLL.out HCC.out)
      have HCL := Lib.hid (show CanAll l from fun x hx => by
        obtain ⟨i, hi⟩ := List.mem_iff_getElem?.1 hx
        exact HCN.out i x (List.getElem?_eq_some_iff.1 hi).1 hi)
      clear hkl hk
      go_wp2_with (go_at_call 29; refine HTA.out.mono ?_; rintro e w5 ⟨hb5, ⟨b, tg, rfl, h1, h2, h3⟩ | ⟨rfl, h1⟩⟩)
      · have HB5 := Lib.hid (below_call HB.out hb5)
        have HTK := Lib.hid h3
        clear hb5 h1 h2 h3
        go_wp2_with fail
        go_ret
        exact ch_yes HB5.out HCL.out HTK.out
      · have HB5 := Lib.hid (below_call HB.out hb5)
        have HTK := Lib.hid h1
        clear hb5 h1
        go_wp2_with fail
        go_ret
        exact ch_name HB5.out HTK.out
/-- it is laid out -/
def LyPost (l : List It) (w : World) (e : Ending) (w' : World) : Prop :=
  Below w.heap.size w w' ∧ ((∃ (b bf : Nat) (tg : Nat → Int) (F : Nat → Bool), e = .returned (.tuple #[.slice (some ⟨b, 0, none⟩) (l.length + 1) (l.length + 1), .slice (some ⟨bf, 0, none⟩) l.length l.length, .int .i64 0]) ∧ w.heap.size ≤ b ∧ w.heap.size ≤ bf ∧
      RowAt w' b (iR (l.length + 1) ((rxM l tg).pl F)) ∧ RowAt w' bf (bR l.length F) ∧ CanAll l ∧ TgOk l tg ∧ (rxM l tg).closed F ∧ (∀ G, (rxM l tg).closed G → ∀ i, F i = true → G i = true) ∧ (∀ i, F i = true → i < l.length ∧ brL l i = true)) ∨
    ((∃ r : Int, r ≠ 0 ∧ e = .returned (.tuple #[.slice none 0 0, .slice none 0 0, .int .i64 r])) ∧ ¬ (CanAll l ∧ Uniq l ∧ Present l)))
theorem ly_no {l : List It} {w w' : World} (hb : Below w.heap.size w w') {r : Int} (hr : r ≠ 0) (h : ¬ (CanAll l ∧ Uniq l ∧ Present l)) : LyPost l w (.returned (.tuple #[.slice none 0 0, .slice none 0 0, .int .i64 r])) w' := ⟨hb, .inr ⟨⟨r, hr, rfl⟩, h⟩⟩
theorem ly_yes {l : List It} {w w' : World} {b bf : Nat} {tg : Nat → Int} {F : Nat → Bool} (hb : Below w.heap.size w w') (h1 : w.heap.size ≤ b) (h2 : w.heap.size ≤ bf) (h3 : RowAt w' b (iR (l.length + 1) ((rxM l tg).pl F))) (h4 : RowAt w' bf (bR l.length F)) (h5 : CanAll l) (h6 : TgOk l tg) (h7 : (rxM l tg).closed F) (h8 : ∀ G, (rxM l tg).closed G → ∀ i, F i = true → G i = true) (h9 : ∀ i, F i = true → i < l.length ∧ brL l i = true) :
    LyPost l w (.returned (.tuple #[.slice (some ⟨b, 0, none⟩) (l.length + 1) (l.length + 1), .slice (some ⟨bf, 0, none⟩) l.length l.length, .int .i64 0])) w' := ⟨hb, .inl ⟨b, bf, tg, F, rfl, h1, h2, h3, h4, h5, h6, h7, h8, h9⟩⟩
theorem tgOk_present {l : List It} {tg : Nat → Int} (h : TgOk l tg) : Present l := fun i x hx hk => by
  obtain ⟨t, y, _, _, h1, h2, h3⟩ := h.t i x hx hk
  exact ⟨t, y, h1, h2, h3⟩
set_option maxHeartbeats 16000000 in
theorem layout_any (l : List It) (hok : ∀ x ∈ l, x.okay) (at0 : Option Addr) (c : Nat) (w : World) (hA : ItAt w at0 l) (hl : l.length ≤ 4000) (hc : c ≤ 9223372036854775807) :
    Calls Tryd.prog 19 #[.slice at0 l.length c] w (LyPost l w) := by
  have HA := Lib.hid hA
  have HOK := Lib.hid hok
  have HLL := Lib.hid hl
  have HCC := Lib.hid hc
  have hli : (l.length : Int) ≤ 4000 := by omega
  have hmk := fun W => run_make_row' (P := Tryd.prog) 32 4 (.bool false) 1 Tryd.underlying32 info_boolN rfl .i64 .i64 l.length (by omega) (by omega) W
  have HCH := Lib.hid (check_any l hok at0 c w hA hl hc)
  clear hA hok
  go_enter Tryd.func19, Tryd.ntmps19
  go_wp2_with (go_at_call 28; refine HCH.out.mono ?_; rintro e w1 ⟨hb1, ⟨rfl, h1, h2⟩ | ⟨rfl | rfl, h1⟩⟩)
  · have HB1 := Lib.hid hb1
    have HCL := Lib.hid h1
    have HTE := Lib.hid h2
    have HTA := Lib.hid (targets_any l HOK.out at0 c w1 (HA.out.later hb1) HLL.out HCC.out)
    clear hb1 h1 h2
    go_wp2_with (go_at_call 29; refine HTA.out.mono ?_; rintro e w5 ⟨hb5, ⟨b, tg, rfl, h1, h2, h3⟩ | ⟨rfl, h1⟩⟩)
    · have HB5 := Lib.hid (below_call HB1.out hb5)
      have HBa := Lib.hid (Below.alloc (Below.refl w5.heap.size w5) (Nat.le_refl _) (.cells (madeCells #[Value.bool false] l.length) 4))
      have HB6 := Lib.hid (below_call HB5.out HBa.out)
      have HTG := Lib.hid h3
      have HA6 := Lib.hid (HA.out.later HB6.out)
      have RF := Lib.hid (bR_made w5 l.length)
      have RT := Lib.hid (h2.over HBa.out)
      have HNE := Lib.hid (show b ≠ w5.heap.size from fun e => by have := h2.lt; omega)
      have HW5 := Lib.hid (show w.heap.size ≤ w5.heap.size from HB5.out.size)
      have HNI := Lib.hid (show ∀ g off, at0 = some ⟨g, off, none⟩ → l ≠ [] → ¬ g = w5.heap.size from fun g off h hne e => by
        cases l with
        | nil => exact hne rfl
        | cons x r =>
          obtain ⟨g2, off2, q1, q2, _⟩ := HA.out 0 x rfl
          rw [h] at q1
          injection q1 with q1; injection q1 with q1 q3
          have := HW5.out
          omega)
      clear h1 h2 h3 hb5 hmk HTA
      obtain ⟨BF, hBF⟩ : ∃ B, B = w5.heap.size := ⟨_, rfl⟩
      rw [← hBF] at RF HNE HNI HW5 ⊢
      clear hBF
      generalize w5.alloc (.cells (madeCells #[Value.bool false] l.length) 4) = W6 at *
      refine (settle_any l HOK.out at0 c b BF tg W6 HA6.out HLL.out HCC.out HTG.out RT.out RF.out HNE.out HNI.out).mono ?_
      rintro e w7 ⟨bw, F, rfl, g1, g2, g3, g4, g5, g6, g7⟩
      have HO7 := Lib.hid g7
      have RW := Lib.hid (show RowAt w7 bw (iR (l.length + 1) ((rxM l tg).pl F)) from g2)
      have RF7 := Lib.hid (show RowAt w7 BF (bR l.length F) from g3)
      have HCD := Lib.hid g4
      have HLE := Lib.hid g5
      have HFB := Lib.hid (show ∀ i, F i = true → i < l.length ∧ brL l i = true from g6)
      have HBWW := Lib.hid (show w.heap.size ≤ bw from Nat.le_trans HB6.out.size g1)
      have RT7 := Lib.hid (RT.out.outN HO7.out (fun h => HNE.out h))
      have HB7 := Lib.hid (HO7.out.below HB6.out (Nat.le_refl _) (fun j hj => by subst hj; exact HW5.out))
      clear g1 g2 g3 g4 g5 g6 g7 RT RF HA6 HBa HB5 HO7
      have hmn : (rxM l tg).n = l.length := rfl
      simp only [hmn]
      clear hmn
      go_wp2_with fail
      go_loopw [32] (fun s32 wr => ∃ k : Nat, k ≤ l.length ∧ s32 = .int .i64 k ∧ Below w7.heap.size w7 wr) (fun s32 _ => l.length - (intOf s32).toNat)
      case atStart => exact ⟨0, Nat.zero_le _, rfl, Below.refl _ _⟩
      case round =>
        obtain ⟨k, hk, rfl, hB⟩ := hrel
        have HB := Lib.hid hB
        clear hB
        by_cases hkl : k < l.length
        · obtain ⟨x, hx⟩ : ∃ x, l[k]? = some x := ⟨_, List.getElem?_eq_getElem hkl⟩
          obtain ⟨g, off, hat, hg, c0, c1, c2, c3, c4, c5, c6⟩ := ((HA.out.later HB7.out).later HB.out) k x hx
          subst hat
          have HKL := Lib.hid hkl
          have HXI := Lib.hid hx
          have k0 : (0 : Int) ≤ (k : Int) := by omega
          have k1 : (k : Int) < (l.length : Int) := by omega
          have k2 : (k : Int) < (l.length : Int) + 1 := by omega
          have k4 : (k : Int) < ((l.length + 1 : Nat) : Int) := by omega
          obtain ⟨kd, o, d, a, b', i, lb⟩ := x
          dsimp only at c0 c1 c2 c3 c4 c5 c6
          clear hx hkl hk
          go_upto_region 10 with fail
          have hal : Below wr.heap.size wr (wr.alloc (.cells #[.int .i64 kd, .int .i64 o, .int .i64 d, .int .i64 a, .int .i64 b', .int .i32 i, .int .i64 lb] 41)) := Below.alloc (Below.refl _ _) (Nat.le_refl _) _
          have RA := Lib.hid (RowAt.new wr [.int .i64 kd, .int .i64 o, .int .i64 d, .int .i64 a, .int .i64 b', .int .i32 i, .int .i64 lb] 41)
          have HBA := Lib.hid (below_call HB.out hal)
          obtain ⟨A, hA⟩ : ∃ A, A = wr.heap.size := ⟨_, rfl⟩
          rw [← hA] at RA ⊢
          obtain ⟨W, hW⟩ : ∃ W, W = wr.alloc (.cells #[.int .i64 kd, .int .i64 o, .int .i64 d, .int .i64 a, .int .i64 b', .int .i32 i, .int .i64 lb] 41) := ⟨_, rfl⟩
          have hE : wr.alloc (.cells [Value.int .i64 kd, .int .i64 o, .int .i64 d, .int .i64 a, .int .i64 b', .int .i32 i, .int .i64 lb].toArray 41) = W := by rw [hW]
          rw [hE] at RA
          rw [← hW] at HBA ⊢
          clear hal hA hW hE c0 c1 c2 c3 c4 c5 c6
          have a0 := RA.out.cell 0 _ rfl
          have al := RA.out.lt
          have rw1 := RW.out.over HBA.out
          have rf1 := RF7.out.over HBA.out
          have rt1 := RT7.out.over HBA.out
          have q0 := rt1.cell k _ (iR_at tg HKL.out)
          have ql := rt1.lt
          have f0 := rf1.cell k _ (bR_at F HKL.out)
          have fl := rf1.lt
          have w1c := rw1.cell k _ (iR_at (n := l.length + 1) _ (by have := HKL.out; omega))
          have wl := rw1.lt
          have b2 := pl_bd (rxM_ok HTG.out) F k
          have HFBK := Lib.hid (HFB.out k)
          have HBR := Lib.hid (brL_at HXI.out)
          obtain ⟨p2, hp2⟩ : ∃ p, p = (rxM l tg).pl F k := ⟨_, rfl⟩
          rw [← hp2] at w1c b2
          have e2 := b2.1
          have e4 : p2 ≤ 32000 := by have := b2.2; omega
          clear b2 hp2
          by_cases hj : F k = true ∨ kd = 4
          · have hkd : kd = 3 ∨ kd = 4 := by
              rcases hj with h | h
              · have := (HFBK.out h).2; rw [HBR.out] at this; exact .inl (by simpa using this)
              · exact .inr h
            obtain ⟨t, y, ht1, ht2, _⟩ := HTG.out.t k _ HXI.out hkd
            rw [ht1] at q0
            have w0c := rw1.cell t _ (iR_at (n := l.length + 1) _ (by omega))
            have b1 := pl_bd (rxM_ok HTG.out) F t
            obtain ⟨p1, hp1⟩ : ∃ p, p = (rxM l tg).pl F t := ⟨_, rfl⟩
            rw [← hp1] at w0c b1
            have e1 := b1.1
            have e3 : p1 ≤ 32000 := by have := b1.2; omega
            have t0 : (0 : Int) ≤ (t : Int) := by omega
            have t1 : (t : Int) < (l.length : Int) + 1 := by omega
            have t2 : (t : Int) < ((l.length + 1 : Nat) : Int) := by omega
            have HBT := Lib.hid (fun (q : Int) (W : World) (h1 : -40000 ≤ q) (h2 : q ≤ 40000) => show Calls Tryd.prog 31 #[.int .i64 q, .int .i64 (-1048576), .int .i64 1048574] W fun e w' => e = .returned (.bool true) ∧ w' = W from by
              have h := between_any q (-1048576) 1048574 W
              rw [show (decide (-1048576 ≤ q) && decide (q ≤ 1048574)) = true by simp; omega] at h
              exact h)
            clear b1 hp1 ht1 ht2 rw1 rf1 rt1 hkd
            cases hF : F k with
            | true =>
              rw [hF] at f0
              clear hj hF
              go_wp2_with (go_at_call 31; refine (HBT.out _ _ (by omega) (by omega)).mono ?_; rintro e w9 ⟨rfl, rfl⟩)
              exact ⟨⟨k + 1, HKL.out, rfl, HBA.out⟩, by have := HKL.out; simp [intOf]; omega⟩
            | false =>
              rw [hF] at f0
              have t3 : (kd == 4) = true := by rcases hj with h | h; (rw [hF] at h; cases h); simp [h]
              clear hj hF
              go_wp2_with (go_at_call 31; refine (HBT.out _ _ (by omega) (by omega)).mono ?_; rintro e w9 ⟨rfl, rfl⟩)
              exact ⟨⟨k + 1, HKL.out, rfl, HBA.out⟩, by have := HKL.out; simp [intOf]; omega⟩
          · have hF : F k = false := by cases h : F k with | true => exact absurd (.inl h) hj | false => rfl
            have t3 : (kd == 4) = false := by simp; exact fun h => hj (.inr h)
            rw [hF] at f0
            clear hj hF rw1 rf1 rt1
            go_wp2_with fail
            exact ⟨⟨k + 1, HKL.out, rfl, HBA.out⟩, by have := HKL.out; simp [intOf]; omega⟩
        · obtain rfl : k = l.length := by omega
          have kx : ¬ ((l.length : Int) < (l.length : Int)) := by omega
          clear hkl hk
          have RWz := Lib.hid (RW.out.over HB.out)
          have RFz := Lib.hid (RF7.out.over HB.out)
          have HBz := Lib.hid (below_call HB7.out HB.out)
          go_wp2_with fail
          go_returns
          exact ly_yes HBz.out HBWW.out HW5.out RWz.out RFz.out HCL.out HTG.out HCD.out HLE.out HFB.out
    · exfalso
      obtain ⟨tg, ht⟩ := HTE.out
      exact h1 ⟨ht.u, tgOk_present ht⟩
  · have HB1 := Lib.hid hb1
    have HTK := Lib.hid h1
    clear hb1 h1
    go_wp2_with fail
    go_returns
    exact ly_no HB1.out (by decide) HTK.out
  · have HB1 := Lib.hid hb1
    have HTK := Lib.hid h1
    clear hb1 h1
    go_wp2_with fail
    go_returns
    exact ly_no HB1.out (by decide) HTK.out
end Go.Proofs.YtipecnofjdhobaaDoor
