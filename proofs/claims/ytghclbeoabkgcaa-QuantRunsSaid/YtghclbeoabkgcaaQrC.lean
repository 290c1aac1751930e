/- The statement QuantRuns of layer 20 (numbers brought to a byte by a loop program): it returns true for all inputs. -/
import Derived.Test.YtghclbeoabkgcaaRows
import Derived.Test.YtghclbeoabkgcaaQrB
import Derived.Deep.AppendLies
namespace Go.Proofs.Ytghclbeoabkgcaa
open Pl Go Go.RowKit Go.ChangeShapes Go.WideShapes Go.ChangeAt
set_option linter.unusedVariables false

theorem below_own {m : Nat} {V V' : World} {v : Value} (hg : V.grownBy V' v.ownBlock) (hb : ∀ k, v.ownBlock = some k → m ≤ k) (hm : m ≤ V.heap.size) : Below m V V' :=
  ⟨hg.os, hg.tape, hg.output, hg.size, fun i hi => hg.block i (by omega) (fun e => by have := hb i (by first | exact e | exact e.symm); omega)⟩
theorem By4.own9 {B : Nat} {s z lo hi : Int} {w w' : World} (h : By4 B s z lo hi w) (hb : Below (B + 1) w w') : By4 B s z lo hi w' :=
  ⟨(hb.cell (by show B < B + 1; omega)).trans h.c0, (hb.cell (by show B < B + 1; omega)).trans h.c1, (hb.cell (by show B < B + 1; omega)).trans h.c2, (hb.cell (by show B < B + 1; omega)).trans h.c3, Nat.lt_of_lt_of_le h.lt hb.size⟩
theorem own_word {w : World} {base : Nat} {e : TypeId} {v : Value} {f : Nat → Int} (h : w.ownsRow base e 1 v 64 (cellsF f)) : ∃ g c, v = .slice (some ⟨g, 0, none⟩) 64 c ∧ w.cell? ⟨g, 0, none⟩ = some (.int .u32 (f 0)) ∧ g < w.heap.size := by
  have hlt := h.lt
  have h' := h
  obtain ⟨_, ⟨hv, hn⟩ | ⟨g, cap, cur, hv, hg, hh, hc, hcm, _⟩⟩ := h
  · omega
  · refine ⟨g, cap, hv, ?_, (hlt g (by rw [hv]; rfl)).2⟩
    have := h'.cells (g := g) (by rw [hv]; rfl) 0 _ (cellsF_at f (by decide))
    rw [add_at] at this
    exact this
def NewsAt (V : World) (b : Nat) (l : List Q5) : Prop := ∀ j u, (flat l)[j]? = some u → V.cell? ((⟨b, 0, none⟩ : Addr).add j) = some u
theorem NewsAt.later {V V' : World} {b : Nat} {l : List Q5} (h : NewsAt V b l) (hb : b < V.heap.size) (hbl : Below V.heap.size V V') : NewsAt V' b l := fun j u hj => by
  have := h j u hj
  rw [add_at] at this ⊢
  exact (hbl.cell hb).trans this
theorem NewsAt.own {V V' : World} {b : Nat} {l : List Q5} {v : Value} (h : NewsAt V b l) (hg : V.grownBy V' v.ownBlock) (hb : ∀ k, v.ownBlock = some k → k < b) : NewsAt V' b l := fun j u hj => by
  have := h j u hj
  rw [add_at] at this ⊢
  exact hg.cell this (fun e => by have := hb b (by first | exact e | exact e.symm); omega)
theorem own_top {w : World} {base n size : Nat} {e : TypeId} {v : Value} {xs : List Value} (h : w.ownsRow base e size v n xs) : ∀ k, v.ownBlock = some k → k < w.heap.size := fun k hk => (h.lt k hk).2
theorem lit_news (V : World) (x : Q5) (e : TypeId) : NewsAt (V.alloc (.cells #[.int .i64 x.o, .int .i64 x.d, .int .i64 x.a, .int .i64 x.b, .int .i32 x.i] e)) V.heap.size [x] := by
  have h := World.news_of_block (cs := #[.int .i64 x.o, .int .i64 x.d, .int .i64 x.a, .int .i64 x.b, .int .i32 x.i]) (t := e) (fr := (0, 0)) (heap_alloc_new V (.cells #[.int .i64 x.o, .int .i64 x.d, .int .i64 x.a, .int .i64 x.b, .int .i32 x.i] e))
  intro j u hj
  exact h j u (by simpa [flat, Q5.cells] using hj)
set_option maxRecDepth 100000 in
set_option maxHeartbeats 4000000 in
theorem qruns_main (n m s z lo hi : Int) (w : World) (hn : -2147483648 ≤ n ∧ n ≤ 2147483647) (hm : -2147483648 ≤ m ∧ m ≤ 2147483647) (C1 : canqS 0 0 1 s = true) (C2 : boundsS 0 1 lo hi = true) (C3 : decide (1000 < z) = false) (C4 : decide (z < -1000) = false) (D1 : decide (268435456 < scaleS n m s) = false) (D2 : decide (scaleS n m s < -268435456) = false) (hs : 0 ≤ s ∧ s ≤ 31) (hz : -1000 ≤ z ∧ z ≤ 1000) (hb : -536870912 ≤ lo ∧ lo ≤ hi ∧ hi ≤ 536870912) (hsc : -268435456 ≤ scaleS n m s ∧ scaleS n m s ≤ 268435456) :
    Calls Try.prog 3 #[.int .i32 n, .int .i32 m, .agg #[.int .i64 s, .int .i32 z, .int .i32 lo, .int .i32 hi]] w fun e w' => e = .returned (.bool true) ∧ Below w.heap.size w w' := by
  have SS := Lib.hid (show ∀ w, Calls Try.prog 14 #[.int .i64 0, .int .i64 0, .int .i64 1, .int .i32 m, .int .i64 s] w (StepsIn (stepsQ 0 0 1 m s) w) from fun w => steps_some 0 0 1 m s w C1)
  have SCL := Lib.hid (fun w => ref20_scale n m s w hn hm)
  obtain ⟨W0, hW0⟩ : ∃ W0, W0 = w.alloc (.cells #[.int .i64 s, .int .i32 z, .int .i32 lo, .int .i32 hi] 23) := ⟨_, rfl⟩
  have BX := Lib.hid (show By4 w.heap.size s z lo hi W0 by rw [hW0]; exact by4_new _ _ _ _ _ _)
  have B0 := Lib.hid (show Below w.heap.size w W0 by rw [hW0]; exact (Below.refl _ _).alloc (Nat.le_refl _) _)
  have E0 := Lib.hid (show W0.heap.size = w.heap.size + 1 by rw [hW0]; simp)
  obtain ⟨i0, hi0, hz0, hz1, hz2⟩ := info_parts info_lop
  go_enter Try.func3, Try.ntmps3
  go_wp2_with (first | (go_at_call 11; refine (canq_any _ _ _ _ _ (by omega)).mono ?_; rw [C1]; rintro e w' ⟨rfl, rfl⟩) | (go_at_call 12; refine (bounds_any _ _ _ _ _ (by omega)).mono ?_; rw [C2]; rintro e w' ⟨rfl, rfl⟩) | (go_at_call 13; refine (law20_lives _).mono ?_; rintro e w1 ⟨rfl, b1⟩))
  rw [← hW0]
  refine (SS.out _).mono ?_
  rintro e w2 ⟨b, c, rfl, h5, hge, hlt, b2⟩
  have OWN := Lib.hid (own_later (lit_own W0 ⟨1, 0, 0, 0, n⟩ 29) b2)
  rw [E0.out] at OWN
  have NEWS := Lib.hid h5.news
  have BL := Lib.hid (show Below W0.heap.size W0 w2 from ((Below.refl _ _).alloc (Nat.le_refl _) _).trans (b2.mono (by simp)))
  have LN := Lib.hid (stepsQ_lenR m s)
  have LNF := Lib.hid (flat_len (stepsQ 0 0 1 m s))
  have ONE := Lib.hid (flat_one (stepsQ 0 0 1 m s))
  have BX2 := BX.out.grown BL.out
  clear h5 hge hlt b2
  obtain ⟨c0, c1, c2, c3, clt⟩ := BX2
  generalize hG : stepsQ 0 0 1 m s = G at *
  go_wp2_with (at_builtin; refine wpList_append_own _ rfl (.tmp 38) (.tmp 42) 27 rfl (w.heap.size + 1) 29 i0 (.agg #[.int .i64 0, .int .i64 0, .int .i64 0, .int .i64 0, .int .i32 0]) 5 40 Try.underlying27 hi0 hz0 hz1 hz2 rfl (by decide) (.slice (some ⟨w.heap.size + 1, 0, none⟩) 1 1) 1 (flat [⟨1, 0, 0, 0, n⟩]) rfl OWN.out ⟨b, 0, none⟩ G.length c (flat G) rfl LNF.out NEWS.out ONE.out (by have := LN.out; simp [maxLen]; omega) (by have := LN.out; omega) (by rw [← E0.out]; exact BL.out.size) ?_; intro v1 w3 hown hg hn3; have B3 := Lib.hid (below_grown BL.out hg (fun k hk => by cases hk; rw [E0.out]; exact Nat.le_refl _)); obtain ⟨d0, d1, d2, d3, dlt⟩ := BX.out.grown B3.out; have OWN3 := Lib.hid hown; clear hown hg hn3 c0 c1 c2 c3 clt NEWS OWN)
  refine (SCL.out _).mono ?_
  rintro e w9 ⟨rfl, rfl⟩
  go_wp2_with (first | (go_at_call 15; refine (SCL.out _).mono ?_; rintro e w' ⟨rfl, rfl⟩) | (go_at_call 11; refine (canq_any _ _ _ _ _ (by omega)).mono ?_; rw [C1]; rintro e w' ⟨rfl, rfl⟩) | (go_at_call 12; refine (bounds_any _ _ _ _ _ (by omega)).mono ?_; rw [C2]; rintro e w' ⟨rfl, rfl⟩) | (go_at_call 13; refine (law20_lives _).mono ?_; rintro e w1 ⟨rfl, b1⟩))
  refine wp_region_held_drew (S := (fun w' => w'.cell? ⟨w.heap.size, 1, none⟩ = some (.int .i32 z) ∧ w'.cell? ⟨w.heap.size, 2, none⟩ = some (.int .i32 lo) ∧ w'.cell? ⟨w.heap.size, 3, none⟩ = some (.int .i32 hi) ∧ Below (w.heap.size + 1) w3.drew w')) (by kernel_rfl) ⟨d1, d2, d3, Below.refl _ _⟩ (fun hHeld => ?_)
  have OWNU := Lib.hid (own_later OWN3.out (show Below w3.heap.size w3 w3.drew from (Below.refl _ _).drew))
  have SU := Lib.hid (show w3.drew.heap.size = w3.heap.size from rfl)
  obtain ⟨U, hU⟩ : ∃ U, w3.drew = U := ⟨_, rfl⟩
  rw [hU] at hHeld OWNU SU ⊢
  refine wpAnyH_take (i := 0) (oi := _) (v := ?v0_1) rfl (by kernel_rfl) (by kernel_rfl) (by kernel_rfl) (fun _ _ _ h => h) (Or.inl ⟨by rfl, ?y0_1⟩) hHeld ?r0_1
  case y0_1 => (intro wq hSw; (try dsimp only at hSw); obtain ⟨c1, c2, c3, cB⟩ := hSw; go_simp; try with_reducible rfl)
  try simp only [Act.put, List.getElem_toArray, List.getElem_cons_zero, List.setIfInBounds_toArray, List.set_cons_zero, List.set_cons_succ]
  refine wpAnyH_take (i := 1) (oi := _) (v := ?v1_2) rfl (by kernel_rfl) (by kernel_rfl) (by kernel_rfl) (fun _ _ _ h => h) (Or.inl ⟨by rfl, ?y1_2⟩) hHeld ?r1_2
  case y1_2 => (intro wq hSw; (try dsimp only at hSw); obtain ⟨c1, c2, c3, cB⟩ := hSw; go_simp; try with_reducible rfl)
  try simp only [Act.put, List.getElem_toArray, List.getElem_cons_zero, List.getElem_cons_succ, List.setIfInBounds_toArray, List.set_cons_zero, List.set_cons_succ]
  refine wpAnyH_take (i := 2) (oi := _) (v := ?v2_3) rfl (by kernel_rfl) (by kernel_rfl) (by kernel_rfl) (fun _ _ _ h => h) (Or.inl ⟨by rfl, ?y2_3⟩) hHeld ?r2_3
  case y2_3 => (intro wq hSw; (try dsimp only at hSw); obtain ⟨c1, c2, c3, cB⟩ := hSw; go_simp; try with_reducible rfl)
  try simp only [Act.put, List.getElem_toArray, List.getElem_cons_zero, List.getElem_cons_succ, List.setIfInBounds_toArray, List.set_cons_zero, List.set_cons_succ]
  refine wpAnyH_take (i := 3) (oi := _) (v := ?v3_4) rfl (by kernel_rfl) (by kernel_rfl) (by kernel_rfl) (fun _ _ _ h => h) (Or.inl ⟨by rfl, ?y3_4⟩) hHeld ?r3_4
  case y3_4 => (intro wq hSw; (try dsimp only at hSw); obtain ⟨c1, c2, c3, cB⟩ := hSw; go_simp; try with_reducible rfl)
  try simp only [Act.put, List.getElem_toArray, List.getElem_cons_zero, List.getElem_cons_succ, List.setIfInBounds_toArray, List.set_cons_zero, List.set_cons_succ]
  refine wpAnyH_take (i := 6) (oi := _) (v := ?v6_5) rfl (by kernel_rfl) (by kernel_rfl) (by kernel_rfl) (fun _ _ _ h => h) (Or.inl ⟨by rfl, ?y6_5⟩) hHeld ?r6_5
  case y6_5 => (intro wq hSw; (try dsimp only at hSw); obtain ⟨c1, c2, c3, cB⟩ := hSw; go_simp; try with_reducible rfl)
  try simp only [Act.put, List.getElem_toArray, List.getElem_cons_zero, List.getElem_cons_succ, List.setIfInBounds_toArray, List.set_cons_zero, List.set_cons_succ]
  refine wpAnyH_take (i := 7) (oi := _) (v := ?v7_6) rfl (by kernel_rfl) (by kernel_rfl) (by kernel_rfl) (fun _ _ _ h => h) (Or.inl ⟨by rfl, ?y7_6⟩) hHeld ?r7_6
  case y7_6 => (intro wq hSw; (try dsimp only at hSw); obtain ⟨c1, c2, c3, cB⟩ := hSw; go_simp; try with_reducible rfl)
  try simp only [Act.put, List.getElem_toArray, List.getElem_cons_zero, List.getElem_cons_succ, List.setIfInBounds_toArray, List.set_cons_zero, List.set_cons_succ]
  refine wpAnyH_take (i := 8) (oi := _) (v := ?v8_7) rfl (by kernel_rfl) (by kernel_rfl) (by kernel_rfl) (fun _ _ _ h => h) (Or.inl ⟨by rfl, ?y8_7⟩) hHeld ?r8_7
  case y8_7 => (intro wq hSw; (try dsimp only at hSw); obtain ⟨c1, c2, c3, cB⟩ := hSw; go_simp; try with_reducible rfl)
  try simp only [Act.put, List.getElem_toArray, List.getElem_cons_zero, List.getElem_cons_succ, List.setIfInBounds_toArray, List.set_cons_zero, List.set_cons_succ]
  refine wpAnyH_take (i := 9) (oi := _) (v := ?v9_8) rfl (by kernel_rfl) (by kernel_rfl) (by kernel_rfl) (fun _ _ _ h => h) (Or.inl ⟨by rfl, ?y9_8⟩) hHeld ?r9_8
  case y9_8 => (intro wq hSw; (try dsimp only at hSw); obtain ⟨c1, c2, c3, cB⟩ := hSw; go_simp; try with_reducible rfl)
  try simp only [Act.put, List.getElem_toArray, List.getElem_cons_zero, List.getElem_cons_succ, List.setIfInBounds_toArray, List.set_cons_zero, List.set_cons_succ]
  have SZ_U := Lib.hid (show w.heap.size + 1 ≤ U.heap.size by have := SU.out; omega)
  have UB_U := Lib.hid (Nat.le_refl U.heap.size)
  have OWN_U := OWNU
  have CL := Lib.hid (show ∀ w, Calls Try.prog 16 #[.int .i64 0, .int .i64 1, .int .i32 lo, .int .i32 hi] w (StepsIn (clampsQ 0 1 lo hi) w) from fun w => clamps_some 0 1 lo hi w C2)
  have NB := Lib.hid (show 1 + G.length ≤ 11 by have := LN.out; omega)
  have ONE13 := Lib.hid (flat_one [⟨13, 0, 0, 0, z⟩])
  have ONEC := Lib.hid (flat_one (clampsQ 0 1 lo hi))
  have FLP := Lib.hid (show (flat [⟨1, 0, 0, 0, n⟩] ++ flat G) ++ flat [⟨13, 0, 0, 0, z⟩] ++ flat (clampsQ 0 1 lo hi) = flat (progQ n m s z lo hi) by unfold progQ; rw [hG, flat_app, flat_app, flat_app])
  have LNP := Lib.hid (show 1 + G.length + 1 + 8 = (progQ n m s z lo hi).length by unfold progQ; rw [hG]; simp only [List.length_append, List.length_cons, List.length_nil, clamps_len])
  generalize hN1 : 1 + G.length = N1 at OWNU OWN_U NB LNP
  generalize hF1 : flat [⟨1, 0, 0, 0, n⟩] ++ flat G = F1 at OWNU OWN_U FLP
  have BYT := Lib.hid (fun w => ref20_byte n m s z lo hi w hn hm (by omega))
  have BXU := Lib.hid (show By4 w.heap.size s z lo hi U by rw [← hU]; exact (BX.out.grown B3.out).grown ((Below.refl _ _).drew))
  have BU := Lib.hid (show Below w.heap.size w U by rw [← hU]; exact B0.out.trans ((B3.out.mono B0.out.size).trans (((Below.refl w3.heap.size w3).drew).mono (Nat.le_trans B0.out.size B3.out.size))))
  have PLN := Lib.hid (progQ_len n m s z lo hi)
  have FINE := progQ_fine (n := n) (m := m) (s := s) (z := z) (lo := lo) (hi := hi) hn hm hs hz hb.1 hb.2.1 hb.2.2
  have OKP := Lib.hid (fun x hx => fine_oks (FINE x hx))
  obtain ⟨hck, E, hE, hEl⟩ := check_fine FINE (by have := PLN.out; omega)
  have CHK := Lib.hid hck
  have HE := Lib.hid hE
  have HEL := Lib.hid hEl
  have HVAL := Lib.hid (show (runF (progQ n m s z lo hi) (fun _ => 0) 0 == clampS (wrap32 (scaleS n m s + z)) lo hi % 4294967296) = true by rw [progQ_val hn hm hs hz hb.1 hb.2.1 hb.2.2 hsc, byteQ hz hsc]; simp)
  clear FINE hck hE hEl
  refine wpAnyH_ready (rs := [4]) (by kernel_rfl) (by simp) ?_
  refine AllReadyH.cons (o := _) rfl (fun K hK => ?_) (AllReadyH.nil)
  go_simp
  refine hK.out _ _ (by obtain ⟨s1, s2, s3, s4⟩ := hHeld; have hbl := (show Below (w.heap.size + 1) U (U.alloc (.cells #[.int .i64 13, .int .i64 0, .int .i64 0, .int .i64 0, .int .i32 z] 29)) from (Below.refl _ _).alloc SZ_U.out _); exact ⟨(hbl.cell (p := ⟨w.heap.size, 1, none⟩) (by show w.heap.size < w.heap.size + 1; omega)).trans s1, (hbl.cell (p := ⟨w.heap.size, 2, none⟩) (by show w.heap.size < w.heap.size + 1; omega)).trans s2, (hbl.cell (p := ⟨w.heap.size, 3, none⟩) (by show w.heap.size < w.heap.size + 1; omega)).trans s3, s4.trans hbl⟩) (fun hHeld2 => ?_)
  clear hK K hHeld
  have hHeld := hHeld2
  clear hHeld2
  try simp only [Act.put, List.getElem_toArray, List.getElem_cons_zero, List.getElem_cons_succ, List.setIfInBounds_toArray, List.set_cons_zero, List.set_cons_succ]
  have BB_VA := Lib.hid (show Below U.heap.size U (U.alloc (.cells #[.int .i64 13, .int .i64 0, .int .i64 0, .int .i64 0, .int .i32 z] 29)) from (Below.refl _ _).alloc (Nat.le_refl _) _)
  have LIT_VA := Lib.hid (lit_news U ⟨13, 0, 0, 0, z⟩ 29)
  have LH_VA := Lib.hid (show U.heap.size < (U.alloc (.cells #[.int .i64 13, .int .i64 0, .int .i64 0, .int .i64 0, .int .i32 z] 29)).heap.size by simp)
  generalize U.alloc (.cells #[.int .i64 13, .int .i64 0, .int .i64 0, .int .i64 0, .int .i32 z] 29) = VA at hHeld BB_VA LIT_VA LH_VA ⊢
  have SZ_VA := Lib.hid (Nat.le_trans SZ_U.out BB_VA.out.size)
  have OWN_VA := Lib.hid (own_later OWN_U.out BB_VA.out)
  obtain ⟨H60, hH60⟩ : ∃ H60, U.heap.size = H60 := ⟨_, rfl⟩
  rw [hH60] at LIT_VA LH_VA ⊢
  have UB_VA := Lib.hid (Nat.le_trans UB_U.out BB_VA.out.size)
  refine wpAnyH_ready (rs := [5]) (by kernel_rfl) (by simp) ?_
  refine AllReadyH.cons (o := _) rfl (fun K hK => ?_) (AllReadyH.nil)
  refine step_append_lies _ (by rfl) (.tmp 56) (.tmp 60) 27 (by rfl) (w.heap.size + 1) 29 i0 _ 5 40 Try.underlying27 hi0 hz0 hz1 hz2 rfl (by decide) v1 N1 F1 (by rfl) OWN_VA.out ⟨H60, 0, none⟩ 1 1 (flat [⟨13, 0, 0, 0, z⟩]) (by rfl) (by rfl) LIT_VA.out ONE13.out (by decide) (by have := NB.out; simp [maxLen]; omega) (by have := NB.out; omega) SZ_VA.out _ rfl ?_
  intro g3 cap3 VB hown hgr hat hlt
  refine hK.out _ _ (by obtain ⟨s1, s2, s3, s4⟩ := hHeld; have hbl := (below_own hgr (own_base OWN_VA.out) SZ_VA.out); exact ⟨(hbl.cell (p := ⟨w.heap.size, 1, none⟩) (by show w.heap.size < w.heap.size + 1; omega)).trans s1, (hbl.cell (p := ⟨w.heap.size, 2, none⟩) (by show w.heap.size < w.heap.size + 1; omega)).trans s2, (hbl.cell (p := ⟨w.heap.size, 3, none⟩) (by show w.heap.size < w.heap.size + 1; omega)).trans s3, s4.trans hbl⟩) (fun hHeld2 => ?_)
  clear hK K hHeld
  have hHeld := hHeld2
  clear hHeld2
  try simp only [Act.put, List.getElem_toArray, List.getElem_cons_zero, List.getElem_cons_succ, List.setIfInBounds_toArray, List.set_cons_zero, List.set_cons_succ]
  have SZ_VB := Lib.hid (Nat.le_trans SZ_VA.out hgr.size)
  have OW3 := Lib.hid hown
  have UB_VB := Lib.hid (Nat.le_trans UB_VA.out hgr.size)
  clear hown hgr hat hlt
  generalize hN2 : N1 + 1 = N2 at OW3 ⊢
  generalize hF2 : F1 ++ flat [⟨13, 0, 0, 0, z⟩] = F2 at OW3
  refine wpAnyH_ready (rs := [10]) (by kernel_rfl) (by simp) ?_
  refine AllReadyH.cons (o := _) rfl (fun K hK => ?_) (AllReadyH.nil)
  go_simp
  refine (CL.out _).mono ?_
  rintro e VC ⟨b2, k2, rfl, h5, hge, hlt, BB_VC⟩
  refine hK.out _ _ (by obtain ⟨s1, s2, s3, s4⟩ := hHeld; have hbl := (BB_VC.mono SZ_VB.out); exact ⟨(hbl.cell (p := ⟨w.heap.size, 1, none⟩) (by show w.heap.size < w.heap.size + 1; omega)).trans s1, (hbl.cell (p := ⟨w.heap.size, 2, none⟩) (by show w.heap.size < w.heap.size + 1; omega)).trans s2, (hbl.cell (p := ⟨w.heap.size, 3, none⟩) (by show w.heap.size < w.heap.size + 1; omega)).trans s3, s4.trans hbl⟩) (fun hHeld2 => ?_)
  clear hK K hHeld
  have hHeld := hHeld2
  clear hHeld2
  try simp only [Act.put, List.getElem_toArray, List.getElem_cons_zero, List.getElem_cons_succ, List.setIfInBounds_toArray, List.set_cons_zero, List.set_cons_succ]
  have CLM_VC := Lib.hid (show NewsAt VC b2 (clampsQ 0 1 lo hi) from h5.news)
  have SZ_VC := Lib.hid (Nat.le_trans SZ_VB.out BB_VC.size)
  replace OW3 := Lib.hid (own_later OW3.out BB_VC)
  clear h5 hge hlt BB_VC
  refine wpAnyH_ready (rs := [11]) (by kernel_rfl) (by simp) ?_
  refine AllReadyH.cons (o := _) rfl (fun K hK => ?_) (AllReadyH.nil)
  refine step_append_lies _ (by rfl) (.tmp 61) (.tmp 66) 27 (by rfl) (w.heap.size + 1) 29 i0 _ 5 40 Try.underlying27 hi0 hz0 hz1 hz2 rfl (by decide) (.slice (some ⟨g3, 0, none⟩) N2 cap3) N2 F2 (by rfl) OW3.out ⟨b2, 0, none⟩ 8 k2 (flat (clampsQ 0 1 lo hi)) (by rfl) (by rfl) CLM_VC.out ONEC.out (by decide) (by have := NB.out; simp [maxLen]; omega) (by have := NB.out; omega) SZ_VC.out _ rfl ?_
  intro g4 cap4 V9 hown hgr hat hlt
  refine hK.out _ _ (by obtain ⟨s1, s2, s3, s4⟩ := hHeld; have hbl := (below_own hgr (own_base OW3.out) SZ_VC.out); exact ⟨(hbl.cell (p := ⟨w.heap.size, 1, none⟩) (by show w.heap.size < w.heap.size + 1; omega)).trans s1, (hbl.cell (p := ⟨w.heap.size, 2, none⟩) (by show w.heap.size < w.heap.size + 1; omega)).trans s2, (hbl.cell (p := ⟨w.heap.size, 3, none⟩) (by show w.heap.size < w.heap.size + 1; omega)).trans s3, s4.trans hbl⟩) (fun hHeld2 => ?_)
  clear hK K hHeld
  have hHeld := hHeld2
  clear hHeld2
  try simp only [Act.put, List.getElem_toArray, List.getElem_cons_zero, List.getElem_cons_succ, List.setIfInBounds_toArray, List.set_cons_zero, List.set_cons_succ]
  have OW4 := Lib.hid (show V9.ownsRow (w.heap.size + 1) 29 5 (.slice (some ⟨g4, 0, none⟩) (N2 + 8) cap4) (N2 + 8) (flat (progQ n m s z lo hi)) by rw [← FLP.out, hF2]; exact hown)
  clear hown hgr hat hlt
  refine wpAnyH_take (i := 12) (oi := _) (v := ?v12_40) rfl (by kernel_rfl) (by kernel_rfl) (by kernel_rfl) (fun _ _ _ h => h) (Or.inl ⟨by rfl, ?y12_40⟩) hHeld ?r12_40
  case y12_40 => (intro wq hSw; (try dsimp only at hSw); obtain ⟨c1, c2, c3, cB⟩ := hSw; go_simp; try with_reducible rfl)
  try simp only [Act.put, List.getElem_toArray, List.getElem_cons_zero, List.getElem_cons_succ, List.setIfInBounds_toArray, List.set_cons_zero, List.set_cons_succ]
  refine wpAnyH_done (by kernel_rfl) ?_ _
  have LN9 : N2 + 8 = (progQ n m s z lo hi).length := by rw [← hN2]; exact LNP.out
  have X9 := Lib.hid (show By4 w.heap.size s z lo hi V9 from BXU.out.own9 hHeld.2.2.2)
  have B9 := Lib.hid (show Below w.heap.size w V9 from BU.out.trans (hHeld.2.2.2.mono (Nat.le_succ _)))
  obtain ⟨g9, c9, hv, h5, hge, hlt⟩ := own_steps OW4.out LN9 (by omega) (by have := PLN.out; omega)
  rw [LN9] at hv ⊢
  obtain ⟨rfl, rfl⟩ : g4 = g9 ∧ cap4 = c9 := by simpa using hv
  have RUN := Lib.hid (run_straight 1000 (progQ n m s z lo hi) g4 0 cap4 E V9 OKP.out (by have := PLN.out; omega) h5 hlt CHK.out HE.out (by have := PLN.out; have := HEL.out; omega) (by have := PLN.out; omega))
  clear hHeld hv h5 hge hlt OW4 OW3
  go_wp2_with fail
  refine RUN.out.mono ?_
  rintro e w5 ⟨⟨v5, rfl, own5⟩, b5⟩
  obtain ⟨g5, c5, rfl, hc5, hlt5⟩ := own_word own5
  have B5 := Lib.hid (B9.out.trans (b5.mono B9.out.size))
  have X5 := Lib.hid (X9.out.grown b5)
  clear own5 b5
  go_wp2_with fail
  have D5 := Lib.hid (show w5.drew.cell? ⟨w.heap.size, 0, none⟩ = some (.int .i64 s) ∧ w5.drew.cell? ⟨w.heap.size, 1, none⟩ = some (.int .i32 z) ∧ w5.drew.cell? ⟨w.heap.size, 2, none⟩ = some (.int .i32 lo) ∧ w5.drew.cell? ⟨w.heap.size, 3, none⟩ = some (.int .i32 hi) ∧ w5.drew.cell? ⟨g5, 0, none⟩ = some (.int .u32 (runF (progQ n m s z lo hi) (fun _ => 0) 0)) ∧ w.heap.size < w5.drew.heap.size ∧ g5 < w5.drew.heap.size ∧ Below w5.heap.size w5 w5.drew from ⟨X5.out.c0, X5.out.c1, X5.out.c2, X5.out.c3, hc5, X5.out.lt, hlt5, (Below.refl _ _).drew⟩)
  clear hc5 hlt5
  have HEQ := HVAL.out
  have HEW : (runF (progQ n m s z lo hi) (fun _ => 0) 0 == IntKind.u32.wrap (clampS (wrap32 (scaleS n m s + z)) lo hi)) = true := by rw [IntKind.wrap_u32]; exact HEQ
  generalize runF (progQ n m s z lo hi) (fun _ => 0) 0 = R9 at D5 HEQ HEW
  generalize clampS (wrap32 (scaleS n m s + z)) lo hi = C9 at HEQ HEW BYT
  refine wp_region_held_drew (S := (fun w' => w'.cell? ⟨w.heap.size, 0, none⟩ = some (.int .i64 s) ∧ w'.cell? ⟨w.heap.size, 1, none⟩ = some (.int .i32 z) ∧ w'.cell? ⟨w.heap.size, 2, none⟩ = some (.int .i32 lo) ∧ w'.cell? ⟨w.heap.size, 3, none⟩ = some (.int .i32 hi) ∧ w'.cell? ⟨g5, 0, none⟩ = some (.int .u32 R9) ∧ w.heap.size < w'.heap.size ∧ g5 < w'.heap.size ∧ Below w5.heap.size w5 w')) (by kernel_rfl) D5.out (fun hHeld => ?_)
  refine wpAnyH_take (i := 0) (oi := _) (v := ?v0_41) rfl (by kernel_rfl) (by kernel_rfl) (by kernel_rfl) (fun _ _ _ h => h) (Or.inl ⟨by rfl, ?y0_41⟩) hHeld ?r0_41
  case y0_41 => (intro wq hSw; (try dsimp only at hSw); obtain ⟨q0, q1, q2, q3, qv, qX, qg, qB⟩ := hSw; go_simp; try with_reducible rfl)
  try simp only [Act.put, List.getElem_toArray, List.getElem_cons_zero, List.setIfInBounds_toArray, List.set_cons_zero, List.set_cons_succ]
  refine wpAnyH_take (i := 1) (oi := _) (v := ?v1_42) rfl (by kernel_rfl) (by kernel_rfl) (by kernel_rfl) (fun _ _ _ h => h) (Or.inl ⟨by rfl, ?y1_42⟩) hHeld ?r1_42
  case y1_42 => (intro wq hSw; (try dsimp only at hSw); obtain ⟨q0, q1, q2, q3, qv, qX, qg, qB⟩ := hSw; go_simp; try with_reducible rfl)
  try simp only [Act.put, List.getElem_toArray, List.getElem_cons_zero, List.getElem_cons_succ, List.setIfInBounds_toArray, List.set_cons_zero, List.set_cons_succ]
  refine wpAnyH_take (i := 2) (oi := _) (v := ?v2_43) rfl (by kernel_rfl) (by kernel_rfl) (by kernel_rfl) (fun _ _ _ h => h) (Or.inl ⟨by rfl, ?y2_43⟩) hHeld ?r2_43
  case y2_43 => (intro wq hSw; (try dsimp only at hSw); obtain ⟨q0, q1, q2, q3, qv, qX, qg, qB⟩ := hSw; go_simp; try with_reducible rfl)
  try simp only [Act.put, List.getElem_toArray, List.getElem_cons_zero, List.getElem_cons_succ, List.setIfInBounds_toArray, List.set_cons_zero, List.set_cons_succ]
  refine wpAnyH_take (i := 3) (oi := _) (v := ?v3_44) rfl (by kernel_rfl) (by kernel_rfl) (by kernel_rfl) (fun _ _ _ h => h) (Or.inl ⟨by rfl, ?y3_44⟩) hHeld ?r3_44
  case y3_44 => (intro wq hSw; (try dsimp only at hSw); obtain ⟨q0, q1, q2, q3, qv, qX, qg, qB⟩ := hSw; go_simp; try with_reducible rfl)
  try simp only [Act.put, List.getElem_toArray, List.getElem_cons_zero, List.getElem_cons_succ, List.setIfInBounds_toArray, List.set_cons_zero, List.set_cons_succ]
  refine wpAnyH_take (i := 4) (oi := _) (v := ?v4_45) rfl (by kernel_rfl) (by kernel_rfl) (by kernel_rfl) (fun _ _ _ h => h) (Or.inl ⟨by rfl, ?y4_45⟩) hHeld ?r4_45
  case y4_45 => (intro wq hSw; (try dsimp only at hSw); obtain ⟨q0, q1, q2, q3, qv, qX, qg, qB⟩ := hSw; go_simp; try with_reducible rfl)
  try simp only [Act.put, List.getElem_toArray, List.getElem_cons_zero, List.getElem_cons_succ, List.setIfInBounds_toArray, List.set_cons_zero, List.set_cons_succ]
  refine wpAnyH_take (i := 5) (oi := _) (v := ?v5_46) rfl (by kernel_rfl) (by kernel_rfl) (by kernel_rfl) (fun _ _ _ h => h) (Or.inl ⟨by rfl, ?y5_46⟩) hHeld ?r5_46
  case y5_46 => (intro wq hSw; (try dsimp only at hSw); obtain ⟨q0, q1, q2, q3, qv, qX, qg, qB⟩ := hSw; go_simp; try with_reducible rfl)
  try simp only [Act.put, List.getElem_toArray, List.getElem_cons_zero, List.getElem_cons_succ, List.setIfInBounds_toArray, List.set_cons_zero, List.set_cons_succ]
  refine wpAnyH_take (i := 6) (oi := _) (v := ?v6_47) rfl (by kernel_rfl) (by kernel_rfl) (by kernel_rfl) (fun _ _ _ h => h) (Or.inl ⟨by rfl, ?y6_47⟩) hHeld ?r6_47
  case y6_47 => (intro wq hSw; (try dsimp only at hSw); obtain ⟨q0, q1, q2, q3, qv, qX, qg, qB⟩ := hSw; go_simp; try with_reducible rfl)
  try simp only [Act.put, List.getElem_toArray, List.getElem_cons_zero, List.getElem_cons_succ, List.setIfInBounds_toArray, List.set_cons_zero, List.set_cons_succ]
  refine wpAnyH_take (i := 7) (oi := _) (v := ?v7_48) rfl (by kernel_rfl) (by kernel_rfl) (by kernel_rfl) (fun _ _ _ h => h) (Or.inl ⟨by rfl, ?y7_48⟩) hHeld ?r7_48
  case y7_48 => (intro wq hSw; (try dsimp only at hSw); obtain ⟨q0, q1, q2, q3, qv, qX, qg, qB⟩ := hSw; go_simp; try with_reducible rfl)
  try simp only [Act.put, List.getElem_toArray, List.getElem_cons_zero, List.getElem_cons_succ, List.setIfInBounds_toArray, List.set_cons_zero, List.set_cons_succ]
  refine wpAnyH_take (i := 8) (oi := _) (v := ?v8_49) rfl (by kernel_rfl) (by kernel_rfl) (by kernel_rfl) (fun _ _ _ h => h) (Or.inl ⟨by rfl, ?y8_49⟩) hHeld ?r8_49
  case y8_49 => (intro wq hSw; (try dsimp only at hSw); obtain ⟨q0, q1, q2, q3, qv, qX, qg, qB⟩ := hSw; go_simp; try with_reducible rfl)
  try simp only [Act.put, List.getElem_toArray, List.getElem_cons_zero, List.getElem_cons_succ, List.setIfInBounds_toArray, List.set_cons_zero, List.set_cons_succ]
  refine wpAnyH_take (i := 9) (oi := _) (v := ?v9_50) rfl (by kernel_rfl) (by kernel_rfl) (by kernel_rfl) (fun _ _ _ h => h) (Or.inl ⟨by rfl, ?y9_50⟩) hHeld ?r9_50
  case y9_50 => (intro wq hSw; (try dsimp only at hSw); obtain ⟨q0, q1, q2, q3, qv, qX, qg, qB⟩ := hSw; go_simp; try with_reducible rfl)
  try simp only [Act.put, List.getElem_toArray, List.getElem_cons_zero, List.getElem_cons_succ, List.setIfInBounds_toArray, List.set_cons_zero, List.set_cons_succ]
  refine wpAnyH_take (i := 10) (oi := _) (v := ?v10_51) rfl (by kernel_rfl) (by kernel_rfl) (by kernel_rfl) (fun _ _ _ h => h) (Or.inl ⟨by rfl, ?y10_51⟩) hHeld ?r10_51
  case y10_51 => (intro wq hSw; (try dsimp only at hSw); obtain ⟨q0, q1, q2, q3, qv, qX, qg, qB⟩ := hSw; go_simp; try with_reducible rfl)
  try simp only [Act.put, List.getElem_toArray, List.getElem_cons_zero, List.getElem_cons_succ, List.setIfInBounds_toArray, List.set_cons_zero, List.set_cons_succ]
  refine wpAnyH_take (i := 11) (oi := _) (v := ?v11_52) rfl (by kernel_rfl) (by kernel_rfl) (by kernel_rfl) (fun _ _ _ h => h) (Or.inl ⟨by rfl, ?y11_52⟩) hHeld ?r11_52
  case y11_52 => (intro wq hSw; (try dsimp only at hSw); obtain ⟨q0, q1, q2, q3, qv, qX, qg, qB⟩ := hSw; go_simp; try with_reducible rfl)
  try simp only [Act.put, List.getElem_toArray, List.getElem_cons_zero, List.getElem_cons_succ, List.setIfInBounds_toArray, List.set_cons_zero, List.set_cons_succ]
  refine wpAnyH_take (i := 12) (oi := _) (v := ?v12_53) rfl (by kernel_rfl) (by kernel_rfl) (by kernel_rfl) (fun _ _ _ h => h) (Or.inl ⟨by rfl, ?y12_53⟩) hHeld ?r12_53
  case y12_53 => (intro wq hSw; (try dsimp only at hSw); obtain ⟨q0, q1, q2, q3, qv, qX, qg, qB⟩ := hSw; go_simp; try with_reducible rfl)
  try simp only [Act.put, List.getElem_toArray, List.getElem_cons_zero, List.getElem_cons_succ, List.setIfInBounds_toArray, List.set_cons_zero, List.set_cons_succ]
  refine wpAnyH_take (i := 13) (oi := _) (v := ?v13_54) rfl (by kernel_rfl) (by kernel_rfl) (by kernel_rfl) (fun _ _ _ h => h) (Or.inl ⟨by rfl, ?y13_54⟩) hHeld ?r13_54
  case y13_54 => (intro wq hSw; (try dsimp only at hSw); obtain ⟨q0, q1, q2, q3, qv, qX, qg, qB⟩ := hSw; go_simp; try with_reducible rfl)
  try simp only [Act.put, List.getElem_toArray, List.getElem_cons_zero, List.getElem_cons_succ, List.setIfInBounds_toArray, List.set_cons_zero, List.set_cons_succ]
  refine wpAnyH_take (i := 14) (oi := _) (v := ?v14_55) rfl (by kernel_rfl) (by kernel_rfl) (by kernel_rfl) (fun _ _ _ h => h) (Or.inl ⟨by rfl, ?y14_55⟩) hHeld ?r14_55
  case y14_55 => (intro wq hSw; (try dsimp only at hSw); obtain ⟨q0, q1, q2, q3, qv, qX, qg, qB⟩ := hSw; go_simp; try with_reducible rfl)
  try simp only [Act.put, List.getElem_toArray, List.getElem_cons_zero, List.getElem_cons_succ, List.setIfInBounds_toArray, List.set_cons_zero, List.set_cons_succ]
  refine wpAnyH_take (i := 15) (oi := _) (v := ?v15_56) rfl (by kernel_rfl) (by kernel_rfl) (by kernel_rfl) (fun _ _ _ h => h) (Or.inl ⟨by rfl, ?y15_56⟩) hHeld ?r15_56
  case y15_56 => (intro wq hSw; (try dsimp only at hSw); obtain ⟨q0, q1, q2, q3, qv, qX, qg, qB⟩ := hSw; go_simp; try with_reducible rfl)
  try simp only [Act.put, List.getElem_toArray, List.getElem_cons_zero, List.getElem_cons_succ, List.setIfInBounds_toArray, List.set_cons_zero, List.set_cons_succ]
  refine wpAnyH_take (i := 16) (oi := _) (v := ?v16_57) rfl (by kernel_rfl) (by kernel_rfl) (by kernel_rfl) (fun _ _ _ h => h) (Or.inl ⟨by rfl, ?y16_57⟩) hHeld ?r16_57
  case y16_57 => (intro wq hSw; (try dsimp only at hSw); obtain ⟨q0, q1, q2, q3, qv, qX, qg, qB⟩ := hSw; go_simp; try with_reducible rfl)
  try simp only [Act.put, List.getElem_toArray, List.getElem_cons_zero, List.getElem_cons_succ, List.setIfInBounds_toArray, List.set_cons_zero, List.set_cons_succ]
  refine wpAnyH_take (i := 17) (oi := _) (v := ?v17_58) rfl (by kernel_rfl) (by kernel_rfl) (by kernel_rfl) (fun _ _ _ h => h) (Or.inl ⟨by rfl, ?y17_58⟩) hHeld ?r17_58
  case y17_58 => (intro wq hSw; (try dsimp only at hSw); obtain ⟨q0, q1, q2, q3, qv, qX, qg, qB⟩ := hSw; go_simp; try with_reducible rfl)
  try simp only [Act.put, List.getElem_toArray, List.getElem_cons_zero, List.getElem_cons_succ, List.setIfInBounds_toArray, List.set_cons_zero, List.set_cons_succ]
  refine wpAnyH_take (i := 18) (oi := _) (v := ?v18_59) rfl (by kernel_rfl) (by kernel_rfl) (by kernel_rfl) (fun _ _ _ h => h) (Or.inl ⟨by rfl, ?y18_59⟩) hHeld ?r18_59
  case y18_59 => (intro wq hSw; (try dsimp only at hSw); obtain ⟨q0, q1, q2, q3, qv, qX, qg, qB⟩ := hSw; go_simp; try with_reducible rfl)
  try simp only [Act.put, List.getElem_toArray, List.getElem_cons_zero, List.getElem_cons_succ, List.setIfInBounds_toArray, List.set_cons_zero, List.set_cons_succ]
  refine wpAnyH_take (i := 19) (oi := _) (v := ?v19_60) rfl (by kernel_rfl) (by kernel_rfl) (by kernel_rfl) (fun _ _ _ h => h) (Or.inl ⟨by rfl, ?y19_60⟩) hHeld ?r19_60
  case y19_60 => (intro wq hSw; (try dsimp only at hSw); obtain ⟨q0, q1, q2, q3, qv, qX, qg, qB⟩ := hSw; go_simp; try with_reducible rfl)
  try simp only [Act.put, List.getElem_toArray, List.getElem_cons_zero, List.getElem_cons_succ, List.setIfInBounds_toArray, List.set_cons_zero, List.set_cons_succ]
  refine wpAnyH_take (i := 20) (oi := _) (v := ?v20_61) rfl (by kernel_rfl) (by kernel_rfl) (by kernel_rfl) (fun _ _ _ h => h) (Or.inl ⟨by rfl, ?y20_61⟩) hHeld ?r20_61
  case y20_61 => (intro wq hSw; (try dsimp only at hSw); obtain ⟨q0, q1, q2, q3, qv, qX, qg, qB⟩ := hSw; go_simp; try with_reducible rfl)
  try simp only [Act.put, List.getElem_toArray, List.getElem_cons_zero, List.getElem_cons_succ, List.setIfInBounds_toArray, List.set_cons_zero, List.set_cons_succ]
  refine wpAnyH_take (i := 21) (oi := _) (v := ?v21_62) rfl (by kernel_rfl) (by kernel_rfl) (by kernel_rfl) (fun _ _ _ h => h) (Or.inl ⟨by rfl, ?y21_62⟩) hHeld ?r21_62
  case y21_62 => (intro wq hSw; (try dsimp only at hSw); obtain ⟨q0, q1, q2, q3, qv, qX, qg, qB⟩ := hSw; go_simp; try with_reducible rfl)
  try simp only [Act.put, List.getElem_toArray, List.getElem_cons_zero, List.getElem_cons_succ, List.setIfInBounds_toArray, List.set_cons_zero, List.set_cons_succ]
  refine wpAnyH_take (i := 22) (oi := _) (v := ?v22_63) rfl (by kernel_rfl) (by kernel_rfl) (by kernel_rfl) (fun _ _ _ h => h) (Or.inl ⟨by rfl, ?y22_63⟩) hHeld ?r22_63
  case y22_63 => (intro wq hSw; (try dsimp only at hSw); obtain ⟨q0, q1, q2, q3, qv, qX, qg, qB⟩ := hSw; go_simp; try with_reducible rfl)
  try simp only [Act.put, List.getElem_toArray, List.getElem_cons_zero, List.getElem_cons_succ, List.setIfInBounds_toArray, List.set_cons_zero, List.set_cons_succ]
  refine wpAnyH_take (i := 23) (oi := _) (v := ?v23_64) rfl (by kernel_rfl) (by kernel_rfl) (by kernel_rfl) (fun _ _ _ h => h) (Or.inl ⟨by rfl, ?y23_64⟩) hHeld ?r23_64
  case y23_64 => (intro wq hSw; (try dsimp only at hSw); obtain ⟨q0, q1, q2, q3, qv, qX, qg, qB⟩ := hSw; go_simp; try with_reducible rfl)
  try simp only [Act.put, List.getElem_toArray, List.getElem_cons_zero, List.getElem_cons_succ, List.setIfInBounds_toArray, List.set_cons_zero, List.set_cons_succ]
  refine wpAnyH_take (i := 24) (oi := _) (v := ?v24_65) rfl (by kernel_rfl) (by kernel_rfl) (by kernel_rfl) (fun _ _ _ h => h) (Or.inl ⟨by rfl, ?y24_65⟩) hHeld ?r24_65
  case y24_65 => (intro wq hSw; (try dsimp only at hSw); obtain ⟨q0, q1, q2, q3, qv, qX, qg, qB⟩ := hSw; go_simp; try with_reducible rfl)
  try simp only [Act.put, List.getElem_toArray, List.getElem_cons_zero, List.getElem_cons_succ, List.setIfInBounds_toArray, List.set_cons_zero, List.set_cons_succ]
  refine wpAnyH_ready (rs := [25]) (by kernel_rfl) (by simp) ?_
  refine AllReadyH.cons (o := _) rfl (fun K hK => ?_) AllReadyH.nil
  go_simp
  refine (BYT.out _).mono ?_; rintro e w9 ⟨rfl, rfl⟩
  refine hK.out _ _ hHeld (fun hHeld2 => ?_)
  clear hK K hHeld
  have hHeld := hHeld2
  clear hHeld2
  try simp only [Act.put, List.getElem_toArray, List.getElem_cons_zero, List.getElem_cons_succ, List.setIfInBounds_toArray, List.set_cons_zero, List.set_cons_succ]
  refine wpAnyH_take (i := 26) (oi := _) (v := ?v26_66) rfl (by kernel_rfl) (by kernel_rfl) (by kernel_rfl) (fun _ _ _ h => h) (Or.inl ⟨by rfl, ?y26_66⟩) hHeld ?r26_66
  case y26_66 => (intro wq hSw; (try dsimp only at hSw); obtain ⟨q0, q1, q2, q3, qv, qX, qg, qB⟩ := hSw; go_simp; try with_reducible rfl)
  try simp only [Act.put, List.getElem_toArray, List.getElem_cons_zero, List.getElem_cons_succ, List.setIfInBounds_toArray, List.set_cons_zero, List.set_cons_succ]
  refine wpAnyH_take (i := 27) (oi := _) (v := ?v27_67) rfl (by kernel_rfl) (by kernel_rfl) (by kernel_rfl) (fun _ _ _ h => h) (Or.inl ⟨by rfl, ?y27_67⟩) hHeld ?r27_67
  case y27_67 => (intro wq hSw; (try dsimp only at hSw); obtain ⟨q0, q1, q2, q3, qv, qX, qg, qB⟩ := hSw; go_simp; try with_reducible rfl)
  try simp only [Act.put, List.getElem_toArray, List.getElem_cons_zero, List.getElem_cons_succ, List.setIfInBounds_toArray, List.set_cons_zero, List.set_cons_succ]
  refine wpAnyH_take (i := 28) (oi := _) (v := ?v28_68) rfl (by kernel_rfl) (by kernel_rfl) (by kernel_rfl) (fun _ _ _ h => h) (Or.inl ⟨by rfl, ?y28_68⟩) hHeld ?r28_68
  case y28_68 => (intro wq hSw; (try dsimp only at hSw); obtain ⟨q0, q1, q2, q3, qv, qX, qg, qB⟩ := hSw; go_simp; try with_reducible rfl)
  try simp only [Act.put, List.getElem_toArray, List.getElem_cons_zero, List.getElem_cons_succ, List.setIfInBounds_toArray, List.set_cons_zero, List.set_cons_succ]
  refine wpAnyH_take (i := 29) (oi := _) (v := ?v29_69) rfl (by kernel_rfl) (by kernel_rfl) (by kernel_rfl) (fun _ _ _ h => h) (Or.inl ⟨by rfl, ?y29_69⟩) hHeld ?r29_69
  case y29_69 => (intro wq hSw; (try dsimp only at hSw); obtain ⟨q0, q1, q2, q3, qv, qX, qg, qB⟩ := hSw; go_simp; try with_reducible rfl)
  try simp only [Act.put, List.getElem_toArray, List.getElem_cons_zero, List.getElem_cons_succ, List.setIfInBounds_toArray, List.set_cons_zero, List.set_cons_succ]
  refine wpAnyH_ready (rs := [30]) (by kernel_rfl) (by simp) ?_
  refine AllReadyH.cons (o := _) rfl (fun K hK => ?_) AllReadyH.nil
  go_simp
  refine (law20_lives _).mono ?_; rintro e w9 ⟨rfl, hbl⟩
  refine hK.out _ _ (by obtain ⟨q0, q1, q2, q3, qv, qX, qg, qB⟩ := hHeld; exact ⟨(hbl.cell qX).trans q0, (hbl.cell qX).trans q1, (hbl.cell qX).trans q2, (hbl.cell qX).trans q3, (hbl.cell qg).trans qv, Nat.lt_of_lt_of_le qX hbl.size, Nat.lt_of_lt_of_le qg hbl.size, qB.trans (hbl.mono qB.size)⟩) (fun hHeld2 => ?_)
  clear hK K hHeld
  have hHeld := hHeld2
  clear hHeld2
  try simp only [Act.put, List.getElem_toArray, List.getElem_cons_zero, List.getElem_cons_succ, List.setIfInBounds_toArray, List.set_cons_zero, List.set_cons_succ]
  refine wpAnyH_take (i := 31) (oi := _) (v := ?v31_70) rfl (by kernel_rfl) (by kernel_rfl) (by kernel_rfl) (fun _ _ _ h => h) (Or.inl ⟨by rfl, ?y31_70⟩) hHeld ?r31_70
  case y31_70 => (intro wq hSw; (try dsimp only at hSw); obtain ⟨q0, q1, q2, q3, qv, qX, qg, qB⟩ := hSw; go_simp; try with_reducible rfl)
  try simp only [Act.put, List.getElem_toArray, List.getElem_cons_zero, List.getElem_cons_succ, List.setIfInBounds_toArray, List.set_cons_zero, List.set_cons_succ]
  refine wpAnyH_take (i := 32) (oi := _) (v := ?v32_71) rfl (by kernel_rfl) (by kernel_rfl) (by kernel_rfl) (fun _ _ _ h => h) (Or.inl ⟨by rfl, ?y32_71⟩) hHeld ?r32_71
  case y32_71 => (intro wq hSw; (try dsimp only at hSw); obtain ⟨q0, q1, q2, q3, qv, qX, qg, qB⟩ := hSw; go_simp; try with_reducible rfl)
  try simp only [Act.put, List.getElem_toArray, List.getElem_cons_zero, List.getElem_cons_succ, List.setIfInBounds_toArray, List.set_cons_zero, List.set_cons_succ]
  refine wpAnyH_done (by kernel_rfl) ?_ _
  have FIN := Lib.hid (B5.out.trans (hHeld.2.2.2.2.2.2.2.mono B5.out.size))
  go_wp2_with fail
  go_ret
  exact ⟨rfl, FIN.out⟩
end Go.Proofs.Ytghclbeoabkgcaa
