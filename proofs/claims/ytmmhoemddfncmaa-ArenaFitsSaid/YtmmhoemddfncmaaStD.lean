/- Contracts of Go's stable sort's parts: symMerge. -/
import Derived.Test.YtmmhoemddfncmaaStC
namespace Go.Proofs.Ytmmhoemddfncmaa
open Go Go.RowKit
set_option linter.unusedVariables false

theorem AllOk.rot {Ok : Int → Prop} {xs : List Int} (h : AllOk Ok xs) (a m b : Nat) : AllOk Ok (rotT a m b xs) := by
  intro x hx
  unfold rotT at hx
  simp only [List.mem_append] at hx
  rcases hx with hx | hx | hx | hx
  · exact h x (List.mem_of_mem_take hx)
  · exact h x (List.mem_of_mem_drop (List.mem_of_mem_take hx))
  · exact h x (List.mem_of_mem_drop (List.mem_of_mem_take hx))
  · exact h x (List.mem_of_mem_drop hx)
/-- what symMerge of up to fu elements does -/
def SymC (f : Int → Int → Int) (Ok : Int → Prop) (p : Value) (base G c n fu : Nat) : Prop := ∀ (xs : List Int) (a m b : Nat) (w : World) (A M B : Int), A = a → M = m → B = b → SRow w base G c n xs → a < m → m < b → b ≤ n → b ≤ a + fu → AllOk Ok xs → CmpAt f Ok G p w →
  Calls Try.prog 39 #[.slice (some ⟨G, 0, none⟩) n c, .int .i64 A, .int .i64 M, .int .i64 B, .func (.func 26) #[] #[p]] w fun e w' =>
    e = .returned (.tuple #[]) ∧ SRow w' base G c n (symS (ltF f) fu a m b xs) ∧ AllOk Ok (symS (ltF f) fu a m b xs) ∧ w.grownBy w' (some G)
theorem InW.mk {w : World} {base G c n : Nat} {ys : List Int} {w' : World} (h : SRow w' base G c n ys) (g : w.grownBy w' (some G)) : InW w base G c n ys w' := ⟨h, g⟩

set_option maxRecDepth 100000 in
set_option maxHeartbeats 8000000 in
theorem sym_c1 (f : Int → Int → Int) (Ok : Int → Prop) (p : Value) (base G c n fu : Nat) (xs : List Int) (a m b mid : Nat) (w : World) (A M B : Int) (hA : A = a) (hM : M = m) (hB : B = b) (own : SRow w base G c n xs) (hn : n ≤ 4096) (hc : c ≤ maxLen) (ham : a < m) (hmb : m < b) (hb : b ≤ n)
    (hma : m ≠ a + 1) (hbm : b ≠ m + 1) (hmid : mid = (a + b) / 2) (hside : mid < m) (hfu : b ≤ a + (fu + 1)) (hok : AllOk Ok xs) (hcmp : CmpAt f Ok G p w) (ih : SymC f Ok p base G c n fu) :
    Calls Try.prog 39 #[.slice (some ⟨G, 0, none⟩) n c, .int .i64 A, .int .i64 M, .int .i64 B, .func (.func 26) #[] #[p]] w fun e w' =>
      e = .returned (.tuple #[]) ∧ SRow w' base G c n (symT (symS (ltF f) fu) a m b mid (stS (ltF f) a m b mid xs) xs) ∧ AllOk Ok (symT (symS (ltF f) fu) a m b mid (stS (ltF f) a m b mid xs) xs) ∧ w.grownBy w' (some G) := by
  subst hA hM hB
  have hlen := own.1
  have OW := Lib.hid own
  have AK := Lib.hid hok
  have CM := Lib.hid hcmp
  have IH := Lib.hid ih
  obtain ⟨d1, hd1⟩ : ∃ d1 : Int, (m : Int) - (a : Int) = d1 := ⟨_, rfl⟩
  have tm : (d1 == 1) = false := by simp; omega
  obtain ⟨d2, hd2⟩ : ∃ d1 : Int, (b : Int) - (m : Int) = d1 := ⟨_, rfl⟩
  have tm2 : (d2 == 1) = false := by simp; omega
  have emid : ((a : Int) + (b : Int)) / 2 = (mid : Int) := by omega
  obtain ⟨nn, hnn⟩ : ∃ nn, nn = mid + m := ⟨_, rfl⟩
  have enn : (mid : Int) + (m : Int) = (nn : Int) := by omega
  obtain ⟨q1, hq1⟩ : ∃ q1, q1 = nn - 1 := ⟨_, rfl⟩
  have eq1 : (nn : Int) - 1 = (q1 : Int) := by omega
  obtain ⟨s0, hs0⟩ : ∃ s0, s0 = s0S a m b mid := ⟨_, rfl⟩
  obtain ⟨r0, hr0⟩ : ∃ r0, r0 = r0S m mid := ⟨_, rfl⟩
  obtain ⟨T, hT⟩ : ∃ T, T = stS (ltF f) a m b mid xs := ⟨_, rfl⟩
  rw [← hT]
  unfold stS at hT
  rw [← hs0, ← hr0, ← hnn] at hT
  have fs : s0 = nn - b := by rw [hs0]; unfold s0S; rw [if_pos hside, hnn]
  have fr : r0 = mid := by rw [hr0]; unfold r0S; rw [if_pos hside]
  have hm2 : mid < b := by omega
  have hm3 : a < mid := by omega
  have bb1 : a ≤ s0 := by omega
  have bb2 : s0 ≤ r0 := by omega
  have bb3 : r0 ≤ m := by omega
  have bb4 : nn ≤ s0 + b := by omega
  have bb5 : m + r0 ≤ nn := by omega
  have hTb := bs_spec (fun c => !ltF f (xs.getD (nn - 1 - c) 0) (xs.getD c 0)) s0 r0 bb2
  rw [← hT] at hTb
  obtain ⟨hT1, hT2, _, _⟩ := hTb
  have HT := Lib.hid hT
  have HQ := Lib.hid hq1
  have HN := Lib.hid hnn
  have nb : nn ≤ 8192 := by omega
  have nb2 : q1 ≤ 8192 := by omega
  have FS := Lib.hid fs
  have FR := Lib.hid fr
  have es0 : (nn : Int) - (b : Int) = (s0 : Int) := by omega
  have tmid : decide ((mid : Int) < (m : Int)) = true := by simp; omega
  clear own hok hcmp ih hT hma hbm hmid hq1 hs0 hr0 fs fr hnn
  go_enter Try.func39, Try.ntmps39
  go_wp2_with fail
  go_loopw [20, 21] (fun i j wr => ∃ (i0 j0 : Nat), s0 ≤ i0 ∧ i0 ≤ j0 ∧ j0 ≤ r0 ∧ i = .int .i64 i0 ∧ j = .int .i64 j0 ∧ InW w base G c n xs wr ∧ bsS (fun c => !ltF f (xs.getD (nn - 1 - c) 0) (xs.getD c 0)) i0 j0 = T) (fun i j _ => (intOf j).toNat - (intOf i).toNat)
  case atStart => exact ⟨s0, r0, Nat.le_refl _, by omega, Nat.le_refl _, by first | rfl | (congr 1; have := FS.out; omega), by first | rfl | (congr 1; have := FR.out; omega), ⟨OW.out, World.grownBy.refl _ _⟩, HT.out.symm⟩
  case round =>
    obtain ⟨i0, j0, hi, hij, hj, rfl, rfl, iw, hS⟩ := hrel
    have IW := Lib.hid iw
    have HS := Lib.hid hS
    by_cases hlt : i0 < j0
    · have tl : decide ((i0 : Int) < (j0 : Int)) = true := by simp; omega
      obtain ⟨h, hh⟩ : ∃ h, h = (i0 + j0) / 2 := ⟨_, rfl⟩
      have hb1 : i0 ≤ h := by omega
      have hb2 : h < j0 := by omega
      obtain ⟨u, hu⟩ : ∃ u, u = nn - 1 - h := ⟨_, rfl⟩
      obtain ⟨c1, f1, gs⟩ := iw.1.at (k := u) (by omega)
      obtain ⟨c2, f2, _⟩ := iw.1.at (k := h) (by omega)
      have ox := AK.out.at (k := u) (by omega)
      have oy := AK.out.at (k := h) (by omega)
      obtain ⟨x, hx⟩ : ∃ x, x = xs.getD u 0 := ⟨_, rfl⟩
      obtain ⟨y, hy⟩ : ∃ x, x = xs.getD h 0 := ⟨_, rfl⟩
      rw [← hx] at c1 ox
      rw [← hy] at c2 oy
      have YES := Lib.hid (fun hl : ¬ f x y < 0 => bs_yes (p := fun c => !ltF f (xs.getD (nn - 1 - c) 0) (xs.getD c 0)) hlt hh (by show (!ltF f (xs.getD (nn - 1 - h) 0) (xs.getD h 0)) = true; rw [← hu, ← hx, ← hy]; simpa [ltF] using hl))
      have NO := Lib.hid (fun hl : f x y < 0 => bs_no (p := fun c => !ltF f (xs.getD (nn - 1 - c) 0) (xs.getD c 0)) hlt hh (by show (!ltF f (xs.getD (nn - 1 - h) 0) (xs.getD h 0)) = false; rw [← hu, ← hx, ← hy]; simpa [ltF] using hl))
      have CX := Lib.hid (fun W (hW : InW w base G c n xs W) => CM.out W x y hW.2 ox oy)
      have eh : ((i0 : Int) + (j0 : Int)) / 2 = (h : Int) := by omega
      have eu : IntKind.i64.wrap ((q1 : Int) - (h : Int)) = (u : Int) := by have := HQ.out; rw [IntWalk.i64_in _ (by omega)]; omega
      have h0 : (0 : Int) ≤ (h : Int) := by omega
      have hn1 : (h : Int) < (n : Int) := by omega
      have u0 : (0 : Int) ≤ (u : Int) := by omega
      have un : (u : Int) < (n : Int) := by omega
      have HH := Lib.hid hh
      clear hh hx hy hS hu
      go_wp2_with fail
      have PS := Lib.hid (show ∀ w', InW w base G c n xs w' → w'.cell? ⟨G, u, none⟩ = some (.int .i64 x) ∧ w'.cell? ⟨G, h, none⟩ = some (.int .i64 y) ∧ InW w base G c n xs w' from fun w' hq9 =>
        ⟨(hq9.1.at (k := u) (by omega)).1.trans ((iw.1.at (k := u) (by omega)).1.symm.trans c1), (hq9.1.at (k := h) (by omega)).1.trans ((iw.1.at (k := h) (by omega)).1.symm.trans c2), hq9⟩)
      go_region_held3 (fun w' => w'.cell? ⟨G, u, none⟩ = some (.int .i64 x) ∧ w'.cell? ⟨G, h, none⟩ = some (.int .i64 y) ∧ InW w base G c n xs w')
        (first | (with_reducible assumption) | (refine PS.out _ ?_; first | (with_reducible exact hI8) | (with_reducible exact hI8.drewN _) | (with_reducible exact hI8.drew) | exact iw | exact iw.drewN _))
        (first
        | (go_at_call 26; (with_reducible refine (CX.out _ (by first | exact iw | exact iw.drewN _ | (obtain ⟨s2, s3, s4⟩ := ‹_ ∧ _ ∧ InW _ _ _ _ _ _ _›; exact s4))).mono ?_); rintro e w8 ⟨rfl, hb8⟩; first
          | (have hI8 := (iw.drewN 1).later hb8)
          | (have hI8 := iw.later hb8)))
      have iw1 : InW w base G c n xs w8 := by assumption
      clear c1 c2 f1 f2 iw CX PS hI8 hb8
      generalize w8 = W1 at *
      have IW1 := Lib.hid iw1
      clear iw1
      by_cases hl : f x y < 0
      · have E := Lib.hid (NO.out hl)
        have tl : decide (f x y < 0) = true := by simpa using hl
        simp only [tl, Bool.not_true]
        go_wp2_with fail
        refine ⟨⟨i0, h, by omega, by omega, by omega, rfl, rfl, IW1.out, by rw [← E.out]; exact HS.out⟩, by simp [intOf]; omega⟩
      · have E := Lib.hid (YES.out (by omega))
        have tl : decide (f x y < 0) = false := by simpa using hl
        simp only [tl, Bool.not_false]
        go_wp2_with fail
        refine ⟨⟨h + 1, j0, by omega, by omega, hj, by simp, rfl, IW1.out, by rw [← E.out]; exact HS.out⟩, by simp [intOf]; omega⟩
    · have tl : decide ((i0 : Int) < (j0 : Int)) = false := by simp; omega
      have e := HS.out
      rw [bs_end (by omega)] at e
      subst e
      obtain ⟨st, hst⟩ : ∃ st, st = i0 := ⟨_, rfl⟩
      subst hst
      obtain ⟨en, hen⟩ : ∃ en, en = nn - st := ⟨_, rfl⟩
      have een : (nn : Int) - (st : Int) = (en : Int) := by omega
      have g1 : m ≤ en := by omega
      have g2 : en ≤ b := by omega
      have hnn := HN.out
      clear hS iw
      rcases (show (st < m ∧ m < en ∧ a < st ∧ en < b) ∨ (st < m ∧ m < en ∧ st ≤ a ∧ en < b) ∨ (st < m ∧ m < en ∧ a < st ∧ b ≤ en) ∨ (st < m ∧ m < en ∧ st ≤ a ∧ b ≤ en) ∨ (m ≤ st ∧ m < mid) ∨ (m ≤ st ∧ mid ≤ m) ∨ (st < m ∧ en ≤ m) by omega) with hK | hK | hK | hK | hK | hK | hK
      · first
        | (exfalso; have := FS.out; have := FR.out; omega)
        | (have t0 : decide ((st : Int) < (m : Int)) = true := by simp; omega
           have t1 : decide ((m : Int) < (en : Int)) = true := by simp; omega
           have t2 : decide ((a : Int) < (st : Int)) = true := by simp; omega
           have t3 : decide ((st : Int) < (mid : Int)) = true := by simp; omega
           have t4 : decide ((mid : Int) < (en : Int)) = true := by simp; omega
           have t5 : decide ((en : Int) < (b : Int)) = true := by simp; omega
           have E : symT (symS (ltF f) fu) a m b mid st xs = symS (ltF f) fu mid en b (symS (ltF f) fu a st mid (rotT st m en xs)) := by
             unfold symT x1S x2S
             rw [← hnn, ← hen]
             rw [if_pos (show mid < en ∧ en < b by omega), if_pos (show a < st ∧ st < mid by omega), if_pos (show st < m ∧ m < en by omega)]
           have EE := Lib.hid E
           clear E hen hnn
           go_wp2_with fail
           refine (rot_any base G c n xs st m en _ _ IW.out.1 hn hc (by omega) (by omega) (by omega) ).mono ?_
           rintro e w5 ⟨rfl, ow5, gw5⟩
           have Iw5 := Lib.hid (InW.mk ow5 (IW.out.2.trans gw5))
           have Kw5 := Lib.hid (AK.out.rot st m en)
           clear ow5 gw5
           go_wp2_with fail
           refine (IH.out (rotT st m en xs) a st mid _ _ _ _ rfl rfl rfl Iw5.out.1 (by omega) (by omega) (by omega) (by omega) Kw5.out (CM.out.later Iw5.out.2) ).mono ?_
           rintro e w6 ⟨rfl, ow6, kw6, gw6⟩
           have Iw6 := Lib.hid (InW.mk ow6 (Iw5.out.2.trans gw6))
           have Kw6 := Lib.hid kw6
           clear ow6 gw6 kw6
           go_wp2_with fail
           refine (IH.out (symS (ltF f) fu a st mid (rotT st m en xs)) mid en b _ _ _ _ rfl rfl rfl Iw6.out.1 (by omega) (by omega) (by omega) (by omega) Kw6.out (CM.out.later Iw6.out.2) ).mono ?_
           rintro e w7 ⟨rfl, ow7, kw7, gw7⟩
           have Iw7 := Lib.hid (InW.mk ow7 (Iw6.out.2.trans gw7))
           have Kw7 := Lib.hid kw7
           clear ow7 gw7 kw7
           go_wp2_with fail
           exact Go.Great.bodyPost_end0 (by rfl) (by rfl) ⟨rfl, by rw [EE.out]; exact Iw7.out.1, by rw [EE.out]; exact Kw7.out, Iw7.out.2⟩)
      · first
        | (exfalso; have := FS.out; have := FR.out; omega)
        | (have t0 : decide ((st : Int) < (m : Int)) = true := by simp; omega
           have t1 : decide ((m : Int) < (en : Int)) = true := by simp; omega
           have t2 : decide ((a : Int) < (st : Int)) = false := by simp; omega
           have t3 : decide ((mid : Int) < (en : Int)) = true := by simp; omega
           have t4 : decide ((en : Int) < (b : Int)) = true := by simp; omega
           have E : symT (symS (ltF f) fu) a m b mid st xs = symS (ltF f) fu mid en b (rotT st m en xs) := by
             unfold symT x1S x2S
             rw [← hnn, ← hen]
             rw [if_pos (show mid < en ∧ en < b by omega), if_neg (show ¬ (a < st ∧ st < mid) by omega), if_pos (show st < m ∧ m < en by omega)]
           have EE := Lib.hid E
           clear E hen hnn
           go_wp2_with fail
           refine (rot_any base G c n xs st m en _ _ IW.out.1 hn hc (by omega) (by omega) (by omega) ).mono ?_
           rintro e w5 ⟨rfl, ow5, gw5⟩
           have Iw5 := Lib.hid (InW.mk ow5 (IW.out.2.trans gw5))
           have Kw5 := Lib.hid (AK.out.rot st m en)
           clear ow5 gw5
           go_wp2_with fail
           refine (IH.out (rotT st m en xs) mid en b _ _ _ _ rfl rfl rfl Iw5.out.1 (by omega) (by omega) (by omega) (by omega) Kw5.out (CM.out.later Iw5.out.2) ).mono ?_
           rintro e w6 ⟨rfl, ow6, kw6, gw6⟩
           have Iw6 := Lib.hid (InW.mk ow6 (Iw5.out.2.trans gw6))
           have Kw6 := Lib.hid kw6
           clear ow6 gw6 kw6
           go_wp2_with fail
           exact Go.Great.bodyPost_end0 (by rfl) (by rfl) ⟨rfl, by rw [EE.out]; exact Iw6.out.1, by rw [EE.out]; exact Kw6.out, Iw6.out.2⟩)
      · first
        | (exfalso; have := FS.out; have := FR.out; omega)
        | (have t0 : decide ((st : Int) < (m : Int)) = true := by simp; omega
           have t1 : decide ((m : Int) < (en : Int)) = true := by simp; omega
           have t2 : decide ((a : Int) < (st : Int)) = true := by simp; omega
           have t3 : decide ((st : Int) < (mid : Int)) = true := by simp; omega
           have t4 : decide ((mid : Int) < (en : Int)) = true := by simp; omega
           have t5 : decide ((en : Int) < (b : Int)) = false := by simp; omega
           have E : symT (symS (ltF f) fu) a m b mid st xs = symS (ltF f) fu a st mid (rotT st m en xs) := by
             unfold symT x1S x2S
             rw [← hnn, ← hen]
             rw [if_neg (show ¬ (mid < en ∧ en < b) by omega), if_pos (show a < st ∧ st < mid by omega), if_pos (show st < m ∧ m < en by omega)]
           have EE := Lib.hid E
           clear E hen hnn
           go_wp2_with fail
           refine (rot_any base G c n xs st m en _ _ IW.out.1 hn hc (by omega) (by omega) (by omega) ).mono ?_
           rintro e w5 ⟨rfl, ow5, gw5⟩
           have Iw5 := Lib.hid (InW.mk ow5 (IW.out.2.trans gw5))
           have Kw5 := Lib.hid (AK.out.rot st m en)
           clear ow5 gw5
           go_wp2_with fail
           refine (IH.out (rotT st m en xs) a st mid _ _ _ _ rfl rfl rfl Iw5.out.1 (by omega) (by omega) (by omega) (by omega) Kw5.out (CM.out.later Iw5.out.2) ).mono ?_
           rintro e w6 ⟨rfl, ow6, kw6, gw6⟩
           have Iw6 := Lib.hid (InW.mk ow6 (Iw5.out.2.trans gw6))
           have Kw6 := Lib.hid kw6
           clear ow6 gw6 kw6
           go_wp2_with fail
           exact Go.Great.bodyPost_end0 (by rfl) (by rfl) ⟨rfl, by rw [EE.out]; exact Iw6.out.1, by rw [EE.out]; exact Kw6.out, Iw6.out.2⟩)
      · first
        | (exfalso; have := FS.out; have := FR.out; omega)
        | (have t0 : decide ((st : Int) < (m : Int)) = true := by simp; omega
           have t1 : decide ((m : Int) < (en : Int)) = true := by simp; omega
           have t2 : decide ((a : Int) < (st : Int)) = false := by simp; omega
           have t3 : decide ((mid : Int) < (en : Int)) = true := by simp; omega
           have t4 : decide ((en : Int) < (b : Int)) = false := by simp; omega
           have E : symT (symS (ltF f) fu) a m b mid st xs = rotT st m en xs := by
             unfold symT x1S x2S
             rw [← hnn, ← hen]
             rw [if_neg (show ¬ (mid < en ∧ en < b) by omega), if_neg (show ¬ (a < st ∧ st < mid) by omega), if_pos (show st < m ∧ m < en by omega)]
           have EE := Lib.hid E
           clear E hen hnn
           go_wp2_with fail
           refine (rot_any base G c n xs st m en _ _ IW.out.1 hn hc (by omega) (by omega) (by omega) ).mono ?_
           rintro e w5 ⟨rfl, ow5, gw5⟩
           have Iw5 := Lib.hid (InW.mk ow5 (IW.out.2.trans gw5))
           have Kw5 := Lib.hid (AK.out.rot st m en)
           clear ow5 gw5
           go_wp2_with fail
           exact Go.Great.bodyPost_end0 (by rfl) (by rfl) ⟨rfl, by rw [EE.out]; exact Iw5.out.1, by rw [EE.out]; exact Kw5.out, Iw5.out.2⟩)
      · first
        | (exfalso; have := FS.out; have := FR.out; omega)
        | (have t0 : decide ((st : Int) < (m : Int)) = false := by simp; omega
           have t1 : decide ((a : Int) < (st : Int)) = true := by simp; omega
           have t2 : decide ((st : Int) < (mid : Int)) = true := by simp; omega
           have t3 : decide ((mid : Int) < (en : Int)) = false := by simp; omega
           have E : symT (symS (ltF f) fu) a m b mid st xs = symS (ltF f) fu a st mid xs := by
             unfold symT x1S x2S
             rw [← hnn, ← hen]
             rw [if_neg (show ¬ (mid < en ∧ en < b) by omega), if_pos (show a < st ∧ st < mid by omega), if_neg (show ¬ (st < m ∧ m < en) by omega)]
           have EE := Lib.hid E
           clear E hen hnn
           go_wp2_with fail
           refine (IH.out xs a st mid _ _ _ _ rfl rfl rfl IW.out.1 (by omega) (by omega) (by omega) (by omega) AK.out (CM.out.later IW.out.2) ).mono ?_
           rintro e w5 ⟨rfl, ow5, kw5, gw5⟩
           have Iw5 := Lib.hid (InW.mk ow5 (IW.out.2.trans gw5))
           have Kw5 := Lib.hid kw5
           clear ow5 gw5 kw5
           go_wp2_with fail
           exact Go.Great.bodyPost_end0 (by rfl) (by rfl) ⟨rfl, by rw [EE.out]; exact Iw5.out.1, by rw [EE.out]; exact Kw5.out, Iw5.out.2⟩)
      · first
        | (exfalso; have := FS.out; have := FR.out; omega)
        | (have t0 : decide ((st : Int) < (m : Int)) = false := by simp; omega
           have t1 : decide ((a : Int) < (st : Int)) = true := by simp; omega
           have t2 : decide ((st : Int) < (mid : Int)) = false := by simp; omega
           have t3 : decide ((mid : Int) < (en : Int)) = false := by simp; omega
           have E : symT (symS (ltF f) fu) a m b mid st xs = xs := by
             unfold symT x1S x2S
             rw [← hnn, ← hen]
             rw [if_neg (show ¬ (mid < en ∧ en < b) by omega), if_neg (show ¬ (a < st ∧ st < mid) by omega), if_neg (show ¬ (st < m ∧ m < en) by omega)]
           have EE := Lib.hid E
           clear E hen hnn
           go_wp2_with fail
           exact Go.Great.bodyPost_end0 (by rfl) (by rfl) ⟨rfl, by rw [EE.out]; exact IW.out.1, by rw [EE.out]; exact AK.out, IW.out.2⟩)
      · first
        | (exfalso; have := FS.out; have := FR.out; omega)
        | (have t0 : decide ((st : Int) < (m : Int)) = true := by simp; omega
           have t1 : decide ((m : Int) < (en : Int)) = false := by simp; omega
           have t2 : decide ((a : Int) < (st : Int)) = true := by simp; omega
           have t3 : decide ((st : Int) < (mid : Int)) = false := by simp; omega
           have t4 : decide ((mid : Int) < (en : Int)) = true := by simp; omega
           have t5 : decide ((en : Int) < (b : Int)) = true := by simp; omega
           have E : symT (symS (ltF f) fu) a m b mid st xs = symS (ltF f) fu mid en b xs := by
             unfold symT x1S x2S
             rw [← hnn, ← hen]
             rw [if_pos (show mid < en ∧ en < b by omega), if_neg (show ¬ (a < st ∧ st < mid) by omega), if_neg (show ¬ (st < m ∧ m < en) by omega)]
           have EE := Lib.hid E
           clear E hen hnn
           go_wp2_with fail
           refine (IH.out xs mid en b _ _ _ _ rfl rfl rfl IW.out.1 (by omega) (by omega) (by omega) (by omega) AK.out (CM.out.later IW.out.2) ).mono ?_
           rintro e w5 ⟨rfl, ow5, kw5, gw5⟩
           have Iw5 := Lib.hid (InW.mk ow5 (IW.out.2.trans gw5))
           have Kw5 := Lib.hid kw5
           clear ow5 gw5 kw5
           go_wp2_with fail
           exact Go.Great.bodyPost_end0 (by rfl) (by rfl) ⟨rfl, by rw [EE.out]; exact Iw5.out.1, by rw [EE.out]; exact Kw5.out, Iw5.out.2⟩)

set_option maxRecDepth 100000 in
set_option maxHeartbeats 8000000 in
theorem sym_c2 (f : Int → Int → Int) (Ok : Int → Prop) (p : Value) (base G c n fu : Nat) (xs : List Int) (a m b mid : Nat) (w : World) (A M B : Int) (hA : A = a) (hM : M = m) (hB : B = b) (own : SRow w base G c n xs) (hn : n ≤ 4096) (hc : c ≤ maxLen) (ham : a < m) (hmb : m < b) (hb : b ≤ n)
    (hma : m ≠ a + 1) (hbm : b ≠ m + 1) (hmid : mid = (a + b) / 2) (hside : ¬ mid < m) (hfu : b ≤ a + (fu + 1)) (hok : AllOk Ok xs) (hcmp : CmpAt f Ok G p w) (ih : SymC f Ok p base G c n fu) :
    Calls Try.prog 39 #[.slice (some ⟨G, 0, none⟩) n c, .int .i64 A, .int .i64 M, .int .i64 B, .func (.func 26) #[] #[p]] w fun e w' =>
      e = .returned (.tuple #[]) ∧ SRow w' base G c n (symT (symS (ltF f) fu) a m b mid (stS (ltF f) a m b mid xs) xs) ∧ AllOk Ok (symT (symS (ltF f) fu) a m b mid (stS (ltF f) a m b mid xs) xs) ∧ w.grownBy w' (some G) := by
  subst hA hM hB
  have hlen := own.1
  have OW := Lib.hid own
  have AK := Lib.hid hok
  have CM := Lib.hid hcmp
  have IH := Lib.hid ih
  obtain ⟨d1, hd1⟩ : ∃ d1 : Int, (m : Int) - (a : Int) = d1 := ⟨_, rfl⟩
  have tm : (d1 == 1) = false := by simp; omega
  obtain ⟨d2, hd2⟩ : ∃ d1 : Int, (b : Int) - (m : Int) = d1 := ⟨_, rfl⟩
  have tm2 : (d2 == 1) = false := by simp; omega
  have emid : ((a : Int) + (b : Int)) / 2 = (mid : Int) := by omega
  obtain ⟨nn, hnn⟩ : ∃ nn, nn = mid + m := ⟨_, rfl⟩
  have enn : (mid : Int) + (m : Int) = (nn : Int) := by omega
  obtain ⟨q1, hq1⟩ : ∃ q1, q1 = nn - 1 := ⟨_, rfl⟩
  have eq1 : (nn : Int) - 1 = (q1 : Int) := by omega
  obtain ⟨s0, hs0⟩ : ∃ s0, s0 = s0S a m b mid := ⟨_, rfl⟩
  obtain ⟨r0, hr0⟩ : ∃ r0, r0 = r0S m mid := ⟨_, rfl⟩
  obtain ⟨T, hT⟩ : ∃ T, T = stS (ltF f) a m b mid xs := ⟨_, rfl⟩
  rw [← hT]
  unfold stS at hT
  rw [← hs0, ← hr0, ← hnn] at hT
  have fs : s0 = a := by rw [hs0]; unfold s0S; rw [if_neg hside]
  have fr : r0 = m := by rw [hr0]; unfold r0S; rw [if_neg hside]
  have hm2 : mid < b := by omega
  have hm3 : a < mid := by omega
  have bb1 : a ≤ s0 := by omega
  have bb2 : s0 ≤ r0 := by omega
  have bb3 : r0 ≤ m := by omega
  have bb4 : nn ≤ s0 + b := by omega
  have bb5 : m + r0 ≤ nn := by omega
  have hTb := bs_spec (fun c => !ltF f (xs.getD (nn - 1 - c) 0) (xs.getD c 0)) s0 r0 bb2
  rw [← hT] at hTb
  obtain ⟨hT1, hT2, _, _⟩ := hTb
  have HT := Lib.hid hT
  have HQ := Lib.hid hq1
  have HN := Lib.hid hnn
  have nb : nn ≤ 8192 := by omega
  have nb2 : q1 ≤ 8192 := by omega
  have FS := Lib.hid fs
  have FR := Lib.hid fr
  skip
  have tmid : decide ((mid : Int) < (m : Int)) = false := by simp; omega
  clear own hok hcmp ih hT hma hbm hmid hq1 hs0 hr0 fs fr hnn
  go_enter Try.func39, Try.ntmps39
  go_wp2_with fail
  go_loopw [20, 21] (fun i j wr => ∃ (i0 j0 : Nat), s0 ≤ i0 ∧ i0 ≤ j0 ∧ j0 ≤ r0 ∧ i = .int .i64 i0 ∧ j = .int .i64 j0 ∧ InW w base G c n xs wr ∧ bsS (fun c => !ltF f (xs.getD (nn - 1 - c) 0) (xs.getD c 0)) i0 j0 = T) (fun i j _ => (intOf j).toNat - (intOf i).toNat)
  case atStart => exact ⟨s0, r0, Nat.le_refl _, by omega, Nat.le_refl _, by first | rfl | (congr 1; have := FS.out; omega), by first | rfl | (congr 1; have := FR.out; omega), ⟨OW.out, World.grownBy.refl _ _⟩, HT.out.symm⟩
  case round =>
    obtain ⟨i0, j0, hi, hij, hj, rfl, rfl, iw, hS⟩ := hrel
    have IW := Lib.hid iw
    have HS := Lib.hid hS
    by_cases hlt : i0 < j0
    · have tl : decide ((i0 : Int) < (j0 : Int)) = true := by simp; omega
      obtain ⟨h, hh⟩ : ∃ h, h = (i0 + j0) / 2 := ⟨_, rfl⟩
      have hb1 : i0 ≤ h := by omega
      have hb2 : h < j0 := by omega
      obtain ⟨u, hu⟩ : ∃ u, u = nn - 1 - h := ⟨_, rfl⟩
      obtain ⟨c1, f1, gs⟩ := iw.1.at (k := u) (by omega)
      obtain ⟨c2, f2, _⟩ := iw.1.at (k := h) (by omega)
      have ox := AK.out.at (k := u) (by omega)
      have oy := AK.out.at (k := h) (by omega)
      obtain ⟨x, hx⟩ : ∃ x, x = xs.getD u 0 := ⟨_, rfl⟩
      obtain ⟨y, hy⟩ : ∃ x, x = xs.getD h 0 := ⟨_, rfl⟩
      rw [← hx] at c1 ox
      rw [← hy] at c2 oy
      have YES := Lib.hid (fun hl : ¬ f x y < 0 => bs_yes (p := fun c => !ltF f (xs.getD (nn - 1 - c) 0) (xs.getD c 0)) hlt hh (by show (!ltF f (xs.getD (nn - 1 - h) 0) (xs.getD h 0)) = true; rw [← hu, ← hx, ← hy]; simpa [ltF] using hl))
      have NO := Lib.hid (fun hl : f x y < 0 => bs_no (p := fun c => !ltF f (xs.getD (nn - 1 - c) 0) (xs.getD c 0)) hlt hh (by show (!ltF f (xs.getD (nn - 1 - h) 0) (xs.getD h 0)) = false; rw [← hu, ← hx, ← hy]; simpa [ltF] using hl))
      have CX := Lib.hid (fun W (hW : InW w base G c n xs W) => CM.out W x y hW.2 ox oy)
      have eh : ((i0 : Int) + (j0 : Int)) / 2 = (h : Int) := by omega
      have eu : IntKind.i64.wrap ((q1 : Int) - (h : Int)) = (u : Int) := by have := HQ.out; rw [IntWalk.i64_in _ (by omega)]; omega
      have h0 : (0 : Int) ≤ (h : Int) := by omega
      have hn1 : (h : Int) < (n : Int) := by omega
      have u0 : (0 : Int) ≤ (u : Int) := by omega
      have un : (u : Int) < (n : Int) := by omega
      have HH := Lib.hid hh
      clear hh hx hy hS hu
      go_wp2_with fail
      have PS := Lib.hid (show ∀ w', InW w base G c n xs w' → w'.cell? ⟨G, u, none⟩ = some (.int .i64 x) ∧ w'.cell? ⟨G, h, none⟩ = some (.int .i64 y) ∧ InW w base G c n xs w' from fun w' hq9 =>
        ⟨(hq9.1.at (k := u) (by omega)).1.trans ((iw.1.at (k := u) (by omega)).1.symm.trans c1), (hq9.1.at (k := h) (by omega)).1.trans ((iw.1.at (k := h) (by omega)).1.symm.trans c2), hq9⟩)
      go_region_held3 (fun w' => w'.cell? ⟨G, u, none⟩ = some (.int .i64 x) ∧ w'.cell? ⟨G, h, none⟩ = some (.int .i64 y) ∧ InW w base G c n xs w')
        (first | (with_reducible assumption) | (refine PS.out _ ?_; first | (with_reducible exact hI8) | (with_reducible exact hI8.drewN _) | (with_reducible exact hI8.drew) | exact iw | exact iw.drewN _))
        (first
        | (go_at_call 26; (with_reducible refine (CX.out _ (by first | exact iw | exact iw.drewN _ | (obtain ⟨s2, s3, s4⟩ := ‹_ ∧ _ ∧ InW _ _ _ _ _ _ _›; exact s4))).mono ?_); rintro e w8 ⟨rfl, hb8⟩; first
          | (have hI8 := (iw.drewN 1).later hb8)
          | (have hI8 := iw.later hb8)))
      have iw1 : InW w base G c n xs w8 := by assumption
      clear c1 c2 f1 f2 iw CX PS hI8 hb8
      generalize w8 = W1 at *
      have IW1 := Lib.hid iw1
      clear iw1
      by_cases hl : f x y < 0
      · have E := Lib.hid (NO.out hl)
        have tl : decide (f x y < 0) = true := by simpa using hl
        simp only [tl, Bool.not_true]
        go_wp2_with fail
        refine ⟨⟨i0, h, by omega, by omega, by omega, rfl, rfl, IW1.out, by rw [← E.out]; exact HS.out⟩, by simp [intOf]; omega⟩
      · have E := Lib.hid (YES.out (by omega))
        have tl : decide (f x y < 0) = false := by simpa using hl
        simp only [tl, Bool.not_false]
        go_wp2_with fail
        refine ⟨⟨h + 1, j0, by omega, by omega, hj, by simp, rfl, IW1.out, by rw [← E.out]; exact HS.out⟩, by simp [intOf]; omega⟩
    · have tl : decide ((i0 : Int) < (j0 : Int)) = false := by simp; omega
      have e := HS.out
      rw [bs_end (by omega)] at e
      subst e
      obtain ⟨st, hst⟩ : ∃ st, st = i0 := ⟨_, rfl⟩
      subst hst
      obtain ⟨en, hen⟩ : ∃ en, en = nn - st := ⟨_, rfl⟩
      have een : (nn : Int) - (st : Int) = (en : Int) := by omega
      have g1 : m ≤ en := by omega
      have g2 : en ≤ b := by omega
      have hnn := HN.out
      clear hS iw
      rcases (show (st < m ∧ m < en ∧ a < st ∧ en < b) ∨ (st < m ∧ m < en ∧ st ≤ a ∧ en < b) ∨ (st < m ∧ m < en ∧ a < st ∧ b ≤ en) ∨ (st < m ∧ m < en ∧ st ≤ a ∧ b ≤ en) ∨ (m ≤ st ∧ m < mid) ∨ (m ≤ st ∧ mid ≤ m) ∨ (st < m ∧ en ≤ m) by omega) with hK | hK | hK | hK | hK | hK | hK
      · first
        | (exfalso; have := FS.out; have := FR.out; omega)
        | (have t0 : decide ((st : Int) < (m : Int)) = true := by simp; omega
           have t1 : decide ((m : Int) < (en : Int)) = true := by simp; omega
           have t2 : decide ((a : Int) < (st : Int)) = true := by simp; omega
           have t3 : decide ((st : Int) < (mid : Int)) = true := by simp; omega
           have t4 : decide ((mid : Int) < (en : Int)) = true := by simp; omega
           have t5 : decide ((en : Int) < (b : Int)) = true := by simp; omega
           have E : symT (symS (ltF f) fu) a m b mid st xs = symS (ltF f) fu mid en b (symS (ltF f) fu a st mid (rotT st m en xs)) := by
             unfold symT x1S x2S
             rw [← hnn, ← hen]
             rw [if_pos (show mid < en ∧ en < b by omega), if_pos (show a < st ∧ st < mid by omega), if_pos (show st < m ∧ m < en by omega)]
           have EE := Lib.hid E
           clear E hen hnn
           go_wp2_with fail
           refine (rot_any base G c n xs st m en _ _ IW.out.1 hn hc (by omega) (by omega) (by omega) ).mono ?_
           rintro e w5 ⟨rfl, ow5, gw5⟩
           have Iw5 := Lib.hid (InW.mk ow5 (IW.out.2.trans gw5))
           have Kw5 := Lib.hid (AK.out.rot st m en)
           clear ow5 gw5
           go_wp2_with fail
           refine (IH.out (rotT st m en xs) a st mid _ _ _ _ rfl rfl rfl Iw5.out.1 (by omega) (by omega) (by omega) (by omega) Kw5.out (CM.out.later Iw5.out.2) ).mono ?_
           rintro e w6 ⟨rfl, ow6, kw6, gw6⟩
           have Iw6 := Lib.hid (InW.mk ow6 (Iw5.out.2.trans gw6))
           have Kw6 := Lib.hid kw6
           clear ow6 gw6 kw6
           go_wp2_with fail
           refine (IH.out (symS (ltF f) fu a st mid (rotT st m en xs)) mid en b _ _ _ _ rfl rfl rfl Iw6.out.1 (by omega) (by omega) (by omega) (by omega) Kw6.out (CM.out.later Iw6.out.2) ).mono ?_
           rintro e w7 ⟨rfl, ow7, kw7, gw7⟩
           have Iw7 := Lib.hid (InW.mk ow7 (Iw6.out.2.trans gw7))
           have Kw7 := Lib.hid kw7
           clear ow7 gw7 kw7
           go_wp2_with fail
           exact Go.Great.bodyPost_end0 (by rfl) (by rfl) ⟨rfl, by rw [EE.out]; exact Iw7.out.1, by rw [EE.out]; exact Kw7.out, Iw7.out.2⟩)
      · first
        | (exfalso; have := FS.out; have := FR.out; omega)
        | (have t0 : decide ((st : Int) < (m : Int)) = true := by simp; omega
           have t1 : decide ((m : Int) < (en : Int)) = true := by simp; omega
           have t2 : decide ((a : Int) < (st : Int)) = false := by simp; omega
           have t3 : decide ((mid : Int) < (en : Int)) = true := by simp; omega
           have t4 : decide ((en : Int) < (b : Int)) = true := by simp; omega
           have E : symT (symS (ltF f) fu) a m b mid st xs = symS (ltF f) fu mid en b (rotT st m en xs) := by
             unfold symT x1S x2S
             rw [← hnn, ← hen]
             rw [if_pos (show mid < en ∧ en < b by omega), if_neg (show ¬ (a < st ∧ st < mid) by omega), if_pos (show st < m ∧ m < en by omega)]
           have EE := Lib.hid E
           clear E hen hnn
           go_wp2_with fail
           refine (rot_any base G c n xs st m en _ _ IW.out.1 hn hc (by omega) (by omega) (by omega) ).mono ?_
           rintro e w5 ⟨rfl, ow5, gw5⟩
           have Iw5 := Lib.hid (InW.mk ow5 (IW.out.2.trans gw5))
           have Kw5 := Lib.hid (AK.out.rot st m en)
           clear ow5 gw5
           go_wp2_with fail
           refine (IH.out (rotT st m en xs) mid en b _ _ _ _ rfl rfl rfl Iw5.out.1 (by omega) (by omega) (by omega) (by omega) Kw5.out (CM.out.later Iw5.out.2) ).mono ?_
           rintro e w6 ⟨rfl, ow6, kw6, gw6⟩
           have Iw6 := Lib.hid (InW.mk ow6 (Iw5.out.2.trans gw6))
           have Kw6 := Lib.hid kw6
           clear ow6 gw6 kw6
           go_wp2_with fail
           exact Go.Great.bodyPost_end0 (by rfl) (by rfl) ⟨rfl, by rw [EE.out]; exact Iw6.out.1, by rw [EE.out]; exact Kw6.out, Iw6.out.2⟩)
      · first
        | (exfalso; have := FS.out; have := FR.out; omega)
        | (have t0 : decide ((st : Int) < (m : Int)) = true := by simp; omega
           have t1 : decide ((m : Int) < (en : Int)) = true := by simp; omega
           have t2 : decide ((a : Int) < (st : Int)) = true := by simp; omega
           have t3 : decide ((st : Int) < (mid : Int)) = true := by simp; omega
           have t4 : decide ((mid : Int) < (en : Int)) = true := by simp; omega
           have t5 : decide ((en : Int) < (b : Int)) = false := by simp; omega
           have E : symT (symS (ltF f) fu) a m b mid st xs = symS (ltF f) fu a st mid (rotT st m en xs) := by
             unfold symT x1S x2S
             rw [← hnn, ← hen]
             rw [if_neg (show ¬ (mid < en ∧ en < b) by omega), if_pos (show a < st ∧ st < mid by omega), if_pos (show st < m ∧ m < en by omega)]
           have EE := Lib.hid E
           clear E hen hnn
           go_wp2_with fail
           refine (rot_any base G c n xs st m en _ _ IW.out.1 hn hc (by omega) (by omega) (by omega) ).mono ?_
           rintro e w5 ⟨rfl, ow5, gw5⟩
           have Iw5 := Lib.hid (InW.mk ow5 (IW.out.2.trans gw5))
           have Kw5 := Lib.hid (AK.out.rot st m en)
           clear ow5 gw5
           go_wp2_with fail
           refine (IH.out (rotT st m en xs) a st mid _ _ _ _ rfl rfl rfl Iw5.out.1 (by omega) (by omega) (by omega) (by omega) Kw5.out (CM.out.later Iw5.out.2) ).mono ?_
           rintro e w6 ⟨rfl, ow6, kw6, gw6⟩
           have Iw6 := Lib.hid (InW.mk ow6 (Iw5.out.2.trans gw6))
           have Kw6 := Lib.hid kw6
           clear ow6 gw6 kw6
           go_wp2_with fail
           exact Go.Great.bodyPost_end0 (by rfl) (by rfl) ⟨rfl, by rw [EE.out]; exact Iw6.out.1, by rw [EE.out]; exact Kw6.out, Iw6.out.2⟩)
      · first
        | (exfalso; have := FS.out; have := FR.out; omega)
        | (have t0 : decide ((st : Int) < (m : Int)) = true := by simp; omega
           have t1 : decide ((m : Int) < (en : Int)) = true := by simp; omega
           have t2 : decide ((a : Int) < (st : Int)) = false := by simp; omega
           have t3 : decide ((mid : Int) < (en : Int)) = true := by simp; omega
           have t4 : decide ((en : Int) < (b : Int)) = false := by simp; omega
           have E : symT (symS (ltF f) fu) a m b mid st xs = rotT st m en xs := by
             unfold symT x1S x2S
             rw [← hnn, ← hen]
             rw [if_neg (show ¬ (mid < en ∧ en < b) by omega), if_neg (show ¬ (a < st ∧ st < mid) by omega), if_pos (show st < m ∧ m < en by omega)]
           have EE := Lib.hid E
           clear E hen hnn
           go_wp2_with fail
           refine (rot_any base G c n xs st m en _ _ IW.out.1 hn hc (by omega) (by omega) (by omega) ).mono ?_
           rintro e w5 ⟨rfl, ow5, gw5⟩
           have Iw5 := Lib.hid (InW.mk ow5 (IW.out.2.trans gw5))
           have Kw5 := Lib.hid (AK.out.rot st m en)
           clear ow5 gw5
           go_wp2_with fail
           exact Go.Great.bodyPost_end0 (by rfl) (by rfl) ⟨rfl, by rw [EE.out]; exact Iw5.out.1, by rw [EE.out]; exact Kw5.out, Iw5.out.2⟩)
      · first
        | (exfalso; have := FS.out; have := FR.out; omega)
        | (have t0 : decide ((st : Int) < (m : Int)) = false := by simp; omega
           have t1 : decide ((a : Int) < (st : Int)) = true := by simp; omega
           have t2 : decide ((st : Int) < (mid : Int)) = true := by simp; omega
           have t3 : decide ((mid : Int) < (en : Int)) = false := by simp; omega
           have E : symT (symS (ltF f) fu) a m b mid st xs = symS (ltF f) fu a st mid xs := by
             unfold symT x1S x2S
             rw [← hnn, ← hen]
             rw [if_neg (show ¬ (mid < en ∧ en < b) by omega), if_pos (show a < st ∧ st < mid by omega), if_neg (show ¬ (st < m ∧ m < en) by omega)]
           have EE := Lib.hid E
           clear E hen hnn
           go_wp2_with fail
           refine (IH.out xs a st mid _ _ _ _ rfl rfl rfl IW.out.1 (by omega) (by omega) (by omega) (by omega) AK.out (CM.out.later IW.out.2) ).mono ?_
           rintro e w5 ⟨rfl, ow5, kw5, gw5⟩
           have Iw5 := Lib.hid (InW.mk ow5 (IW.out.2.trans gw5))
           have Kw5 := Lib.hid kw5
           clear ow5 gw5 kw5
           go_wp2_with fail
           exact Go.Great.bodyPost_end0 (by rfl) (by rfl) ⟨rfl, by rw [EE.out]; exact Iw5.out.1, by rw [EE.out]; exact Kw5.out, Iw5.out.2⟩)
      · first
        | (exfalso; have := FS.out; have := FR.out; omega)
        | (have t0 : decide ((st : Int) < (m : Int)) = false := by simp; omega
           have t1 : decide ((a : Int) < (st : Int)) = true := by simp; omega
           have t2 : decide ((st : Int) < (mid : Int)) = false := by simp; omega
           have t3 : decide ((mid : Int) < (en : Int)) = false := by simp; omega
           have E : symT (symS (ltF f) fu) a m b mid st xs = xs := by
             unfold symT x1S x2S
             rw [← hnn, ← hen]
             rw [if_neg (show ¬ (mid < en ∧ en < b) by omega), if_neg (show ¬ (a < st ∧ st < mid) by omega), if_neg (show ¬ (st < m ∧ m < en) by omega)]
           have EE := Lib.hid E
           clear E hen hnn
           go_wp2_with fail
           exact Go.Great.bodyPost_end0 (by rfl) (by rfl) ⟨rfl, by rw [EE.out]; exact IW.out.1, by rw [EE.out]; exact AK.out, IW.out.2⟩)
      · first
        | (exfalso; have := FS.out; have := FR.out; omega)
        | (have t0 : decide ((st : Int) < (m : Int)) = true := by simp; omega
           have t1 : decide ((m : Int) < (en : Int)) = false := by simp; omega
           have t2 : decide ((a : Int) < (st : Int)) = true := by simp; omega
           have t3 : decide ((st : Int) < (mid : Int)) = false := by simp; omega
           have t4 : decide ((mid : Int) < (en : Int)) = true := by simp; omega
           have t5 : decide ((en : Int) < (b : Int)) = true := by simp; omega
           have E : symT (symS (ltF f) fu) a m b mid st xs = symS (ltF f) fu mid en b xs := by
             unfold symT x1S x2S
             rw [← hnn, ← hen]
             rw [if_pos (show mid < en ∧ en < b by omega), if_neg (show ¬ (a < st ∧ st < mid) by omega), if_neg (show ¬ (st < m ∧ m < en) by omega)]
           have EE := Lib.hid E
           clear E hen hnn
           go_wp2_with fail
           refine (IH.out xs mid en b _ _ _ _ rfl rfl rfl IW.out.1 (by omega) (by omega) (by omega) (by omega) AK.out (CM.out.later IW.out.2) ).mono ?_
           rintro e w5 ⟨rfl, ow5, kw5, gw5⟩
           have Iw5 := Lib.hid (InW.mk ow5 (IW.out.2.trans gw5))
           have Kw5 := Lib.hid kw5
           clear ow5 gw5 kw5
           go_wp2_with fail
           exact Go.Great.bodyPost_end0 (by rfl) (by rfl) ⟨rfl, by rw [EE.out]; exact Iw5.out.1, by rw [EE.out]; exact Kw5.out, Iw5.out.2⟩)

theorem sym_any (f : Int → Int → Int) (Ok : Int → Prop) (p : Value) (base G c n : Nat) (hn : n ≤ 4096) (hc : c ≤ maxLen) (fu : Nat) : SymC f Ok p base G c n fu := by
  induction fu with
  | zero => intro xs a m b w A M B hA hM hB own h1 h2 h3 h4; omega
  | succ fu ih =>
    intro xs a m b w A M B hA hM hB own h1 h2 h3 h4 hok hcmp
    rw [symS]
    by_cases hm : m = a + 1
    · rw [if_pos hm]
      exact sym_a f Ok p base G c n xs a m b w A M B hA hM hB own hn hc hm h2 h3 hok hcmp
    rw [if_neg hm]
    by_cases hb : b = m + 1
    · rw [if_pos hb]
      exact sym_b f Ok p base G c n xs a m b w A M B hA hM hB own hn hc h1 hm hb h3 hok hcmp
    rw [if_neg hb]
    by_cases hs : (a + b) / 2 < m
    · exact sym_c1 f Ok p base G c n fu xs a m b _ w A M B hA hM hB own hn hc h1 h2 h3 hm hb rfl hs h4 hok hcmp ih
    · exact sym_c2 f Ok p base G c n fu xs a m b _ w A M B hA hM hB own hn hc h1 h2 h3 hm hb rfl hs h4 hok hcmp ih
end Go.Proofs.Ytmmhoemddfncmaa
