/- The statement of layer 42 on spans: it returns true for all words, over the table of three bits. -/
import Derived.Test.YtmlhoagcppofgaaDoorRows
import Derived.Test.YtmlhoagcppofgaaDoorCards
import Derived.Test.YtmlhoagcppofgaaDoorTie
import Derived.Test.YtmlhoagcppofgaaDoorSpC
import Derived.Test.YtmlhoagcppofgaaDoorFlL
import Derived.Test.YtmlhoagcppofgaaDoorOpen
import Derived.ProofKit
import Derived.OpenShut
import Derived.LaidMore
import Derived.Lib.LaidTab
import Derived.Stop.Joined
import Derived.SevenTiedAt
namespace Go.Proofs.YtmlhoagcppofgaaDoor
open Go Go.RowKit Go.ChangeShapes Go.WideShapes Go.ChangeAt Pl
set_option linter.unusedVariables false

/-- spans that lie in a row -/
def SpIn (w : World) (a : Option Addr) (T : List Sp) : Prop := T = [] ∨ ∃ g, a = some ⟨g, 0, none⟩ ∧ g < w.heap.size ∧ ∀ j s, T[j]? = some s → w.cell? ⟨g, j * 3, none⟩ = some (.int .i64 (s.f : Int)) ∧ w.cell? ⟨g, j * 3 + 1, none⟩ = some (.int .i64 (s.t : Int)) ∧ w.cell? ⟨g, j * 3 + 2, none⟩ = some s.v
theorem sp_at {T : List Sp} {j : Nat} {s : Sp} (h : T[j]? = some s) : (spCells T)[j * 3]? = some (.int .i64 (s.f : Int)) ∧ (spCells T)[j * 3 + 1]? = some (.int .i64 (s.t : Int)) ∧ (spCells T)[j * 3 + 2]? = some s.v := by
  induction T generalizing j with
  | nil => simp at h
  | cons q T ih =>
    have e : spCells (q :: T) = .int .i64 (q.f : Int) :: .int .i64 (q.t : Int) :: q.v :: spCells T := rfl
    cases j with
    | zero => simp at h; subst h; rw [e]; exact ⟨rfl, rfl, rfl⟩
    | succ j =>
      rw [e, show (j + 1) * 3 = j * 3 + 1 + 1 + 1 by omega]
      simp only [List.getElem?_cons_succ] at h ⊢
      exact ih h
theorem own_spans {w : World} {base : Nat} {e : TypeId} {v : Value} {T : List Sp} (h : w.ownsRow base e 3 v T.length (spCells T)) : ∃ a c, v = .slice a T.length c ∧ SpIn w a T := by
  have hlt := h.lt
  have h' := h
  obtain ⟨_, ⟨hv, hn⟩ | ⟨g, cap, cur, hv, hg, hh, hc, hcm, _⟩⟩ := h
  · exact ⟨none, 0, by rw [hv, hn], Or.inl (List.eq_nil_of_length_eq_zero hn)⟩
  · refine ⟨some ⟨g, 0, none⟩, cap, hv, Or.inr ⟨g, rfl, (hlt g (by rw [hv]; rfl)).2, fun j s hj => ?_⟩⟩
    have hp := sp_at hj
    have e : ∀ k, (⟨g, 0, none⟩ : Addr).add k = ⟨g, k, none⟩ := fun k => by unfold Addr.add; split <;> simp_all
    have c1 := h'.cells (g := g) (by rw [hv]; rfl) (j * 3) _ hp.1
    have c2 := h'.cells (g := g) (by rw [hv]; rfl) (j * 3 + 1) _ hp.2.1
    have c3 := h'.cells (g := g) (by rw [hv]; rfl) (j * 3 + 2) _ hp.2.2
    rw [e] at c1 c2 c3
    exact ⟨c1, c2, c3⟩
theorem spN_len (l : List Nat) (t : Nat) : (spN l t).length ≤ l.length := by
  unfold spN
  split
  · simp
  · rw [castI_len]; exact nextN_len _ _ _
set_option maxRecDepth 100000 in
set_option maxHeartbeats 2000000 in
theorem walk_FlowSpans (w : World) (a0 : Option Addr) (c0 : Nat) (l0 : List Nat) (w0 : WordsC w a0 l0 c0) (ht : T3 w) :
    Calls Tryd.prog 4 #[.slice a0 l0.length c0] w fun e w' => e = .returned (.bool true) ∧ Below w.heap.size w w' := by
  have FW := Lib.hid (wfew_any a0 c0 l0 w w0)
  have HT := Lib.hid ht
  have hl : (l0.take 30).length ≤ 30 := by simp; omega
  have LV := Lib.hid (fun W h => lives42 W h)
  clear w0 ht
  unfold FewW at FW
  generalize l0.take 30 = l at *
  go_enter Tryd.func4, Tryd.ntmps4
  go_wp2_with fail
  refine FW.out.mono ?_
  rintro e w1 ⟨a, c, rfl, hw1, hb1⟩
  have HW1 := Lib.hid hw1
  have HB1 := Lib.hid hb1
  clear hw1 hb1
  go_wp2_with fail
  refine (spans_any a c l w1 (HT.out.later HB1.out) HW1.out hl).mono ?_
  rintro e w2 ⟨v, T, rfl, own, hP, hN, hb2⟩
  obtain ⟨ap, cp, rfl, hp⟩ := own_spans own
  have OK := spS_ok l
  rw [← hP] at OK
  have HP := Lib.hid hp
  have HN := Lib.hid hN
  have HOK := Lib.hid OK
  have HB2 := Lib.hid (below_trans HB1.out hb2)
  have HW2 := Lib.hid (HW1.out.later hb2)
  have TL := spS_len l l.length
  rw [← hP] at TL
  have hTl : T.length ≤ 30 := by have : (spP T).length = T.length := by simp [spP]
                                 omega
  clear own hp hN hb2 HW1 HB1 OK hP TL
  go_wp2_with fail
  go_loopw [4, 5] (fun t i wr => ∃ m A : Nat, m ≤ T.length ∧ i = .int .i64 m ∧ t = .int .i64 A ∧ okP l A ((spP T).drop m) l.length ∧ Below w2.heap.size w2 wr) (fun _ i _ => T.length - (intOf i).toNat)
  case atStart => exact ⟨0, 0, Nat.zero_le _, rfl, rfl, HOK.out, Below.refl _ _⟩
  case round =>
    obtain ⟨m, A, hm, rfl, rfl, hok, hb⟩ := hrel
    by_cases hlt : m < T.length
    · obtain ⟨wo, rfl⟩ : ∃ wo : World, wo = wr := ⟨_, rfl⟩
      obtain ⟨s, hs⟩ : ∃ s, T[m]? = some s := ⟨_, List.getElem?_eq_getElem hlt⟩
      have hd : (spP T).drop m = (s.f, s.t) :: (spP T).drop (m + 1) := by
        rw [List.drop_eq_getElem_cons (by simpa [spP] using hlt)]
        congr 1
        have h2 : T[m] = s := by rw [List.getElem?_eq_getElem hlt] at hs; exact Option.some.inj hs
        unfold spP
        rw [List.getElem_map, h2]
      rw [hd] at hok
      obtain ⟨⟨hfa, hft, htn, hfi, hmid⟩, hrest⟩ := hok
      have NXs := Lib.hid ((HN.out s (List.mem_of_getElem? hs)))
      obtain ⟨sf, st, sv⟩ := s
      have hfa' : sf = A := hfa
      subst hfa'
      obtain ⟨t, rfl⟩ : ∃ t, st = t + 1 := ⟨st - 1, by have : sf < st := hft; omega⟩
      have hft' : sf < t + 1 := hft
      have htn' : t + 1 ≤ l.length := htn
      obtain ⟨an, cn, hsv, hI⟩ := own_i (l := spN l (t + 1)) NXs.out (by have := spN_len l (t + 1); omega)
      have hsv' : sv = .slice an (spN l (t + 1)).length cn := hsv
      subst hsv'
      have HI := Lib.hid (hI.later hb)
      have HB := Lib.hid hb
      have HR := Lib.hid hrest
      have HF := Lib.hid hfi
      have HM := Lib.hid hmid
      have um := IntWalk.i64_in ((m : Int) + 1) (by omega)
      rcases HP.out with hnil | ⟨g, rfl, hg, hcs⟩
      · rw [hnil] at hlt; simp at hlt
      have hgo := Nat.lt_of_lt_of_le hg hb.size
      have c0 := (hb.cell (p := ⟨g, m * 3, none⟩) hg).trans (hcs m _ hs).1
      have c1 := (hb.cell (p := ⟨g, m * 3 + 1, none⟩) hg).trans (hcs m _ hs).2.1
      have c2 := (hb.cell (p := ⟨g, m * 3 + 2, none⟩) hg).trans (hcs m _ hs).2.2
      clear hb hrest hfi hmid hcs hs hd hI NXs hft htn hfa
      have RF := Lib.hid (fun k W (hW : WordsC W a l c) (hk : k ≤ l.length) => rfirst_any a c l k W hW hk (by omega))
      have t0 : decide ((t : Int) + 1 ≤ (sf : Int)) = false := by simp; omega
      have t1 : decide ((l.length : Int) < (t : Int) + 1) = false := by simp; omega
      go_wp2_with fail
      have d0 : (wo.alloc (.cells #[.int .i64 (sf : Int), .int .i64 ((t : Int) + 1), .slice an (spN l (t + 1)).length cn] 39)).cell? ⟨wo.heap.size, 0, none⟩ = some (.int .i64 (sf : Int)) := by rw [World.cell?_alloc_new]; rfl
      have d1 : (wo.alloc (.cells #[.int .i64 (sf : Int), .int .i64 ((t : Int) + 1), .slice an (spN l (t + 1)).length cn] 39)).cell? ⟨wo.heap.size, 1, none⟩ = some (.int .i64 ((t : Int) + 1)) := by rw [World.cell?_alloc_new]; rfl
      have d2 : (wo.alloc (.cells #[.int .i64 (sf : Int), .int .i64 ((t : Int) + 1), .slice an (spN l (t + 1)).length cn] 39)).cell? ⟨wo.heap.size, 2, none⟩ = some (.slice an (spN l (t + 1)).length cn) := by rw [World.cell?_alloc_new]; rfl
      have hsz : wo.heap.size < (wo.alloc (.cells #[.int .i64 (sf : Int), .int .i64 ((t : Int) + 1), .slice an (spN l (t + 1)).length cn] 39)).heap.size := by simp
      have B3 := Lib.hid (show Below w2.heap.size w2 (wo.alloc (.cells #[.int .i64 (sf : Int), .int .i64 ((t : Int) + 1), .slice an (spN l (t + 1)).length cn] 39)) from HB.out.alloc (by have := HB.out.size; omega) _)
      have I3 := Lib.hid (HI.out.later (w' := wo.alloc (.cells #[.int .i64 (sf : Int), .int .i64 ((t : Int) + 1), .slice an (spN l (t + 1)).length cn] 39)) ((Below.refl _ _).alloc (Nat.le_refl _) _))
      clear c0 c1 c2 HB HI hgo
      generalize wo.heap.size = SB at *
      generalize World.alloc wo _ = W3 at *
      refine (RF.out sf W3 (HW2.out.later B3.out) (by omega)).mono ?_
      rw [HF.out]
      rintro e w4 ⟨rfl, hb4⟩
      have e0 := (hb4.cell (p := ⟨SB, 0, none⟩) hsz).trans d0
      have e1 := (hb4.cell (p := ⟨SB, 1, none⟩) hsz).trans d1
      have e2 := (hb4.cell (p := ⟨SB, 2, none⟩) hsz).trans d2
      have hs4 := Nat.lt_of_lt_of_le hsz hb4.size
      have B4 := Lib.hid (below_trans B3.out hb4)
      have I4 := Lib.hid (I3.out.later hb4)
      have uf := IntWalk.i64_in ((sf : Int) + 1) (by omega)
      clear hb4 d0 d1 d2 hsz B3 I3
      go_wp2_with fail
      go_loopw [7] (fun i wr => ∃ k : Nat, sf < k ∧ k ≤ t + 1 ∧ i = .int .i64 k ∧ Below w4.heap.size w4 wr) (fun i _ => t + 1 - (intOf i).toNat)
      case atStart => exact ⟨sf + 1, by omega, by omega, rfl, Below.refl _ _⟩
      case round =>
        obtain ⟨k, hk1, hk2, rfl, hbk⟩ := hrel
        have g1 := (hbk.cell (p := ⟨SB, 1, none⟩) hs4).trans e1
        have g2 := (hbk.cell (p := ⟨SB, 2, none⟩) hs4).trans e2
        have BK := Lib.hid (below_trans B4.out hbk)
        have IK := Lib.hid (I4.out.later hbk)
        have BK4 := Lib.hid hbk
        have uk := IntWalk.i64_in ((k : Int) + 1) (by omega)
        clear hbk e0 e1 e2
        by_cases hkt : k < t + 1
        · have tk : decide ((k : Int) < (t : Int) + 1) = true := by simp; omega
          have FK := Lib.hid (HM.out k hk1 hkt)
          go_wp2_with fail
          refine (RF.out k _ (HW2.out.later BK.out) (by omega)).mono ?_
          rw [FK.out]
          rintro e w5 ⟨rfl, hb5⟩
          go_wp2_with fail
          refine ⟨⟨k + 1, by omega, by omega, rfl, below_trans BK4.out hb5⟩, by simp [intOf]; omega⟩
        · obtain rfl : k = t + 1 := by omega
          have tk : decide (((t + 1 : Nat) : Int) < (t : Int) + 1) = false := by simp
          have ut := IntWalk.i64_in ((t : Int) + 1 - 1) (by omega)
          have RN := Lib.hid (fun W (hW : WordsC W a l c) => rnext_any a c l t W hW (by omega) (by omega))
          have szk := Nat.lt_of_lt_of_le hs4 BK4.out.size
          go_wp2_with fail
          refine (RN.out wr (HW2.out.later BK.out)).mono ?_
          rintro e w5 ⟨v5, rfl, own5, hb5⟩
          obtain ⟨ar, cr, rfl, hR⟩ := own_i own5 (by rw [castI_len]; have := nextN_len (qAt l t) t l.length; omega)
          have HR5 := Lib.hid hR
          have g15 := (hb5.cell (p := ⟨SB, 1, none⟩) szk).trans g1
          have g25 := (hb5.cell (p := ⟨SB, 2, none⟩) szk).trans g2
          have szk5 := Nat.lt_of_lt_of_le szk hb5.size
          have B5 := Lib.hid (below_trans BK.out hb5)
          have I5 := Lib.hid (IK.out.later hb5)
          clear own5 hR hb5 g1 g2 szk IK BK BK4
          obtain ⟨b, off, rfl, hbb, hc, hx⟩ := words_cell (HW2.out.later B5.out) (show t < l.length by omega)
          have hcl := HW2.out.2.1
          have hcm := HW2.out.2.2.1
          have RDx := Lib.hid (fun W => rdec_any ((l.getD t 0 : Nat) : Int) W (by omega) (by omega))
          have HX := Lib.hid hx
          have HOx : (decI ((l.getD t 0 : Nat) : Int)).o = (qAt l t).o := rfl
          clear hx
          generalize l.getD t 0 = X at *
          obtain ⟨o, d, u, v, im, hQ, hok', hm'⟩ := dec_gen (X : Int) (by omega) (by have := HX.out; omega)
          rw [hQ] at HOx
          have HOy : (qAt l t).o = o := HOx.symm
          clear HOx
          have LNX := Lib.hid (show (castI (nextN (qAt l t) t l.length)).length ≤ l.length by rw [castI_len]; exact nextN_len _ _ _)
          go_wp2_with fail
          refine (RDx.out _).mono ?_
          unfold RDecP
          rw [hQ, hok']
          unfold agg5
          rintro e w6 ⟨rfl, hb6⟩
          have g16 := (hb6.cell (p := ⟨SB, 1, none⟩) szk5).trans g15
          have g26 := (hb6.cell (p := ⟨SB, 2, none⟩) szk5).trans g25
          have szk6 := Nat.lt_of_lt_of_le szk5 hb6.size
          have B6 := Lib.hid (below_trans B5.out hb6)
          have I6 := Lib.hid (I5.out.later hb6)
          have R6 := Lib.hid (HR5.out.later hb6)
          clear hb6 g15 g25 szk5 I5 HR5 B5 hQ hok' RDx
          by_cases h45 : o = 45
          · subst h45
            have ES : spN l (t + 1) = [] := by unfold spN; rw [if_pos (by simpa using HOy)]
            rw [ES] at I6 g26 ⊢
            have I7 := Lib.hid (I6.out.later (w' := (w6.alloc (.cells #[.int .i64 45, .int .i64 d, .int .i64 u, .int .i64 v, .int .i32 im] 29)).alloc (.cells #[] 3)) (by go_grown))
            have IE := Lib.hid (fun (a2 : Option Addr) (c2 : Nat) => ints_eq an a2 cn c2 [] ((w6.alloc (.cells #[.int .i64 45, .int .i64 d, .int .i64 u, .int .i64 v, .int .i32 im] 29)).alloc (.cells #[] 3)) I7.out ⟨by simp, .inl rfl⟩)
            go_wp2_with (go_at_call 11; refine (IE.out _ _).mono ?_; rintro e w7 ⟨rfl, hd7⟩; have hb7 := below_draw hd7; have g17 := (hb7.cell (p := ⟨SB, 1, none⟩) (by simp; omega)).trans ((World.cell?_alloc_past (w := w6.alloc (.cells #[.int .i64 45, .int .i64 d, .int .i64 u, .int .i64 v, .int .i32 im] 29)) _ _ _ (by simp; omega)).trans ((World.cell?_alloc_past (w := w6) _ _ _ szk6).trans g16)); have B7 := Lib.hid (below_trans (below_trans B6.out (show Below w6.heap.size w6 ((w6.alloc (.cells #[.int .i64 45, .int .i64 d, .int .i64 u, .int .i64 v, .int .i32 im] 29)).alloc (.cells #[] 3)) by go_grown)) hb7); clear hd7 hb7)
            refine ⟨⟨m + 1, t + 1, by omega, rfl, rfl, HR.out, B7.out⟩, by simp [intOf]; omega⟩
          · have t45 : (o == 45) = false := by simp; exact h45
            have ES : spN l (t + 1) = castI (nextN (qAt l t) t l.length) := by unfold spN; rw [if_neg (by simp; rw [HOy]; exact h45)]; rfl
            rw [ES] at I6 g26 ⊢
            generalize castI (nextN (qAt l t) t l.length) = L at *
            have BI := Lib.hid (show Below w6.heap.size w6 (w6.alloc (.cells #[.int .i64 o, .int .i64 d, .int .i64 u, .int .i64 v, .int .i32 im] 29)) by go_grown)
            have IE := Lib.hid (ints_eq an ar cn cr L (w6.alloc (.cells #[.int .i64 o, .int .i64 d, .int .i64 u, .int .i64 v, .int .i32 im] 29)) (I6.out.later BI.out) (R6.out.later BI.out))
            go_wp2_with (go_at_call 11; refine IE.out.mono ?_; rintro e w7 ⟨rfl, hd7⟩; have hb7 := below_draw hd7; have g17 := (hb7.cell (p := ⟨SB, 1, none⟩) (by simp; omega)).trans ((World.cell?_alloc_past (w := w6) _ _ _ szk6).trans g16); have B7 := Lib.hid (below_trans (below_trans B6.out BI.out) hb7); clear hd7 hb7)
            refine ⟨⟨m + 1, t + 1, by omega, rfl, rfl, HR.out, B7.out⟩, by simp [intOf]; omega⟩
    · obtain rfl : m = T.length := by omega
      have hA : A = l.length := by
        rw [List.drop_eq_nil_of_le (by simp [spP])] at hok
        exact hok
      subst hA
      have HB := Lib.hid hb
      clear hb hok
      go_wp2_with fail
      refine (LV.out _ (HT.out.later (below_trans HB2.out HB.out))).mono ?_
      rintro e w4 ⟨rfl, hb4⟩
      go_wp2_with fail
      go_ret
      exact ⟨rfl, below_trans (below_trans HB2.out HB.out) hb4⟩

set_option maxRecDepth 100000 in
theorem lifted_FlowSpans (os : Os) (started : os.Started) (H : Type) (enc : TypeId × Value → H) :
    ReturnsInHanded {} Tryd.checked os 4 .any (fun w args => (Rows.flowSpansSpec.pre enc Tryd.prog Tryd.f4 [] false w args ∧ laidMetH Tryd.prog laid3 w) ∧ sizedMet enc Tryd.prog Tryd.f4 (OpenSpec.ofChange Rows.flowSpansSpec) false w args)
      (Rows.flowSpansSpec.post enc Tryd.prog Tryd.f4 false true false false) := by
  refine returnsInHanded_of_change_and (C := Tryd.checked) (X := fun w _ => laidMetH Tryd.prog laid3 w) (fun _ _ _ hh h => h.of_heap hh) own started (by kernel_rfl) Tryd.func4
    (ChangeSpec.witness_shaped (enc := enc) (C := Tryd.checked) (os := os) (X := fun w _ => laidMetH Tryd.prog laid3 w) false (World.doorLaid Tryd.prog 400 os) #[.slice none 0 0] 8 rfl (World.shaped_of_RefB (by kernel_rfl) (by kernel_rfl)) (by kernel_rfl) (by kernel_rfl) (by kernel_rfl) (door_met os _)) ?_
  intro W base args ds gs before hval0 hW _ _ hL _
  have hval : ∀ (j : Nat) t v, Tryd.f4.params[j]? = some t → args[j]? = some v → Value.okWide Tryd.prog W .any base t v := hval0
  have hW' := hW
  obtain ⟨p, q, hA0, hV, rfl, hfz, hnd⟩ := hW
  have hA : DataW.TrodAll enc Tryd.prog W 0 (fun _ => true) true Tryd.f4.params.toList args.toList ds p := hA0
  rw [Tryd.params4] at hA hval
  obtain ⟨v0, vs0, d0, ds0, p0, q0, hargs, rfl, rfl, h0, r0⟩ := trodAll_cons hA
  obtain ⟨rfl, rfl, rfl⟩ := trodAll_nil r0
  obtain rfl : args = #[v0] := by cases args; simp_all
  obtain ⟨rfl, rfl⟩ := trodVars_none hV
  have k0 := h0
  have lt0 : ∀ x ∈ p0, x.block < W.heap.size := by obtain ⟨m, hm⟩ := k0; exact DataW.trod_lt m _ _ _ hm
  obtain ⟨a0, c0, l0, rfl, w0⟩ := words_in Tryd.underlying22 Tryd.underlying32 (by kernel_rfl) (hval 0 22 v0 rfl rfl) h0
  clear hA0 hval0
  refine (walk_FlowSpans W a0 c0 l0 w0 (t3_of hL)).mono fun e W' ⟨he, bel⟩ => ?_
  subst he
  exact ⟨_, rfl, _, _, _, [], _, [], hW', trodAll_mk1 (shut_bool Tryd.underlying4 _), (trodAll_cons_mk (Below.trod laidOut (by kernel_rfl) (of_decide_eq_true (by kernel_rfl)) k0 bel lt0) trodAll_mk0), rfl, bel.frame _, fun h => by cases h⟩

theorem row_FlowSpans : Rows.FlowSpansSaid :=
  OpenClaim.holds_of_wide 4 Tryd.f4 rfl rfl rfl rfl rfl rfl rfl ⟨rfl, rfl, rfl, rfl, rfl⟩ rfl rfl rfl rfl rfl (by kernel_rfl) Tryd.func4 (by kernel_rfl)
    (of_decide_eq_true (by kernel_rfl)) (by unfold Func.isWrapper; first | (rw [if_pos (by decide +kernel)]; kernel_rfl) | (rw [if_neg (by decide +kernel)]; exact ⟨rfl, rfl⟩))
    (fun os started H enc _ => lifted_FlowSpans os started H enc)
theorem holds_FlowSpans : Rows.FlowSpansCardSaid :=
  Claim7.holds_tied_plain_at .later [] [.data] true _ false
    row_FlowSpans (fun _ h => by cases h) (by kernel_rfl) (fun _ h => by cases h) flowSpans_row_tie rfl ⟨rfl, rfl⟩ (by kernel_rfl) rfl
    (fun f fn hf hfn => by
      obtain rfl : f = 4 := Option.some.inj ((show Tryd.prog.funcNamed "pintle/pintlelaw42.FlowSpans" = some 4 by kernel_rfl).symm.trans hf) |>.symm
      obtain rfl : fn = Tryd.f4 := (Option.some.inj (Tryd.func4.symm.trans hfn)).symm
      exact ⟨by kernel_rfl, fun j t ht => by
        rw [Tryd.params4] at ht
        have hm : t ∈ [22] := by simpa using Array.mem_of_getElem? ht
        have hall : ([22].all fun u => !Tryd.prog.wantsStandIn u) = true := by kernel_rfl
        exact (show Tryd.prog.wantsStandIn t = false by simpa using List.all_eq_true.1 hall t hm)⟩)
    (by kernel_rfl)

end Go.Proofs.YtmlhoagcppofgaaDoor
