/- Package flow: which words are first ones. -/
import Derived.Test.YtmlhoagcppofgaaDoorSpA
import Derived.Test.YtmlhoagcppofgaaDoorFlG
import Derived.Test.YtmlhoagcppofgaaDoorFl
import Derived.RangeFuncBox
namespace Go.Proofs.YtmlhoagcppofgaaDoor
open Go Go.RowKit Pl
set_option linter.unusedVariables false

/-- the blocks of firsts -/
structure FcIs (w : World) (B R A : Nat) (a : Option Addr) (n c : Nat) (S : Nat → Bool) (W : World) : Prop where
  cB : W.cell? ⟨B, 0, none⟩ = some (.slice a n c)
  cA : W.cell? ⟨A, 0, none⟩ = some (.slice (some ⟨R, 0, none⟩) n n)
  row : W.ownsRow w.heap.size 4 1 (.slice (some ⟨R, 0, none⟩) n n) n (rowB S n)
  lB : w.heap.size ≤ B
  lR : B < R
  lA : R < A
  lt : A < W.heap.size
  bl : Below w.heap.size w W
theorem FcIs.later {w W W' : World} {B R A n c : Nat} {a : Option Addr} {S : Nat → Bool} (h : FcIs w B R A a n c S W) (hb : Below W.heap.size W W') : FcIs w B R A a n c S W' := by
  have h1 := h.lB
  have h2 := h.lR
  have h3 := h.lA
  have h4 := h.lt
  have hs := hb.size
  exact { cB := (hb.cell (p := ⟨B, 0, none⟩) (by show B < _; omega)).trans h.cB, cA := (hb.cell (p := ⟨A, 0, none⟩) (by show A < _; omega)).trans h.cA, row := own_laterF h.row hb, lB := h1, lR := h2, lA := h3, lt := by omega, bl := below_trans h.bl hb }
theorem FcIs.set {w W : World} {B R A n c : Nat} {a : Option Addr} {S : Nat → Bool} (h : FcIs w B R A a n c S W) (k : Nat) : FcIs w B R A a n c (setS S k) (W.setCell ⟨R, k, none⟩ (.bool true)) := by
  have h1 := h.lB
  have h2 := h.lR
  have h3 := h.lA
  have h4 := h.lt
  have st := h.row.stored k (.bool true)
  refine { cB := ?_, cA := ?_, row := by rw [← rowB_set]; exact st.1, lB := h1, lR := h2, lA := h3, lt := by simpa using h4, bl := h.bl.setCell (p := ⟨R, k, none⟩) (by show w.heap.size ≤ R; omega) _ }
  · exact st.2.cell h.cB (by intro e; have := Option.some.inj e; simp at this; omega)
  · exact st.2.cell h.cA (by intro e; have := Option.some.inj e; simp at this; omega)
theorem FcIs.congr {w W : World} {B R A n c : Nat} {a : Option Addr} {S T : Nat → Bool} (h : FcIs w B R A a n c S W) (e : ∀ j, j < n → S j = T j) : FcIs w B R A a n c T W := by
  have hr := h.row
  rw [rowB_congr e] at hr
  exact { cB := h.cB, cA := h.cA, row := hr, lB := h.lB, lR := h.lR, lA := h.lA, lt := h.lt, bl := h.bl }
def markT (n : Nat) (k : Int) (S : Nat → Bool) : Nat → Bool := fun j => S j || decide ((j : Int) = k)
set_option maxRecDepth 100000 in
set_option maxHeartbeats 1000000 in
theorem mark_any {w W : World} {B R A n c : Nat} {a : Option Addr} {S : Nat → Bool} (k : Int) (h : FcIs w B R A a n c S W) (hn : n ≤ 1000) :
    Calls Tryd.prog 43 #[.int .i64 k, .pointer (some ⟨B, 0, none⟩), .pointer (some ⟨A, 0, none⟩)] W fun e W' => e = .returned (.tuple #[]) ∧ FcIs w B R A a n c (markT n k S) W' ∧ ∀ j, j ≠ R → W'.heap[j]? = W.heap[j]? := by
  have cB := h.cB
  have cA := h.cA
  have IP := Lib.hid (fun W => isPlace_any a n c k W hn)
  by_cases hp : 0 ≤ k ∧ k < (n : Int)
  · obtain ⟨j, rfl⟩ : ∃ j : Nat, k = j := ⟨k.toNat, by omega⟩
    rw [decide_eq_true hp] at IP
    have hj : j < n := by omega
    have cJ := (h.row.cellAt j (by omega)).trans (rowB_at hj)
    have fz := h.row.frozenAt j
    have HS := Lib.hid ((h.set j).congr (T := markT n (j : Int) S) (fun i _ => by
      unfold setS markT
      congr 1
      rw [Bool.eq_iff_iff]; simp; omega))
    clear hp h
    go_enter Tryd.func43, Tryd.ntmps43
    go_wp2_with (first | (go_at_call 20; refine (IP.out _).mono ?_; rintro e w3 ⟨rfl, rfl⟩))
    go_end0
    exact ⟨rfl, HS.out, fun i hi => Below.heap_setCell W ⟨R, j, none⟩ (.bool true) i hi⟩
  · rw [decide_eq_false hp] at IP
    have HS := Lib.hid (h.congr (T := markT n k S) (fun i hi => by
      unfold markT
      rw [decide_eq_false (by omega), Bool.or_false]))
    clear hp h
    go_enter Tryd.func43, Tryd.ntmps43
    go_wp2_with (first | (go_at_call 20; refine (IP.out _).mono ?_; rintro e w3 ⟨rfl, rfl⟩))
    go_end0
    exact ⟨rfl, HS.out, fun _ _ => rfl⟩
theorem isBranch_any (o : Int) (W : World) : Calls Tryd.prog 37 #[.int .i64 o] W fun e w' => e = .returned (.bool (decide (36 ≤ o ∧ o ≤ 41))) ∧ W = w' := by
  by_cases h : 36 ≤ o
  · have t : decide (36 ≤ o) = true := by simp [h]
    have T := Lib.hid (show decide (36 ≤ o ∧ o ≤ 41) = decide (o ≤ 41) by rw [Bool.eq_iff_iff]; simp; omega)
    clear h
    go_enter Tryd.func37, Tryd.ntmps37
    go_wp2
    go_ret
    rw [T.out]
    exact ⟨rfl, rfl⟩
  · have t : decide (36 ≤ o) = false := by simp; omega
    have T := Lib.hid (show decide (36 ≤ o ∧ o ≤ 41) = false by simp; omega)
    clear h
    go_enter Tryd.func37, Tryd.ntmps37
    go_wp2
    go_ret
    rw [T.out]
    exact ⟨rfl, rfl⟩
theorem fc_begin (w : World) (a : Option Addr) (n c : Nat) (hn : n ≤ 1000) : FcIs w w.heap.size (w.heap.size + 1) (w.heap.size + 1 + 1) a n c (fun _ => false) (((w.alloc (.cells #[.slice a n c] 22)).alloc (.cells (madeCells #[Value.bool false] n) 4)).alloc (.cells #[.slice (some ⟨w.heap.size + 1, 0, none⟩) n n] 42)) := by
  have O1 := World.ownsRow_lit (base := w.heap.size) (size := 1) (e := 4) (w.alloc (.cells #[.slice a n c] 22)) (madeCells #[Value.bool false] n) n (by simp) (by simp only [maxLen]; omega) (by rw [size_madeCells]; omega)
  rw [made_rowB] at O1
  refine { cB := ?_, cA := ?_, row := ?_, lB := Nat.le_refl _, lR := by omega, lA := by omega, lt := by simp, bl := by go_grown }
  · rw [World.cell?_alloc_past _ _ _ (by simp; omega), World.cell?_alloc_past _ _ _ (by simp), World.cell?_alloc_new]; rfl
  · have := World.cell?_alloc_new ((w.alloc (.cells #[.slice a n c] 22)).alloc (.cells (madeCells #[Value.bool false] n) 4)) #[.slice (some ⟨w.heap.size + 1, 0, none⟩) n n] 42 0
    simpa using this
  · have := O1.alloc (.cells #[.slice (some ⟨w.heap.size + 1, 0, none⟩) n n] 42)
    simpa using this
theorem ends_bools {o d u v im : Int} (h : 0 ≤ o ∧ o ≤ 48) : endsQ (⟨o, d, u, v, im⟩ : Q5) = (decide (o = 0) || (decide (36 ≤ o ∧ o ≤ 41) || ((o == 45) || !onO o))) := by
  unfold endsQ onO
  rw [Bool.eq_iff_iff]
  simp only [Bool.or_eq_true, decide_eq_true_eq, Bool.not_eq_true', decide_eq_false_iff_not, beq_iff_eq]
  omega
set_option maxRecDepth 100000 in
set_option maxHeartbeats 2000000 in
theorem firsts_any (a : Option Addr) (c : Nat) (l : List Nat) (w : World) (ht : T3 w) (hw : WordsC w a l c) (hl : l.length ≤ 30) :
    Calls Tryd.prog 30 #[.slice a l.length c] w fun e w' => ∃ g, e = .returned (.slice (some ⟨g, 0, none⟩) l.length l.length) ∧ w'.ownsRow w.heap.size 4 1 (.slice (some ⟨g, 0, none⟩) l.length l.length) l.length (rowB (firstB l) l.length) ∧ Below w.heap.size w w' := by
  have hmk := fun W => run_make_row' (P := Tryd.prog) 42 4 (.bool false) 1 Tryd.underlying42 info_boolF rfl .i64 .i64 l.length (by omega) (by omega) W
  have HW := Lib.hid hw
  have HT := Lib.hid ht
  clear hw ht
  go_enter Tryd.func30, Tryd.ntmps30
  go_wp2_with fail
  have R0 := fc_begin w a l.length c (by omega)
  generalize World.alloc (World.alloc (World.alloc w _) _) _ = W1 at *
  refine (mark_any 0 R0 (by omega)).mono ?_
  rintro e w1 ⟨rfl, hR1, _⟩
  have R1 := Lib.hid (hR1.congr (T := markS l 0) (fun j hj => by unfold markT markS; rw [Bool.eq_iff_iff]; first | (simp; done) | (simp; omega)))
  have cB1 := hR1.cB
  clear R0 hR1 hmk
  go_wp2_with fail
  go_loopw [19] (fun i wr => ∃ n : Nat, n ≤ l.length ∧ i = .int .i64 n ∧ FcIs w w.heap.size (w.heap.size + 1) (w.heap.size + 1 + 1) a l.length c (markS l n) wr) (fun i _ => l.length - (intOf i).toNat)
  case atStart => exact ⟨0, Nat.zero_le _, rfl, R1.out⟩
  case round =>
    obtain ⟨n, hn, rfl, hR⟩ := hrel
    clear cB1
    by_cases hlt : n < l.length
    · obtain ⟨b, off, rfl, hbb, hc, hx⟩ := words_cell (HW.out.later hR.bl) hlt
      have hcl := HW.out.2.1
      have hcm := HW.out.2.2.1
      have un := IntWalk.i64_in ((n : Int) + 1) (by omega)
      have RR := Lib.hid hR
      have TT := Lib.hid (HT.out.later hR.bl)
      have HX := Lib.hid hx
      have OB := op_le l n hx
      have QA : qAt l n = decI ((l.getD n 0 : Nat) : Int) := rfl
      have MN := Lib.hid (fun k => markS_next l n k)
      clear hR
      generalize l.getD n 0 = X at *
      obtain ⟨o, d, u, v, im, hQ, hok, hm⟩ := dec_gen (X : Int) (by omega) (by have := HX.out; omega)
      rw [QA, hQ] at OB MN
      have EB := ends_bools (d := d) (u := u) (v := v) (im := im) OB
      have HQ := Lib.hid hQ
      have IB := Lib.hid (fun W => isBranch_any o W)
      have GO := Lib.hid (fun W => goesOn_any o W)
      have TGf := Lib.hid (fun (h : ¬ (aimO o = true ∧ im % 4 = 0)) W => target_no n o d u v im W hm.1 hm.2 h)
      have TGt := Lib.hid (fun (h : aimO o = true ∧ im % 4 = 0) W => target_yes n o d u v im ((n : Int) + im / 4) W (by omega) hm.1 hm.2 h.1 h.2 rfl)
      by_cases h0 : o = 0
      · have hok' : okI (X : Int) = false := by rw [hok]; simp [h0]
        have hok := hok'
        have hT : ¬ (aimO o = true ∧ im % 4 = 0) := by intro h; rw [h0] at h; cases h.1
        have TG := Lib.hid (TGf.out hT)
        have AQ := Lib.hid (show ∀ k, aimQ ⟨o, d, u, v, im⟩ n k = false from fun k => by rw [h0]; rfl)
        have EQ := Lib.hid (show endsQ ⟨o, d, u, v, im⟩ = true from decide_eq_true (.inl h0))
        clear h0
        clear hT TGf TGt EB OB
        go_wp2_with fail
        refine (dec_any _ _ TT.out (by omega) (by have := HX.out; omega)).mono ?_
        unfold DecP
        rw [HQ.out, hok]
        unfold agg5
        rintro e w2 ⟨rfl, hb2⟩
        have R3 := Lib.hid ((RR.out.later hb2).later (W' := w2.alloc (.cells #[.int .i64 o, .int .i64 d, .int .i64 u, .int .i64 v, .int .i32 im] 29)) ((Below.refl _ _).alloc (Nat.le_refl _) _))
        have ci3 : (w2.alloc (.cells #[.int .i64 o, .int .i64 d, .int .i64 u, .int .i64 v, .int .i32 im] 29)).cell? ⟨w2.heap.size, 0, none⟩ = some (.int .i64 o) := by rw [World.cell?_alloc_new]; rfl
        have sz3 : w2.heap.size < (w2.alloc (.cells #[.int .i64 o, .int .i64 d, .int .i64 u, .int .i64 v, .int .i32 im] 29)).heap.size := by simp
        have hRw : w2.heap.size ≠ w.heap.size + 1 := by have h1 := (RR.out.later hb2).lt; omega
        clear hb2 TT hc hbb QA
        go_wp2_with fail
        generalize World.alloc w2 _ = w3 at *
        generalize w2.heap.size = I at *
        refine (TG.out _).mono ?_
        rintro e w4 ⟨rfl, hb4⟩
        have R4 := Lib.hid (R3.out.later hb4)
        have ci4 := (hb4.cell (p := ⟨I, 0, none⟩) sz3).trans ci3
        clear hb4 ci3 sz3
        have R5 := R4
        have ci5 := ci4
        clear ci4
        go_wp2_with (first | (go_at_call 37; refine (IB.out _).mono ?_; rintro e w6 ⟨rfl, rfl⟩) | (go_at_call 25; refine (GO.out _).mono ?_; rintro e w6 ⟨rfl, rfl⟩))
        refine (mark_any _ R5.out (by omega)).mono ?_
        rintro e w7 ⟨rfl, hR7, _⟩
        have R7 := Lib.hid hR7
        clear hR7
        go_wp2_with fail
        refine ⟨⟨n + 1, by omega, rfl, R7.out.congr (fun k hk => ?_)⟩, by simp [intOf]; omega⟩
        rw [MN.out, AQ.out, EQ.out]
        have e1 : decide ((k : Int) = (n : Int) + 1) = decide (k = n + 1) := by rw [Bool.eq_iff_iff]; simp; omega
        unfold markT
        rw [e1]
        simp
      · have hok' : okI (X : Int) = true := by rw [hok]; simp [h0]
        have hok := hok'
        by_cases hT : aimO o = true ∧ im % 4 = 0
        · have TG := Lib.hid (TGt.out hT)
          have AQ := Lib.hid (show ∀ k : Nat, aimQ ⟨o, d, u, v, im⟩ n k = decide ((k : Int) = (n : Int) + im / 4) from fun k => by
            unfold aimQ
            rw [show aimO (⟨o, d, u, v, im⟩ : Q5).o = true from hT.1, Bool.true_and, Bool.eq_iff_iff]
            simp
            omega)
          generalize hK : (n : Int) + im / 4 = K at *
          clear hT TGf TGt hK
          cases hb : decide (36 ≤ o ∧ o ≤ 41)
          · rw [hb] at EB IB
            cases h45 : (o == 45)
            · rw [h45] at EB
              cases hO : onO o
              · rw [hO] at EB GO
                have EQ := Lib.hid (show endsQ ⟨o, d, u, v, im⟩ = true by rw [EB]; simp)
                clear EB OB hb hO h0
                go_wp2_with fail
                refine (dec_any _ _ TT.out (by omega) (by have := HX.out; omega)).mono ?_
                unfold DecP
                rw [HQ.out, hok]
                unfold agg5
                rintro e w2 ⟨rfl, hb2⟩
                have R3 := Lib.hid ((RR.out.later hb2).later (W' := w2.alloc (.cells #[.int .i64 o, .int .i64 d, .int .i64 u, .int .i64 v, .int .i32 im] 29)) ((Below.refl _ _).alloc (Nat.le_refl _) _))
                have ci3 : (w2.alloc (.cells #[.int .i64 o, .int .i64 d, .int .i64 u, .int .i64 v, .int .i32 im] 29)).cell? ⟨w2.heap.size, 0, none⟩ = some (.int .i64 o) := by rw [World.cell?_alloc_new]; rfl
                have sz3 : w2.heap.size < (w2.alloc (.cells #[.int .i64 o, .int .i64 d, .int .i64 u, .int .i64 v, .int .i32 im] 29)).heap.size := by simp
                have hRw : w2.heap.size ≠ w.heap.size + 1 := by have h1 := (RR.out.later hb2).lt; omega
                clear hb2 TT hc hbb QA
                go_wp2_with fail
                generalize World.alloc w2 _ = w3 at *
                generalize w2.heap.size = I at *
                refine (TG.out _).mono ?_
                rintro e w4 ⟨rfl, hb4⟩
                have R4 := Lib.hid (R3.out.later hb4)
                have ci4 := (hb4.cell (p := ⟨I, 0, none⟩) sz3).trans ci3
                clear hb4 ci3 sz3
                go_wp2_with fail
                refine (mark_any _ R4.out (by omega)).mono ?_
                rintro e w5 ⟨rfl, hR5, hk5⟩
                have R5 := Lib.hid hR5
                have ci5 : w5.cell? ⟨I, 0, none⟩ = some (.int .i64 o) := by
                  have := ci4
                  unfold World.cell? at this ⊢
                  rw [hk5 I hRw]
                  exact this
                clear ci4 hR5 hk5
                go_wp2_with (first | (go_at_call 37; refine (IB.out _).mono ?_; rintro e w6 ⟨rfl, rfl⟩) | (go_at_call 25; refine (GO.out _).mono ?_; rintro e w6 ⟨rfl, rfl⟩))
                refine (mark_any _ R5.out (by omega)).mono ?_
                rintro e w7 ⟨rfl, hR7, _⟩
                have R7 := Lib.hid hR7
                clear hR7
                go_wp2_with fail
                refine ⟨⟨n + 1, by omega, rfl, R7.out.congr (fun k hk => ?_)⟩, by simp [intOf]; omega⟩
                rw [MN.out, AQ.out, EQ.out]
                have e1 : decide ((k : Int) = (n : Int) + 1) = decide (k = n + 1) := by rw [Bool.eq_iff_iff]; simp; omega
                unfold markT
                rw [e1]
                simp [Bool.or_assoc]
              · rw [hO] at EB GO
                have EQ := Lib.hid (show endsQ ⟨o, d, u, v, im⟩ = false by rw [EB]; simp [h0])
                clear EB OB hb hO h0
                go_wp2_with fail
                refine (dec_any _ _ TT.out (by omega) (by have := HX.out; omega)).mono ?_
                unfold DecP
                rw [HQ.out, hok]
                unfold agg5
                rintro e w2 ⟨rfl, hb2⟩
                have R3 := Lib.hid ((RR.out.later hb2).later (W' := w2.alloc (.cells #[.int .i64 o, .int .i64 d, .int .i64 u, .int .i64 v, .int .i32 im] 29)) ((Below.refl _ _).alloc (Nat.le_refl _) _))
                have ci3 : (w2.alloc (.cells #[.int .i64 o, .int .i64 d, .int .i64 u, .int .i64 v, .int .i32 im] 29)).cell? ⟨w2.heap.size, 0, none⟩ = some (.int .i64 o) := by rw [World.cell?_alloc_new]; rfl
                have sz3 : w2.heap.size < (w2.alloc (.cells #[.int .i64 o, .int .i64 d, .int .i64 u, .int .i64 v, .int .i32 im] 29)).heap.size := by simp
                have hRw : w2.heap.size ≠ w.heap.size + 1 := by have h1 := (RR.out.later hb2).lt; omega
                clear hb2 TT hc hbb QA
                go_wp2_with fail
                generalize World.alloc w2 _ = w3 at *
                generalize w2.heap.size = I at *
                refine (TG.out _).mono ?_
                rintro e w4 ⟨rfl, hb4⟩
                have R4 := Lib.hid (R3.out.later hb4)
                have ci4 := (hb4.cell (p := ⟨I, 0, none⟩) sz3).trans ci3
                clear hb4 ci3 sz3
                go_wp2_with fail
                refine (mark_any _ R4.out (by omega)).mono ?_
                rintro e w5 ⟨rfl, hR5, hk5⟩
                have R5 := Lib.hid hR5
                have ci5 : w5.cell? ⟨I, 0, none⟩ = some (.int .i64 o) := by
                  have := ci4
                  unfold World.cell? at this ⊢
                  rw [hk5 I hRw]
                  exact this
                clear ci4 hR5 hk5
                go_wp2_with (first | (go_at_call 37; refine (IB.out _).mono ?_; rintro e w6 ⟨rfl, rfl⟩) | (go_at_call 25; refine (GO.out _).mono ?_; rintro e w6 ⟨rfl, rfl⟩))
                refine ⟨⟨n + 1, by omega, rfl, R5.out.congr (fun k hk => ?_)⟩, by simp [intOf]; omega⟩
                rw [MN.out, AQ.out, EQ.out]
                try unfold markT
                simp
            · rw [h45] at EB
              have EQ := Lib.hid (show endsQ ⟨o, d, u, v, im⟩ = true by rw [EB]; simp)
              clear EB OB hb h0
              go_wp2_with fail
              refine (dec_any _ _ TT.out (by omega) (by have := HX.out; omega)).mono ?_
              unfold DecP
              rw [HQ.out, hok]
              unfold agg5
              rintro e w2 ⟨rfl, hb2⟩
              have R3 := Lib.hid ((RR.out.later hb2).later (W' := w2.alloc (.cells #[.int .i64 o, .int .i64 d, .int .i64 u, .int .i64 v, .int .i32 im] 29)) ((Below.refl _ _).alloc (Nat.le_refl _) _))
              have ci3 : (w2.alloc (.cells #[.int .i64 o, .int .i64 d, .int .i64 u, .int .i64 v, .int .i32 im] 29)).cell? ⟨w2.heap.size, 0, none⟩ = some (.int .i64 o) := by rw [World.cell?_alloc_new]; rfl
              have sz3 : w2.heap.size < (w2.alloc (.cells #[.int .i64 o, .int .i64 d, .int .i64 u, .int .i64 v, .int .i32 im] 29)).heap.size := by simp
              have hRw : w2.heap.size ≠ w.heap.size + 1 := by have h1 := (RR.out.later hb2).lt; omega
              clear hb2 TT hc hbb QA
              go_wp2_with fail
              generalize World.alloc w2 _ = w3 at *
              generalize w2.heap.size = I at *
              refine (TG.out _).mono ?_
              rintro e w4 ⟨rfl, hb4⟩
              have R4 := Lib.hid (R3.out.later hb4)
              have ci4 := (hb4.cell (p := ⟨I, 0, none⟩) sz3).trans ci3
              clear hb4 ci3 sz3
              go_wp2_with fail
              refine (mark_any _ R4.out (by omega)).mono ?_
              rintro e w5 ⟨rfl, hR5, hk5⟩
              have R5 := Lib.hid hR5
              have ci5 : w5.cell? ⟨I, 0, none⟩ = some (.int .i64 o) := by
                have := ci4
                unfold World.cell? at this ⊢
                rw [hk5 I hRw]
                exact this
              clear ci4 hR5 hk5
              go_wp2_with (first | (go_at_call 37; refine (IB.out _).mono ?_; rintro e w6 ⟨rfl, rfl⟩) | (go_at_call 25; refine (GO.out _).mono ?_; rintro e w6 ⟨rfl, rfl⟩))
              refine (mark_any _ R5.out (by omega)).mono ?_
              rintro e w7 ⟨rfl, hR7, _⟩
              have R7 := Lib.hid hR7
              clear hR7
              go_wp2_with fail
              refine ⟨⟨n + 1, by omega, rfl, R7.out.congr (fun k hk => ?_)⟩, by simp [intOf]; omega⟩
              rw [MN.out, AQ.out, EQ.out]
              have e1 : decide ((k : Int) = (n : Int) + 1) = decide (k = n + 1) := by rw [Bool.eq_iff_iff]; simp; omega
              unfold markT
              rw [e1]
              simp [Bool.or_assoc]
          · rw [hb] at EB IB
            have EQ := Lib.hid (show endsQ ⟨o, d, u, v, im⟩ = true by rw [EB]; simp)
            clear EB OB hb h0
            go_wp2_with fail
            refine (dec_any _ _ TT.out (by omega) (by have := HX.out; omega)).mono ?_
            unfold DecP
            rw [HQ.out, hok]
            unfold agg5
            rintro e w2 ⟨rfl, hb2⟩
            have R3 := Lib.hid ((RR.out.later hb2).later (W' := w2.alloc (.cells #[.int .i64 o, .int .i64 d, .int .i64 u, .int .i64 v, .int .i32 im] 29)) ((Below.refl _ _).alloc (Nat.le_refl _) _))
            have ci3 : (w2.alloc (.cells #[.int .i64 o, .int .i64 d, .int .i64 u, .int .i64 v, .int .i32 im] 29)).cell? ⟨w2.heap.size, 0, none⟩ = some (.int .i64 o) := by rw [World.cell?_alloc_new]; rfl
            have sz3 : w2.heap.size < (w2.alloc (.cells #[.int .i64 o, .int .i64 d, .int .i64 u, .int .i64 v, .int .i32 im] 29)).heap.size := by simp
            have hRw : w2.heap.size ≠ w.heap.size + 1 := by have h1 := (RR.out.later hb2).lt; omega
            clear hb2 TT hc hbb QA
            go_wp2_with fail
            generalize World.alloc w2 _ = w3 at *
            generalize w2.heap.size = I at *
            refine (TG.out _).mono ?_
            rintro e w4 ⟨rfl, hb4⟩
            have R4 := Lib.hid (R3.out.later hb4)
            have ci4 := (hb4.cell (p := ⟨I, 0, none⟩) sz3).trans ci3
            clear hb4 ci3 sz3
            go_wp2_with fail
            refine (mark_any _ R4.out (by omega)).mono ?_
            rintro e w5 ⟨rfl, hR5, hk5⟩
            have R5 := Lib.hid hR5
            have ci5 : w5.cell? ⟨I, 0, none⟩ = some (.int .i64 o) := by
              have := ci4
              unfold World.cell? at this ⊢
              rw [hk5 I hRw]
              exact this
            clear ci4 hR5 hk5
            go_wp2_with (first | (go_at_call 37; refine (IB.out _).mono ?_; rintro e w6 ⟨rfl, rfl⟩) | (go_at_call 25; refine (GO.out _).mono ?_; rintro e w6 ⟨rfl, rfl⟩))
            refine (mark_any _ R5.out (by omega)).mono ?_
            rintro e w7 ⟨rfl, hR7, _⟩
            have R7 := Lib.hid hR7
            clear hR7
            go_wp2_with fail
            refine ⟨⟨n + 1, by omega, rfl, R7.out.congr (fun k hk => ?_)⟩, by simp [intOf]; omega⟩
            rw [MN.out, AQ.out, EQ.out]
            have e1 : decide ((k : Int) = (n : Int) + 1) = decide (k = n + 1) := by rw [Bool.eq_iff_iff]; simp; omega
            unfold markT
            rw [e1]
            simp [Bool.or_assoc]
        · have TG := Lib.hid (TGf.out hT)
          have AQ := Lib.hid (show ∀ k : Nat, aimQ ⟨o, d, u, v, im⟩ n k = false from fun k => by
            unfold aimQ
            rw [Bool.and_eq_false_iff]
            by_cases hA : aimO o = true
            · right
              have h4 : ¬ im % 4 = 0 := fun g => hT ⟨hA, g⟩
              simp
              omega
            · left
              simpa using hA)
          clear hT TGf TGt
          cases hb : decide (36 ≤ o ∧ o ≤ 41)
          · rw [hb] at EB IB
            cases h45 : (o == 45)
            · rw [h45] at EB
              cases hO : onO o
              · rw [hO] at EB GO
                have EQ := Lib.hid (show endsQ ⟨o, d, u, v, im⟩ = true by rw [EB]; simp)
                clear EB OB hb hO h0
                go_wp2_with fail
                refine (dec_any _ _ TT.out (by omega) (by have := HX.out; omega)).mono ?_
                unfold DecP
                rw [HQ.out, hok]
                unfold agg5
                rintro e w2 ⟨rfl, hb2⟩
                have R3 := Lib.hid ((RR.out.later hb2).later (W' := w2.alloc (.cells #[.int .i64 o, .int .i64 d, .int .i64 u, .int .i64 v, .int .i32 im] 29)) ((Below.refl _ _).alloc (Nat.le_refl _) _))
                have ci3 : (w2.alloc (.cells #[.int .i64 o, .int .i64 d, .int .i64 u, .int .i64 v, .int .i32 im] 29)).cell? ⟨w2.heap.size, 0, none⟩ = some (.int .i64 o) := by rw [World.cell?_alloc_new]; rfl
                have sz3 : w2.heap.size < (w2.alloc (.cells #[.int .i64 o, .int .i64 d, .int .i64 u, .int .i64 v, .int .i32 im] 29)).heap.size := by simp
                have hRw : w2.heap.size ≠ w.heap.size + 1 := by have h1 := (RR.out.later hb2).lt; omega
                clear hb2 TT hc hbb QA
                go_wp2_with fail
                generalize World.alloc w2 _ = w3 at *
                generalize w2.heap.size = I at *
                refine (TG.out _).mono ?_
                rintro e w4 ⟨rfl, hb4⟩
                have R4 := Lib.hid (R3.out.later hb4)
                have ci4 := (hb4.cell (p := ⟨I, 0, none⟩) sz3).trans ci3
                clear hb4 ci3 sz3
                have R5 := R4
                have ci5 := ci4
                clear ci4
                go_wp2_with (first | (go_at_call 37; refine (IB.out _).mono ?_; rintro e w6 ⟨rfl, rfl⟩) | (go_at_call 25; refine (GO.out _).mono ?_; rintro e w6 ⟨rfl, rfl⟩))
                refine (mark_any _ R5.out (by omega)).mono ?_
                rintro e w7 ⟨rfl, hR7, _⟩
                have R7 := Lib.hid hR7
                clear hR7
                go_wp2_with fail
                refine ⟨⟨n + 1, by omega, rfl, R7.out.congr (fun k hk => ?_)⟩, by simp [intOf]; omega⟩
                rw [MN.out, AQ.out, EQ.out]
                have e1 : decide ((k : Int) = (n : Int) + 1) = decide (k = n + 1) := by rw [Bool.eq_iff_iff]; simp; omega
                unfold markT
                rw [e1]
                simp
              · rw [hO] at EB GO
                have EQ := Lib.hid (show endsQ ⟨o, d, u, v, im⟩ = false by rw [EB]; simp [h0])
                clear EB OB hb hO h0
                go_wp2_with fail
                refine (dec_any _ _ TT.out (by omega) (by have := HX.out; omega)).mono ?_
                unfold DecP
                rw [HQ.out, hok]
                unfold agg5
                rintro e w2 ⟨rfl, hb2⟩
                have R3 := Lib.hid ((RR.out.later hb2).later (W' := w2.alloc (.cells #[.int .i64 o, .int .i64 d, .int .i64 u, .int .i64 v, .int .i32 im] 29)) ((Below.refl _ _).alloc (Nat.le_refl _) _))
                have ci3 : (w2.alloc (.cells #[.int .i64 o, .int .i64 d, .int .i64 u, .int .i64 v, .int .i32 im] 29)).cell? ⟨w2.heap.size, 0, none⟩ = some (.int .i64 o) := by rw [World.cell?_alloc_new]; rfl
                have sz3 : w2.heap.size < (w2.alloc (.cells #[.int .i64 o, .int .i64 d, .int .i64 u, .int .i64 v, .int .i32 im] 29)).heap.size := by simp
                have hRw : w2.heap.size ≠ w.heap.size + 1 := by have h1 := (RR.out.later hb2).lt; omega
                clear hb2 TT hc hbb QA
                go_wp2_with fail
                generalize World.alloc w2 _ = w3 at *
                generalize w2.heap.size = I at *
                refine (TG.out _).mono ?_
                rintro e w4 ⟨rfl, hb4⟩
                have R4 := Lib.hid (R3.out.later hb4)
                have ci4 := (hb4.cell (p := ⟨I, 0, none⟩) sz3).trans ci3
                clear hb4 ci3 sz3
                have R5 := R4
                have ci5 := ci4
                clear ci4
                go_wp2_with (first | (go_at_call 37; refine (IB.out _).mono ?_; rintro e w6 ⟨rfl, rfl⟩) | (go_at_call 25; refine (GO.out _).mono ?_; rintro e w6 ⟨rfl, rfl⟩))
                refine ⟨⟨n + 1, by omega, rfl, R5.out.congr (fun k hk => ?_)⟩, by simp [intOf]; omega⟩
                rw [MN.out, AQ.out, EQ.out]
                try unfold markT
                simp
            · rw [h45] at EB
              have EQ := Lib.hid (show endsQ ⟨o, d, u, v, im⟩ = true by rw [EB]; simp)
              clear EB OB hb h0
              go_wp2_with fail
              refine (dec_any _ _ TT.out (by omega) (by have := HX.out; omega)).mono ?_
              unfold DecP
              rw [HQ.out, hok]
              unfold agg5
              rintro e w2 ⟨rfl, hb2⟩
              have R3 := Lib.hid ((RR.out.later hb2).later (W' := w2.alloc (.cells #[.int .i64 o, .int .i64 d, .int .i64 u, .int .i64 v, .int .i32 im] 29)) ((Below.refl _ _).alloc (Nat.le_refl _) _))
              have ci3 : (w2.alloc (.cells #[.int .i64 o, .int .i64 d, .int .i64 u, .int .i64 v, .int .i32 im] 29)).cell? ⟨w2.heap.size, 0, none⟩ = some (.int .i64 o) := by rw [World.cell?_alloc_new]; rfl
              have sz3 : w2.heap.size < (w2.alloc (.cells #[.int .i64 o, .int .i64 d, .int .i64 u, .int .i64 v, .int .i32 im] 29)).heap.size := by simp
              have hRw : w2.heap.size ≠ w.heap.size + 1 := by have h1 := (RR.out.later hb2).lt; omega
              clear hb2 TT hc hbb QA
              go_wp2_with fail
              generalize World.alloc w2 _ = w3 at *
              generalize w2.heap.size = I at *
              refine (TG.out _).mono ?_
              rintro e w4 ⟨rfl, hb4⟩
              have R4 := Lib.hid (R3.out.later hb4)
              have ci4 := (hb4.cell (p := ⟨I, 0, none⟩) sz3).trans ci3
              clear hb4 ci3 sz3
              have R5 := R4
              have ci5 := ci4
              clear ci4
              go_wp2_with (first | (go_at_call 37; refine (IB.out _).mono ?_; rintro e w6 ⟨rfl, rfl⟩) | (go_at_call 25; refine (GO.out _).mono ?_; rintro e w6 ⟨rfl, rfl⟩))
              refine (mark_any _ R5.out (by omega)).mono ?_
              rintro e w7 ⟨rfl, hR7, _⟩
              have R7 := Lib.hid hR7
              clear hR7
              go_wp2_with fail
              refine ⟨⟨n + 1, by omega, rfl, R7.out.congr (fun k hk => ?_)⟩, by simp [intOf]; omega⟩
              rw [MN.out, AQ.out, EQ.out]
              have e1 : decide ((k : Int) = (n : Int) + 1) = decide (k = n + 1) := by rw [Bool.eq_iff_iff]; simp; omega
              unfold markT
              rw [e1]
              simp
          · rw [hb] at EB IB
            have EQ := Lib.hid (show endsQ ⟨o, d, u, v, im⟩ = true by rw [EB]; simp)
            clear EB OB hb h0
            go_wp2_with fail
            refine (dec_any _ _ TT.out (by omega) (by have := HX.out; omega)).mono ?_
            unfold DecP
            rw [HQ.out, hok]
            unfold agg5
            rintro e w2 ⟨rfl, hb2⟩
            have R3 := Lib.hid ((RR.out.later hb2).later (W' := w2.alloc (.cells #[.int .i64 o, .int .i64 d, .int .i64 u, .int .i64 v, .int .i32 im] 29)) ((Below.refl _ _).alloc (Nat.le_refl _) _))
            have ci3 : (w2.alloc (.cells #[.int .i64 o, .int .i64 d, .int .i64 u, .int .i64 v, .int .i32 im] 29)).cell? ⟨w2.heap.size, 0, none⟩ = some (.int .i64 o) := by rw [World.cell?_alloc_new]; rfl
            have sz3 : w2.heap.size < (w2.alloc (.cells #[.int .i64 o, .int .i64 d, .int .i64 u, .int .i64 v, .int .i32 im] 29)).heap.size := by simp
            have hRw : w2.heap.size ≠ w.heap.size + 1 := by have h1 := (RR.out.later hb2).lt; omega
            clear hb2 TT hc hbb QA
            go_wp2_with fail
            generalize World.alloc w2 _ = w3 at *
            generalize w2.heap.size = I at *
            refine (TG.out _).mono ?_
            rintro e w4 ⟨rfl, hb4⟩
            have R4 := Lib.hid (R3.out.later hb4)
            have ci4 := (hb4.cell (p := ⟨I, 0, none⟩) sz3).trans ci3
            clear hb4 ci3 sz3
            have R5 := R4
            have ci5 := ci4
            clear ci4
            go_wp2_with (first | (go_at_call 37; refine (IB.out _).mono ?_; rintro e w6 ⟨rfl, rfl⟩) | (go_at_call 25; refine (GO.out _).mono ?_; rintro e w6 ⟨rfl, rfl⟩))
            refine (mark_any _ R5.out (by omega)).mono ?_
            rintro e w7 ⟨rfl, hR7, _⟩
            have R7 := Lib.hid hR7
            clear hR7
            go_wp2_with fail
            refine ⟨⟨n + 1, by omega, rfl, R7.out.congr (fun k hk => ?_)⟩, by simp [intOf]; omega⟩
            rw [MN.out, AQ.out, EQ.out]
            have e1 : decide ((k : Int) = (n : Int) + 1) = decide (k = n + 1) := by rw [Bool.eq_iff_iff]; simp; omega
            unfold markT
            rw [e1]
            simp
    · obtain rfl : n = l.length := by omega
      have cA := hR.cA
      have RW := Lib.hid (hR.congr (T := firstB l) (fun j hj => markS_first hj)).row
      have BL := Lib.hid hR.bl
      clear hR
      go_wp2_with fail
      go_ret
      exact ⟨_, rfl, RW.out, BL.out⟩
end Go.Proofs.YtmlhoagcppofgaaDoor
