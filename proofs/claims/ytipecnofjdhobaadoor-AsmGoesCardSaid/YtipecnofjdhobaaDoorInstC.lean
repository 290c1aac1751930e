/- Contracts of inst.Encode and inst.Writes, over the table of three bits. -/
import Derived.Test.YtipecnofjdhobaaDoorInstB
namespace Go.Proofs.YtipecnofjdhobaaDoor
open Go Go.RowKit Pl
set_option linter.unusedVariables false

/-- the table of three bits lies in its variable -/
def T3 (w : World) : Prop := (∀ i, i < 49 → w.cell? ⟨0, i, none⟩ = some (.int .u32 (threeL.getD i 0))) ∧ 0 < w.heap.size
theorem T3.later {w w' : World} (h : T3 w) (hb : Below w.heap.size w w') : T3 w' :=
  ⟨fun i hi => (hb.cell h.2).trans (h.1 i hi), Nat.lt_of_lt_of_le h.2 hb.size⟩
theorem T3.at {w : World} (h : T3 w) {o : Int} (ho : 0 ≤ o ∧ o ≤ 48) : w.cell? ⟨0, o.toNat, none⟩ = some (.int .u32 (threeI o)) := h.1 o.toNat (by omega)

set_option maxHeartbeats 400000 in
theorem seven_any (o : Int) (w : World) : Calls Tryd.prog 36 #[.int .i64 o] w fun e w' => e = .returned (.int .u32 (sevenI o)) ∧ w = w' := by
  by_cases h : o = 2 ∨ o = 8 ∨ o = 27
  · have e : sevenI o = 32 := by unfold sevenI; rw [if_pos h]
    rw [e]
    clear e
    rcases h with rfl | rfl | rfl
    all_goals
      go_enter Tryd.func36, Tryd.ntmps36
      go_wp2
      go_ret
      exact ⟨rfl, rfl⟩
  · have t1 : (o == 2) = false := by simp; omega
    have t2 : (o == 8) = false := by simp; omega
    have t3 : (o == 27) = false := by simp; omega
    by_cases g : 11 ≤ o
    · have t4 : decide (11 ≤ o) = true := by simp; omega
      by_cases k : o ≤ 18
      · have t5 : decide (o ≤ 18) = true := by simp; omega
        have e : sevenI o = 1 := by unfold sevenI; rw [if_neg h, if_pos ⟨g, k⟩]
        rw [e]
        clear e h
        go_enter Tryd.func36, Tryd.ntmps36
        go_wp2
        go_ret
        exact ⟨rfl, rfl⟩
      · have t5 : decide (o ≤ 18) = false := by simp; omega
        have e : sevenI o = 0 := by unfold sevenI; rw [if_neg h, if_neg (by omega)]
        rw [e]
        clear e h
        go_enter Tryd.func36, Tryd.ntmps36
        go_wp2
        go_ret
        exact ⟨rfl, rfl⟩
    · have t4 : decide (11 ≤ o) = false := by simp; omega
      have e : sevenI o = 0 := by unfold sevenI; rw [if_neg h, if_neg (by omega)]
      rw [e]
      clear e h
      go_enter Tryd.func36, Tryd.ntmps36
      go_wp2
      go_ret
      exact ⟨rfl, rfl⟩
theorem u32in {x : Int} (h0 : 0 ≤ x) (h1 : x < 4294967296) : IntKind.u32.wrap x = x := by
  rw [IntKind.wrap_u32]; omega
theorem quiet_eq {f : Nat} {args : Array Value} {v : Value} {w : World} {m : Nat} (h : ∀ W, Calls Tryd.prog f args W fun e w' => e = .returned v ∧ W = w') :
    Calls Tryd.prog f args (w.drewN m) fun e w' => e = .returned v ∧ ∃ j, w' = w.drewN j :=
  (h _).mono fun e w' ⟨he, hm⟩ => ⟨he, m, hm.symm⟩

def EncP (x : Q5) (w : World) (e : Ending) (w' : World) : Prop := e = .returned (.tuple #[.int .u32 (encI x), .bool (canI x)]) ∧ Below w.heap.size w w'
theorem enc_mk {x : Q5} {w w' : World} {n : Int} {b : Bool} (h : canI x = b) (g : encI x = n) (hb : Below w.heap.size w w') : EncP x w (.returned (.tuple #[.int .u32 n, .bool b])) w' := ⟨by rw [h, g], hb⟩
theorem box5 {w w1 : World} {cs : Array Value} {t : TypeId} (hb : Below (w.alloc (.cells cs t)).heap.size (w.alloc (.cells cs t)) w1) :
    (∀ j v, cs[j]? = some v → w1.cell? ⟨w.heap.size, j, none⟩ = some v) ∧ w.heap.size < w1.heap.size ∧ w.heap.size ≤ w1.heap.size ∧ Below w.heap.size w w1 := by
  have hs := hb.size
  simp at hs
  refine ⟨fun j v hv => (hb.cell (p := ⟨w.heap.size, j, none⟩) (by simp)).trans ?_, by omega, by omega, Below.trans (show Below w.heap.size w (w.alloc (.cells cs t)) by go_grown) (hb.mono (by simp))⟩
  rw [World.cell?_alloc_new]
  exact hv
set_option maxHeartbeats 1000000 in
theorem enc_no (o d a b i : Int) (w : World) (i0 : -2147483648 ≤ i) (i1 : i ≤ 2147483647) (h : canI ⟨o, d, a, b, i⟩ = false) :
    Calls Tryd.prog 21 #[.agg #[.int .i64 o, .int .i64 d, .int .i64 a, .int .i64 b, .int .i32 i]] w (EncP ⟨o, d, a, b, i⟩ w) := by
  have E := Lib.hid (show encI ⟨o, d, a, b, i⟩ = 0 by unfold encI; simp [h])
  have H := Lib.hid h
  have CN := Lib.hid (ican_any o d a b i · i0 i1)
  clear h
  go_enter Tryd.func21, Tryd.ntmps21
  go_wp2_with fail
  refine (CN.out _).mono ?_
  unfold ICanP
  rw [H.out]
  rintro e w1 ⟨rfl, b1⟩
  have HB := Lib.hid (box5 b1).2.2.2
  clear b1
  go_wp2_with fail
  go_ret2
  exact enc_mk H.out E.out HB.out
theorem form_nz {o : Int} (h : 19 ≤ o ∧ o ≤ 46) : formL o ≠ 0 := by
  have cs : (19 ≤ o ∧ o ≤ 24) ∨ (25 ≤ o ∧ o ≤ 27) ∨ (28 ≤ o ∧ o ≤ 32) ∨ (33 ≤ o ∧ o ≤ 35) ∨ (36 ≤ o ∧ o ≤ 41) ∨ (o = 42) ∨ (o = 43) ∨ (o = 44) ∨ (o = 45) ∨ (o = 46) := by omega
  unfold formL
  rcases cs with c | c | c | c | c | c | c | c | c | c
  · rw [(cls_1 c).2.2.2.1]; decide
  · rw [(cls_2 c).2.2.2.1]; decide
  · rw [(cls_3 c).2.2.2.1]; decide
  · rw [(cls_4 c).2.2.2.1]; decide
  · rw [(cls_5 c).2.2.2.1]; decide
  · rw [(cls_6 c).2.2.2.1]; decide
  · rw [(cls_7 c).2.2.2.1]; decide
  · rw [(cls_8 c).2.2.2.1]; decide
  · rw [(cls_9 c).2.2.2.1]; decide
  · rw [(cls_10 c).2.2.2.1]; decide
set_option maxHeartbeats 1000000 in
theorem enc_plain (o d a b i : Int) (w : World) (i0 : -2147483648 ≤ i) (i1 : i ≤ 2147483647) (h : canI ⟨o, d, a, b, i⟩ = true) (ho : o ≤ 18) (ht : T3 w) :
    Calls Tryd.prog 21 #[.agg #[.int .i64 o, .int .i64 d, .int .i64 a, .int .i64 b, .int .i32 i]] w (EncP ⟨o, d, a, b, i⟩ w) := by
  have C := canI_out h
  obtain ⟨ho', hd, hd0, ha, ha0, hb, hb0, hi⟩ := C
  dsimp only at ho' hd ha hb
  have E := Lib.hid (show encI ⟨o, d, a, b, i⟩ = baseW (lowI o) (threeI o) (sevenI o) d a b by unfold encI; rw [h, if_pos rfl, ← word_plain (canI_out h) ho])
  have hT := three_bd ho'
  have hS := seven_bd o
  have hL := low_bd (o := o) (by omega)
  have LC : lowC o = lowI o := by unfold lowC; rw [if_neg (by omega)]
  have FL : formL o = 0 := by unfold formL; rw [(cls_0 ⟨ho'.1, ho⟩).2.2.2.1]; rfl
  have BO := Lib.hid (base_or hL hT hS hd ha hb)
  have H := Lib.hid h
  have HL := Lib.hid LC
  have HF := Lib.hid FL
  have CN := Lib.hid (ican_any o d a b i · i0 i1)
  have LY := Lib.hid (ilay_any o · ho')
  have HT := Lib.hid ht
  have SV := Lib.hid (seven_any o)
  have t1 : (o == 47) = false := by simp; omega
  have t2 : (o == 48) = false := by simp; omega
  clear h hd0 ha0 hb0 hi LC FL ht
  go_enter Tryd.func21, Tryd.ntmps21
  go_wp2_with fail
  refine (CN.out _).mono ?_
  unfold ICanP
  rw [H.out]
  rintro e w1 ⟨rfl, b1⟩
  obtain ⟨hbox, hz1, hz2, hb1⟩ := box5 b1
  have HB := Lib.hid hb1
  have c0 := hbox 0 _ rfl
  have c1 := hbox 1 _ rfl
  have c2 := hbox 2 _ rfl
  have c3 := hbox 3 _ rfl
  have c4 := hbox 4 _ rfl
  have ct := (HT.out.later hb1).at (o := o) (by omega)
  clear b1 hbox hb1
  go_wp2_with fail
  refine (LY.out _).mono ?_
  unfold LayIP layI
  rw [HL.out, HF.out]
  rintro e w2 ⟨rfl, rfl⟩
  go_wp2_with fail
  have q0 : 0 ≤ o := by omega
  have hz0 : 0 < w1.heap.size := by omega
  have q1 : o < 49 := by omega
  have u1 := u32in (x := d) (by omega) (by omega)
  have u2 := u32in (x := d * 128) (by omega) (by omega)
  have u3 := u32in (x := threeI o * 4096) (by omega) (by omega)
  have u4 := u32in (x := a) (by omega) (by omega)
  have u5 := u32in (x := a * 32768) (by omega) (by omega)
  have u6 := u32in (x := b) (by omega) (by omega)
  have u7 := u32in (x := b * 1048576) (by omega) (by omega)
  have u8 := u32in (x := sevenI o * 33554432) (by omega) (by omega)
  go_quiet ((go_at_call 36; exact quiet_eq SV.out))
  clear u1 u2 u3 u4 u5 u6 u7 u8
  go_wp2_with fail
  go_ret2
  exact enc_mk H.out (E.out.trans BO.out.symm) (below_trans HB.out (below_drewN (by go_grown) _))
set_option maxHeartbeats 1000000 in
theorem enc_form (o d a b i : Int) (w : World) (i0 : -2147483648 ≤ i) (i1 : i ≤ 2147483647) (h : canI ⟨o, d, a, b, i⟩ = true) (ho : 19 ≤ o) (ho2 : o ≤ 46) (ht : T3 w) :
    Calls Tryd.prog 21 #[.agg #[.int .i64 o, .int .i64 d, .int .i64 a, .int .i64 b, .int .i32 i]] w (EncP ⟨o, d, a, b, i⟩ w) := by
  have C := canI_out h
  obtain ⟨ho', hd, hd0, ha, ha0, hb, hb0, hi⟩ := C
  dsimp only at ho' hd ha hb
  have E := Lib.hid (show encI ⟨o, d, a, b, i⟩ = bits .or .u32 (baseW (lowI o) (threeI o) (sevenI o) d a b) (putR (formL o) i) by unfold encI; rw [h, if_pos rfl]; exact (word_or (canI_out h) ho ho2).symm)
  have hT := three_bd ho'
  have hS := seven_bd o
  have hL := low_bd (o := o) (by omega)
  have LC : lowC o = lowI o := by unfold lowC; rw [if_neg (by omega)]
  have FL : formL o ≠ 0 := form_nz ⟨ho, ho2⟩
  have t3 : (formL o != 0) = true := by simpa using FL
  have BO := Lib.hid (base_or hL hT hS hd ha hb)
  have H := Lib.hid h
  have HL := Lib.hid LC
  have CN := Lib.hid (ican_any o d a b i · i0 i1)
  have LY := Lib.hid (ilay_any o · ho')
  have HT := Lib.hid ht
  have SV := Lib.hid (seven_any o)
  have t1 : (o == 47) = false := by simp; omega
  have t2 : (o == 48) = false := by simp; omega
  clear h hd0 ha0 hb0 hi LC FL ht
  go_enter Tryd.func21, Tryd.ntmps21
  go_wp2_with fail
  refine (CN.out _).mono ?_
  unfold ICanP
  rw [H.out]
  rintro e w1 ⟨rfl, b1⟩
  obtain ⟨hbox, hz1, hz2, hb1⟩ := box5 b1
  have HB := Lib.hid hb1
  have c0 := hbox 0 _ rfl
  have c1 := hbox 1 _ rfl
  have c2 := hbox 2 _ rfl
  have c3 := hbox 3 _ rfl
  have c4 := hbox 4 _ rfl
  have ct := (HT.out.later hb1).at (o := o) (by omega)
  clear b1 hbox hb1
  go_wp2_with fail
  refine (LY.out _).mono ?_
  unfold LayIP layI
  rw [HL.out]
  rintro e w2 ⟨rfl, rfl⟩
  go_wp2_with fail
  have q0 : 0 ≤ o := by omega
  have hz0 : 0 < w1.heap.size := by omega
  have q1 : o < 49 := by omega
  have u1 := u32in (x := d) (by omega) (by omega)
  have u2 := u32in (x := d * 128) (by omega) (by omega)
  have u3 := u32in (x := threeI o * 4096) (by omega) (by omega)
  have u4 := u32in (x := a) (by omega) (by omega)
  have u5 := u32in (x := a * 32768) (by omega) (by omega)
  have u6 := u32in (x := b) (by omega) (by omega)
  have u7 := u32in (x := b * 1048576) (by omega) (by omega)
  have u8 := u32in (x := sevenI o * 33554432) (by omega) (by omega)
  go_quiet ((go_at_call 36; exact quiet_eq SV.out))
  clear u1 u2 u3 u4 u5 u6 u7 u8
  go_wp2_with (go_at_call 37; refine (imm_put _ _ _ i0 i1).mono ?_; rintro e w' ⟨rfl, rfl⟩)
  go_ret2
  exact enc_mk H.out (E.out.trans (by rw [BO.out])) (below_trans HB.out (below_drewN (by go_grown) _))
set_option maxHeartbeats 1000000 in
theorem enc_sys (o d a b i : Int) (w : World) (i0 : -2147483648 ≤ i) (i1 : i ≤ 2147483647) (h : canI ⟨o, d, a, b, i⟩ = true) (ho : o = 47 ∨ o = 48) :
    Calls Tryd.prog 21 #[.agg #[.int .i64 o, .int .i64 d, .int .i64 a, .int .i64 b, .int .i32 i]] w (EncP ⟨o, d, a, b, i⟩ w) := by
  have E : encI ⟨o, d, a, b, i⟩ = if o = 47 then 115 else 1048691 := by
    have C := canI_out h
    obtain ⟨ho', hd, hd0, ha, ha0, hb, hb0, hi⟩ := C
    dsimp only at *
    unfold encI
    rw [h, if_pos rfl]
    unfold wordI
    dsimp only
    rcases ho with rfl | rfl
    · rw [hd0 rfl, ha0 rfl, hb0 rfl]; rfl
    · rw [hd0 rfl, ha0 rfl, hb0 rfl]; rfl
  have H := Lib.hid h
  have HE := Lib.hid E
  have CN := Lib.hid (ican_any o d a b i · i0 i1)
  clear h E
  rcases ho with rfl | rfl
  all_goals
    go_enter Tryd.func21, Tryd.ntmps21
    go_wp2_with fail
    refine (CN.out _).mono ?_
    unfold ICanP
    rw [H.out]
    rintro e w1 ⟨rfl, b1⟩
    obtain ⟨hbox, hz1, hz2, hb1⟩ := box5 b1
    have HB := Lib.hid hb1
    have c0 := hbox 0 _ rfl
    clear b1 hbox hb1
    go_wp2_with fail
    go_ret2
    exact enc_mk H.out HE.out HB.out
theorem enc_any (o d a b i : Int) (w : World) (i0 : -2147483648 ≤ i) (i1 : i ≤ 2147483647) (ht : T3 w) :
    Calls Tryd.prog 21 #[.agg #[.int .i64 o, .int .i64 d, .int .i64 a, .int .i64 b, .int .i32 i]] w (EncP ⟨o, d, a, b, i⟩ w) := by
  cases h : canI ⟨o, d, a, b, i⟩
  · exact enc_no o d a b i w i0 i1 h
  · have C := (canI_out h).ho
    dsimp only at C
    by_cases g : o ≤ 18
    · exact enc_plain o d a b i w i0 i1 h g ht
    by_cases g2 : o ≤ 46
    · exact enc_form o d a b i w i0 i1 h (by omega) g2 ht
    exact enc_sys o d a b i w i0 i1 h (by omega)

def WrP (x : Q5) (w : World) (e : Ending) (w' : World) : Prop := e = .returned (.int .i64 (writesI x)) ∧ Below w.heap.size w w'
theorem wr_mk {x : Q5} {w w' : World} {n : Int} (g : writesI x = n) (hb : Below w.heap.size w w') : WrP x w (.returned (.int .i64 n)) w' := ⟨by rw [g], hb⟩
end Go.Proofs.YtipecnofjdhobaaDoor
