/- Contract of inst.Decode. -/
import Derived.Test.YtmlhoagcppofgaaDoorInstD
namespace Go.Proofs.YtmlhoagcppofgaaDoor
open Go Go.RowKit Pl
set_option linter.unusedVariables false

def decI (w : Int) : Q5 := if opI w = 0 then ⟨0, 0, 0, 0, 0⟩ else recI (opI w) w
def okI (w : Int) : Bool := decide (opI w ≠ 0)
def agg5 (x : Q5) : Value := .agg #[.int .i64 x.o, .int .i64 x.d, .int .i64 x.a, .int .i64 x.b, .int .i32 x.i]
def DecP (w : Int) (W : World) (e : Ending) (W' : World) : Prop := e = .returned (.tuple #[agg5 (decI w), .bool (okI w)]) ∧ Below W.heap.size W W'
theorem dec_mk {w o d a b i : Int} {W W' : World} (h : decI w = ⟨o, d, a, b, i⟩) (g : okI w = true) (hb : Below W.heap.size W W') : DecP w W (.returned (.tuple #[.agg #[.int .i64 o, .int .i64 d, .int .i64 a, .int .i64 b, .int .i32 i], .bool true])) W' := by
  refine ⟨?_, hb⟩; rw [h, g]; rfl
theorem dec_none {w : Int} {W W' : World} (h : opI w = 0) (hb : Below W.heap.size W W') : DecP w W (.returned (.tuple #[.agg #[.int .i64 0, .int .i64 0, .int .i64 0, .int .i64 0, .int .i32 0], .bool false])) W' := by
  refine ⟨?_, hb⟩
  have h1 : decI w = ⟨0, 0, 0, 0, 0⟩ := by unfold decI; rw [if_pos h]
  have h2 : okI w = false := by unfold okI; simp [h]
  rw [h1, h2]; rfl
set_option maxHeartbeats 400000 in
theorem dec_no (w : Int) (W : World) (ht : T3 W) (h0 : 0 ≤ w) (h1 : w < 4294967296) (h : opI w = 0) :
    Calls Tryd.prog 21 #[.int .u32 w] W (DecP w W) := by
  have OP := Lib.hid (oper_any w · · h0 h1)
  have H := Lib.hid h
  have HT := Lib.hid ht
  clear h ht
  go_enter Tryd.func21, Tryd.ntmps21
  go_wp2_with fail
  refine (OP.out _ (HT.out.later (by go_grown))).mono ?_
  rw [H.out]
  rintro e w1 ⟨rfl, rfl⟩
  go_wp2_with fail
  exact bodyPost_ret (v := .tuple #[.agg #[.int .i64 0, .int .i64 0, .int .i64 0, .int .i64 0, .int .i32 0], .bool false]) (by simp [results, Tryd.results21, go_sem]) rfl (dec_none H.out (by go_grown))

set_option maxHeartbeats 1000000 in
theorem dec_0 (o w : Int) (W : World) (ht : T3 W) (h0 : 0 ≤ w) (h1 : w < 4294967296) (h : opI w = o) (c : 1 ≤ o ∧ o ≤ 18) :
    Calls Tryd.prog 21 #[.int .u32 w] W (DecP w W) := by
  have R := Lib.hid (show decI w = ⟨o, w / 128 % 32, w / 32768 % 32, w / 1048576 % 32, 0⟩ by
    unfold decI
    rw [h, if_neg (by omega)]
    unfold recI
    rw [(cls_0 c).1, (cls_0 c).2.1, (cls_0 c).2.2.1, (cls_0 c).2.2.2.1]
    rfl)
  have K := Lib.hid (show okI w = true by unfold okI; rw [h]; simp; omega)
  have OP := Lib.hid (oper_any w · · h0 h1)
  have LI := Lib.hid (layI_0 c)
  have LY := Lib.hid (ilay_any o · (by omega))
  have SH := Lib.hid (show shiftI o = false by unfold shiftI; simp; omega)
  have z : (o == 0) = false := by simp; omega
  have p1 := and31 (b := w / 128) (by omega) (by omega)
  have p2 := and31 (b := w / 32768) (by omega) (by omega)
  have p3 := and31 (b := w / 1048576) (by omega) (by omega)
  have H := Lib.hid h
  have HT := Lib.hid ht
  clear h ht
  go_enter Tryd.func21, Tryd.ntmps21
  go_wp2_with fail
  refine (OP.out _ (HT.out.later (by go_grown))).mono ?_
  rw [H.out]
  rintro e w1 ⟨rfl, rfl⟩
  go_wp2_with (first | (go_at_call 33; refine (LY.out _).mono ?_; unfold LayIP; rw [LI.out]; rintro e w1 ⟨rfl, rfl⟩) | (go_at_call 34; refine (ishift_any _ _).mono ?_; rw [SH.out]; rintro e w1 ⟨rfl, rfl⟩) | (go_at_call 35; refine (imm_get _ _ _ h0 h1).mono ?_; rintro e w1 ⟨rfl, rfl⟩))
  exact bodyPost_ret (v := .tuple #[.agg #[.int .i64 o, .int .i64 (w / 128 % 32), .int .i64 (w / 32768 % 32), .int .i64 (w / 1048576 % 32), .int .i32 (0)], .bool true]) (by simp [results, Tryd.results21, go_sem]) rfl (dec_mk R.out K.out (by go_grown))
set_option maxHeartbeats 1000000 in
theorem dec_1 (o w : Int) (W : World) (ht : T3 W) (h0 : 0 ≤ w) (h1 : w < 4294967296) (h : opI w = o) (c : 19 ≤ o ∧ o ≤ 24) :
    Calls Tryd.prog 21 #[.int .u32 w] W (DecP w W) := by
  have R := Lib.hid (show decI w = ⟨o, w / 128 % 32, w / 32768 % 32, 0, getS 1 w⟩ by
    unfold decI
    rw [h, if_neg (by omega)]
    unfold recI
    rw [(cls_1 c).1, (cls_1 c).2.1, (cls_1 c).2.2.1, (cls_1 c).2.2.2.1]
    rfl)
  have K := Lib.hid (show okI w = true by unfold okI; rw [h]; simp; omega)
  have OP := Lib.hid (oper_any w · · h0 h1)
  have LI := Lib.hid (layI_1 c)
  have LY := Lib.hid (ilay_any o · (by omega))
  have SH := Lib.hid (show shiftI o = false by unfold shiftI; simp; omega)
  have z : (o == 0) = false := by simp; omega
  have p1 := and31 (b := w / 128) (by omega) (by omega)
  have p2 := and31 (b := w / 32768) (by omega) (by omega)
  have p3 := and31 (b := w / 1048576) (by omega) (by omega)
  have H := Lib.hid h
  have HT := Lib.hid ht
  clear h ht
  go_enter Tryd.func21, Tryd.ntmps21
  go_wp2_with fail
  refine (OP.out _ (HT.out.later (by go_grown))).mono ?_
  rw [H.out]
  rintro e w1 ⟨rfl, rfl⟩
  go_wp2_with (first | (go_at_call 33; refine (LY.out _).mono ?_; unfold LayIP; rw [LI.out]; rintro e w1 ⟨rfl, rfl⟩) | (go_at_call 34; refine (ishift_any _ _).mono ?_; rw [SH.out]; rintro e w1 ⟨rfl, rfl⟩) | (go_at_call 35; refine (imm_get _ _ _ h0 h1).mono ?_; rintro e w1 ⟨rfl, rfl⟩))
  exact bodyPost_ret (v := .tuple #[.agg #[.int .i64 o, .int .i64 (w / 128 % 32), .int .i64 (w / 32768 % 32), .int .i64 (0), .int .i32 (getS 1 w)], .bool true]) (by simp [results, Tryd.results21, go_sem]) rfl (dec_mk R.out K.out (by go_grown))
set_option maxHeartbeats 1000000 in
theorem dec_2 (o w : Int) (W : World) (ht : T3 W) (h0 : 0 ≤ w) (h1 : w < 4294967296) (h : opI w = o) (c : 25 ≤ o ∧ o ≤ 27) :
    Calls Tryd.prog 21 #[.int .u32 w] W (DecP w W) := by
  have R := Lib.hid (show decI w = ⟨o, w / 128 % 32, w / 32768 % 32, 0, w / 1048576 % 32⟩ by
    unfold decI
    rw [h, if_neg (by omega)]
    unfold recI
    rw [(cls_2 c).1, (cls_2 c).2.1, (cls_2 c).2.2.1, (cls_2 c).2.2.2.1]
    rfl)
  have K := Lib.hid (show okI w = true by unfold okI; rw [h]; simp; omega)
  have OP := Lib.hid (oper_any w · · h0 h1)
  have LI := Lib.hid (layI_2 c)
  have LY := Lib.hid (ilay_any o · (by omega))
  have SH := Lib.hid (show shiftI o = true by unfold shiftI; simp; omega)
  have z : (o == 0) = false := by simp; omega
  have p1 := and31 (b := w / 128) (by omega) (by omega)
  have p2 := and31 (b := w / 32768) (by omega) (by omega)
  have p3 := and31 (b := w / 1048576) (by omega) (by omega)
  have H := Lib.hid h
  have HT := Lib.hid ht
  clear h ht
  go_enter Tryd.func21, Tryd.ntmps21
  go_wp2_with fail
  refine (OP.out _ (HT.out.later (by go_grown))).mono ?_
  rw [H.out]
  rintro e w1 ⟨rfl, rfl⟩
  go_wp2_with (first | (go_at_call 33; refine (LY.out _).mono ?_; unfold LayIP; rw [LI.out]; rintro e w1 ⟨rfl, rfl⟩) | (go_at_call 34; refine (ishift_any _ _).mono ?_; rw [SH.out]; rintro e w1 ⟨rfl, rfl⟩) | (go_at_call 35; refine (imm_get _ _ _ h0 h1).mono ?_; rintro e w1 ⟨rfl, rfl⟩))
  exact bodyPost_ret (v := .tuple #[.agg #[.int .i64 o, .int .i64 (w / 128 % 32), .int .i64 (w / 32768 % 32), .int .i64 (0), .int .i32 (w / 1048576 % 32)], .bool true]) (by simp [results, Tryd.results21, go_sem]) rfl (dec_mk R.out K.out (by go_grown))
set_option maxHeartbeats 1000000 in
theorem dec_3 (o w : Int) (W : World) (ht : T3 W) (h0 : 0 ≤ w) (h1 : w < 4294967296) (h : opI w = o) (c : 28 ≤ o ∧ o ≤ 32) :
    Calls Tryd.prog 21 #[.int .u32 w] W (DecP w W) := by
  have R := Lib.hid (show decI w = ⟨o, w / 128 % 32, w / 32768 % 32, 0, getS 1 w⟩ by
    unfold decI
    rw [h, if_neg (by omega)]
    unfold recI
    rw [(cls_3 c).1, (cls_3 c).2.1, (cls_3 c).2.2.1, (cls_3 c).2.2.2.1]
    rfl)
  have K := Lib.hid (show okI w = true by unfold okI; rw [h]; simp; omega)
  have OP := Lib.hid (oper_any w · · h0 h1)
  have LI := Lib.hid (layI_3 c)
  have LY := Lib.hid (ilay_any o · (by omega))
  have SH := Lib.hid (show shiftI o = false by unfold shiftI; simp; omega)
  have z : (o == 0) = false := by simp; omega
  have p1 := and31 (b := w / 128) (by omega) (by omega)
  have p2 := and31 (b := w / 32768) (by omega) (by omega)
  have p3 := and31 (b := w / 1048576) (by omega) (by omega)
  have H := Lib.hid h
  have HT := Lib.hid ht
  clear h ht
  go_enter Tryd.func21, Tryd.ntmps21
  go_wp2_with fail
  refine (OP.out _ (HT.out.later (by go_grown))).mono ?_
  rw [H.out]
  rintro e w1 ⟨rfl, rfl⟩
  go_wp2_with (first | (go_at_call 33; refine (LY.out _).mono ?_; unfold LayIP; rw [LI.out]; rintro e w1 ⟨rfl, rfl⟩) | (go_at_call 34; refine (ishift_any _ _).mono ?_; rw [SH.out]; rintro e w1 ⟨rfl, rfl⟩) | (go_at_call 35; refine (imm_get _ _ _ h0 h1).mono ?_; rintro e w1 ⟨rfl, rfl⟩))
  exact bodyPost_ret (v := .tuple #[.agg #[.int .i64 o, .int .i64 (w / 128 % 32), .int .i64 (w / 32768 % 32), .int .i64 (0), .int .i32 (getS 1 w)], .bool true]) (by simp [results, Tryd.results21, go_sem]) rfl (dec_mk R.out K.out (by go_grown))
set_option maxHeartbeats 1000000 in
theorem dec_4 (o w : Int) (W : World) (ht : T3 W) (h0 : 0 ≤ w) (h1 : w < 4294967296) (h : opI w = o) (c : 33 ≤ o ∧ o ≤ 35) :
    Calls Tryd.prog 21 #[.int .u32 w] W (DecP w W) := by
  have R := Lib.hid (show decI w = ⟨o, 0, w / 32768 % 32, w / 1048576 % 32, getS 2 w⟩ by
    unfold decI
    rw [h, if_neg (by omega)]
    unfold recI
    rw [(cls_4 c).1, (cls_4 c).2.1, (cls_4 c).2.2.1, (cls_4 c).2.2.2.1]
    rfl)
  have K := Lib.hid (show okI w = true by unfold okI; rw [h]; simp; omega)
  have OP := Lib.hid (oper_any w · · h0 h1)
  have LI := Lib.hid (layI_4 c)
  have LY := Lib.hid (ilay_any o · (by omega))
  have SH := Lib.hid (show shiftI o = false by unfold shiftI; simp; omega)
  have z : (o == 0) = false := by simp; omega
  have p1 := and31 (b := w / 128) (by omega) (by omega)
  have p2 := and31 (b := w / 32768) (by omega) (by omega)
  have p3 := and31 (b := w / 1048576) (by omega) (by omega)
  have H := Lib.hid h
  have HT := Lib.hid ht
  clear h ht
  go_enter Tryd.func21, Tryd.ntmps21
  go_wp2_with fail
  refine (OP.out _ (HT.out.later (by go_grown))).mono ?_
  rw [H.out]
  rintro e w1 ⟨rfl, rfl⟩
  go_wp2_with (first | (go_at_call 33; refine (LY.out _).mono ?_; unfold LayIP; rw [LI.out]; rintro e w1 ⟨rfl, rfl⟩) | (go_at_call 34; refine (ishift_any _ _).mono ?_; rw [SH.out]; rintro e w1 ⟨rfl, rfl⟩) | (go_at_call 35; refine (imm_get _ _ _ h0 h1).mono ?_; rintro e w1 ⟨rfl, rfl⟩))
  exact bodyPost_ret (v := .tuple #[.agg #[.int .i64 o, .int .i64 (0), .int .i64 (w / 32768 % 32), .int .i64 (w / 1048576 % 32), .int .i32 (getS 2 w)], .bool true]) (by simp [results, Tryd.results21, go_sem]) rfl (dec_mk R.out K.out (by go_grown))
set_option maxHeartbeats 1000000 in
theorem dec_5 (o w : Int) (W : World) (ht : T3 W) (h0 : 0 ≤ w) (h1 : w < 4294967296) (h : opI w = o) (c : 36 ≤ o ∧ o ≤ 41) :
    Calls Tryd.prog 21 #[.int .u32 w] W (DecP w W) := by
  have R := Lib.hid (show decI w = ⟨o, 0, w / 32768 % 32, w / 1048576 % 32, getS 3 w⟩ by
    unfold decI
    rw [h, if_neg (by omega)]
    unfold recI
    rw [(cls_5 c).1, (cls_5 c).2.1, (cls_5 c).2.2.1, (cls_5 c).2.2.2.1]
    rfl)
  have K := Lib.hid (show okI w = true by unfold okI; rw [h]; simp; omega)
  have OP := Lib.hid (oper_any w · · h0 h1)
  have LI := Lib.hid (layI_5 c)
  have LY := Lib.hid (ilay_any o · (by omega))
  have SH := Lib.hid (show shiftI o = false by unfold shiftI; simp; omega)
  have z : (o == 0) = false := by simp; omega
  have p1 := and31 (b := w / 128) (by omega) (by omega)
  have p2 := and31 (b := w / 32768) (by omega) (by omega)
  have p3 := and31 (b := w / 1048576) (by omega) (by omega)
  have H := Lib.hid h
  have HT := Lib.hid ht
  clear h ht
  go_enter Tryd.func21, Tryd.ntmps21
  go_wp2_with fail
  refine (OP.out _ (HT.out.later (by go_grown))).mono ?_
  rw [H.out]
  rintro e w1 ⟨rfl, rfl⟩
  go_wp2_with (first | (go_at_call 33; refine (LY.out _).mono ?_; unfold LayIP; rw [LI.out]; rintro e w1 ⟨rfl, rfl⟩) | (go_at_call 34; refine (ishift_any _ _).mono ?_; rw [SH.out]; rintro e w1 ⟨rfl, rfl⟩) | (go_at_call 35; refine (imm_get _ _ _ h0 h1).mono ?_; rintro e w1 ⟨rfl, rfl⟩))
  exact bodyPost_ret (v := .tuple #[.agg #[.int .i64 o, .int .i64 (0), .int .i64 (w / 32768 % 32), .int .i64 (w / 1048576 % 32), .int .i32 (getS 3 w)], .bool true]) (by simp [results, Tryd.results21, go_sem]) rfl (dec_mk R.out K.out (by go_grown))
set_option maxHeartbeats 1000000 in
theorem dec_6 (o w : Int) (W : World) (ht : T3 W) (h0 : 0 ≤ w) (h1 : w < 4294967296) (h : opI w = o) (c : o = 42) :
    Calls Tryd.prog 21 #[.int .u32 w] W (DecP w W) := by
  have R := Lib.hid (show decI w = ⟨o, w / 128 % 32, 0, 0, getS 4 w⟩ by
    unfold decI
    rw [h, if_neg (by omega)]
    unfold recI
    rw [(cls_6 c).1, (cls_6 c).2.1, (cls_6 c).2.2.1, (cls_6 c).2.2.2.1]
    rfl)
  have K := Lib.hid (show okI w = true by unfold okI; rw [h]; simp; omega)
  have OP := Lib.hid (oper_any w · · h0 h1)
  have LI := Lib.hid (layI_6 c)
  have LY := Lib.hid (ilay_any o · (by omega))
  have SH := Lib.hid (show shiftI o = false by unfold shiftI; simp; omega)
  have z : (o == 0) = false := by simp; omega
  have p1 := and31 (b := w / 128) (by omega) (by omega)
  have p2 := and31 (b := w / 32768) (by omega) (by omega)
  have p3 := and31 (b := w / 1048576) (by omega) (by omega)
  have H := Lib.hid h
  have HT := Lib.hid ht
  subst c
  clear h ht z
  go_enter Tryd.func21, Tryd.ntmps21
  go_wp2_with fail
  refine (OP.out _ (HT.out.later (by go_grown))).mono ?_
  rw [H.out]
  rintro e w1 ⟨rfl, rfl⟩
  go_wp2_with (first | (go_at_call 33; refine (LY.out _).mono ?_; unfold LayIP; rw [LI.out]; rintro e w1 ⟨rfl, rfl⟩) | (go_at_call 34; refine (ishift_any _ _).mono ?_; rw [SH.out]; rintro e w1 ⟨rfl, rfl⟩) | (go_at_call 35; refine (imm_get _ _ _ h0 h1).mono ?_; rintro e w1 ⟨rfl, rfl⟩))
  exact bodyPost_ret (v := .tuple #[.agg #[.int .i64 42, .int .i64 (w / 128 % 32), .int .i64 (0), .int .i64 (0), .int .i32 (getS 4 w)], .bool true]) (by simp [results, Tryd.results21, go_sem]) rfl (dec_mk R.out K.out (by go_grown))
set_option maxHeartbeats 1000000 in
theorem dec_7 (o w : Int) (W : World) (ht : T3 W) (h0 : 0 ≤ w) (h1 : w < 4294967296) (h : opI w = o) (c : o = 43) :
    Calls Tryd.prog 21 #[.int .u32 w] W (DecP w W) := by
  have R := Lib.hid (show decI w = ⟨o, w / 128 % 32, 0, 0, getS 4 w⟩ by
    unfold decI
    rw [h, if_neg (by omega)]
    unfold recI
    rw [(cls_7 c).1, (cls_7 c).2.1, (cls_7 c).2.2.1, (cls_7 c).2.2.2.1]
    rfl)
  have K := Lib.hid (show okI w = true by unfold okI; rw [h]; simp; omega)
  have OP := Lib.hid (oper_any w · · h0 h1)
  have LI := Lib.hid (layI_7 c)
  have LY := Lib.hid (ilay_any o · (by omega))
  have SH := Lib.hid (show shiftI o = false by unfold shiftI; simp; omega)
  have z : (o == 0) = false := by simp; omega
  have p1 := and31 (b := w / 128) (by omega) (by omega)
  have p2 := and31 (b := w / 32768) (by omega) (by omega)
  have p3 := and31 (b := w / 1048576) (by omega) (by omega)
  have H := Lib.hid h
  have HT := Lib.hid ht
  subst c
  clear h ht z
  go_enter Tryd.func21, Tryd.ntmps21
  go_wp2_with fail
  refine (OP.out _ (HT.out.later (by go_grown))).mono ?_
  rw [H.out]
  rintro e w1 ⟨rfl, rfl⟩
  go_wp2_with (first | (go_at_call 33; refine (LY.out _).mono ?_; unfold LayIP; rw [LI.out]; rintro e w1 ⟨rfl, rfl⟩) | (go_at_call 34; refine (ishift_any _ _).mono ?_; rw [SH.out]; rintro e w1 ⟨rfl, rfl⟩) | (go_at_call 35; refine (imm_get _ _ _ h0 h1).mono ?_; rintro e w1 ⟨rfl, rfl⟩))
  exact bodyPost_ret (v := .tuple #[.agg #[.int .i64 43, .int .i64 (w / 128 % 32), .int .i64 (0), .int .i64 (0), .int .i32 (getS 4 w)], .bool true]) (by simp [results, Tryd.results21, go_sem]) rfl (dec_mk R.out K.out (by go_grown))
set_option maxHeartbeats 1000000 in
theorem dec_8 (o w : Int) (W : World) (ht : T3 W) (h0 : 0 ≤ w) (h1 : w < 4294967296) (h : opI w = o) (c : o = 44) :
    Calls Tryd.prog 21 #[.int .u32 w] W (DecP w W) := by
  have R := Lib.hid (show decI w = ⟨o, w / 128 % 32, 0, 0, getS 5 w⟩ by
    unfold decI
    rw [h, if_neg (by omega)]
    unfold recI
    rw [(cls_8 c).1, (cls_8 c).2.1, (cls_8 c).2.2.1, (cls_8 c).2.2.2.1]
    rfl)
  have K := Lib.hid (show okI w = true by unfold okI; rw [h]; simp; omega)
  have OP := Lib.hid (oper_any w · · h0 h1)
  have LI := Lib.hid (layI_8 c)
  have LY := Lib.hid (ilay_any o · (by omega))
  have SH := Lib.hid (show shiftI o = false by unfold shiftI; simp; omega)
  have z : (o == 0) = false := by simp; omega
  have p1 := and31 (b := w / 128) (by omega) (by omega)
  have p2 := and31 (b := w / 32768) (by omega) (by omega)
  have p3 := and31 (b := w / 1048576) (by omega) (by omega)
  have H := Lib.hid h
  have HT := Lib.hid ht
  subst c
  clear h ht z
  go_enter Tryd.func21, Tryd.ntmps21
  go_wp2_with fail
  refine (OP.out _ (HT.out.later (by go_grown))).mono ?_
  rw [H.out]
  rintro e w1 ⟨rfl, rfl⟩
  go_wp2_with (first | (go_at_call 33; refine (LY.out _).mono ?_; unfold LayIP; rw [LI.out]; rintro e w1 ⟨rfl, rfl⟩) | (go_at_call 34; refine (ishift_any _ _).mono ?_; rw [SH.out]; rintro e w1 ⟨rfl, rfl⟩) | (go_at_call 35; refine (imm_get _ _ _ h0 h1).mono ?_; rintro e w1 ⟨rfl, rfl⟩))
  exact bodyPost_ret (v := .tuple #[.agg #[.int .i64 44, .int .i64 (w / 128 % 32), .int .i64 (0), .int .i64 (0), .int .i32 (getS 5 w)], .bool true]) (by simp [results, Tryd.results21, go_sem]) rfl (dec_mk R.out K.out (by go_grown))
set_option maxHeartbeats 1000000 in
theorem dec_9 (o w : Int) (W : World) (ht : T3 W) (h0 : 0 ≤ w) (h1 : w < 4294967296) (h : opI w = o) (c : o = 45) :
    Calls Tryd.prog 21 #[.int .u32 w] W (DecP w W) := by
  have R := Lib.hid (show decI w = ⟨o, w / 128 % 32, w / 32768 % 32, 0, getS 1 w⟩ by
    unfold decI
    rw [h, if_neg (by omega)]
    unfold recI
    rw [(cls_9 c).1, (cls_9 c).2.1, (cls_9 c).2.2.1, (cls_9 c).2.2.2.1]
    rfl)
  have K := Lib.hid (show okI w = true by unfold okI; rw [h]; simp; omega)
  have OP := Lib.hid (oper_any w · · h0 h1)
  have LI := Lib.hid (layI_9 c)
  have LY := Lib.hid (ilay_any o · (by omega))
  have SH := Lib.hid (show shiftI o = false by unfold shiftI; simp; omega)
  have z : (o == 0) = false := by simp; omega
  have p1 := and31 (b := w / 128) (by omega) (by omega)
  have p2 := and31 (b := w / 32768) (by omega) (by omega)
  have p3 := and31 (b := w / 1048576) (by omega) (by omega)
  have H := Lib.hid h
  have HT := Lib.hid ht
  subst c
  clear h ht z
  go_enter Tryd.func21, Tryd.ntmps21
  go_wp2_with fail
  refine (OP.out _ (HT.out.later (by go_grown))).mono ?_
  rw [H.out]
  rintro e w1 ⟨rfl, rfl⟩
  go_wp2_with (first | (go_at_call 33; refine (LY.out _).mono ?_; unfold LayIP; rw [LI.out]; rintro e w1 ⟨rfl, rfl⟩) | (go_at_call 34; refine (ishift_any _ _).mono ?_; rw [SH.out]; rintro e w1 ⟨rfl, rfl⟩) | (go_at_call 35; refine (imm_get _ _ _ h0 h1).mono ?_; rintro e w1 ⟨rfl, rfl⟩))
  exact bodyPost_ret (v := .tuple #[.agg #[.int .i64 45, .int .i64 (w / 128 % 32), .int .i64 (w / 32768 % 32), .int .i64 (0), .int .i32 (getS 1 w)], .bool true]) (by simp [results, Tryd.results21, go_sem]) rfl (dec_mk R.out K.out (by go_grown))
set_option maxHeartbeats 1000000 in
theorem dec_10 (o w : Int) (W : World) (ht : T3 W) (h0 : 0 ≤ w) (h1 : w < 4294967296) (h : opI w = o) (c : o = 46) :
    Calls Tryd.prog 21 #[.int .u32 w] W (DecP w W) := by
  have R := Lib.hid (show decI w = ⟨o, 0, 0, 0, getS 1 w⟩ by
    unfold decI
    rw [h, if_neg (by omega)]
    unfold recI
    rw [(cls_10 c).1, (cls_10 c).2.1, (cls_10 c).2.2.1, (cls_10 c).2.2.2.1]
    rfl)
  have K := Lib.hid (show okI w = true by unfold okI; rw [h]; simp; omega)
  have OP := Lib.hid (oper_any w · · h0 h1)
  have LI := Lib.hid (layI_10 c)
  have LY := Lib.hid (ilay_any o · (by omega))
  have SH := Lib.hid (show shiftI o = false by unfold shiftI; simp; omega)
  have z : (o == 0) = false := by simp; omega
  have p1 := and31 (b := w / 128) (by omega) (by omega)
  have p2 := and31 (b := w / 32768) (by omega) (by omega)
  have p3 := and31 (b := w / 1048576) (by omega) (by omega)
  have H := Lib.hid h
  have HT := Lib.hid ht
  subst c
  clear h ht z
  go_enter Tryd.func21, Tryd.ntmps21
  go_wp2_with fail
  refine (OP.out _ (HT.out.later (by go_grown))).mono ?_
  rw [H.out]
  rintro e w1 ⟨rfl, rfl⟩
  go_wp2_with (first | (go_at_call 33; refine (LY.out _).mono ?_; unfold LayIP; rw [LI.out]; rintro e w1 ⟨rfl, rfl⟩) | (go_at_call 34; refine (ishift_any _ _).mono ?_; rw [SH.out]; rintro e w1 ⟨rfl, rfl⟩) | (go_at_call 35; refine (imm_get _ _ _ h0 h1).mono ?_; rintro e w1 ⟨rfl, rfl⟩))
  exact bodyPost_ret (v := .tuple #[.agg #[.int .i64 46, .int .i64 (0), .int .i64 (0), .int .i64 (0), .int .i32 (getS 1 w)], .bool true]) (by simp [results, Tryd.results21, go_sem]) rfl (dec_mk R.out K.out (by go_grown))
set_option maxHeartbeats 1000000 in
theorem dec_11 (o w : Int) (W : World) (ht : T3 W) (h0 : 0 ≤ w) (h1 : w < 4294967296) (h : opI w = o) (c : o = 47) :
    Calls Tryd.prog 21 #[.int .u32 w] W (DecP w W) := by
  have R := Lib.hid (show decI w = ⟨o, 0, 0, 0, 0⟩ by
    unfold decI
    rw [h, if_neg (by omega)]
    unfold recI
    rw [(cls_11 c).1, (cls_11 c).2.1, (cls_11 c).2.2.1, (cls_11 c).2.2.2.1]
    rfl)
  have K := Lib.hid (show okI w = true by unfold okI; rw [h]; simp; omega)
  have OP := Lib.hid (oper_any w · · h0 h1)
  have LI := Lib.hid (layI_11 c)
  have LY := Lib.hid (ilay_any o · (by omega))
  have SH := Lib.hid (show shiftI o = false by unfold shiftI; simp; omega)
  have z : (o == 0) = false := by simp; omega
  have p1 := and31 (b := w / 128) (by omega) (by omega)
  have p2 := and31 (b := w / 32768) (by omega) (by omega)
  have p3 := and31 (b := w / 1048576) (by omega) (by omega)
  have H := Lib.hid h
  have HT := Lib.hid ht
  subst c
  clear h ht z
  go_enter Tryd.func21, Tryd.ntmps21
  go_wp2_with fail
  refine (OP.out _ (HT.out.later (by go_grown))).mono ?_
  rw [H.out]
  rintro e w1 ⟨rfl, rfl⟩
  go_wp2_with (first | (go_at_call 33; refine (LY.out _).mono ?_; unfold LayIP; rw [LI.out]; rintro e w1 ⟨rfl, rfl⟩) | (go_at_call 34; refine (ishift_any _ _).mono ?_; rw [SH.out]; rintro e w1 ⟨rfl, rfl⟩) | (go_at_call 35; refine (imm_get _ _ _ h0 h1).mono ?_; rintro e w1 ⟨rfl, rfl⟩))
  exact bodyPost_ret (v := .tuple #[.agg #[.int .i64 47, .int .i64 (0), .int .i64 (0), .int .i64 (0), .int .i32 (0)], .bool true]) (by simp [results, Tryd.results21, go_sem]) rfl (dec_mk R.out K.out (by go_grown))
set_option maxHeartbeats 1000000 in
theorem dec_12 (o w : Int) (W : World) (ht : T3 W) (h0 : 0 ≤ w) (h1 : w < 4294967296) (h : opI w = o) (c : o = 48) :
    Calls Tryd.prog 21 #[.int .u32 w] W (DecP w W) := by
  have R := Lib.hid (show decI w = ⟨o, 0, 0, 0, 0⟩ by
    unfold decI
    rw [h, if_neg (by omega)]
    unfold recI
    rw [(cls_12 c).1, (cls_12 c).2.1, (cls_12 c).2.2.1, (cls_12 c).2.2.2.1]
    rfl)
  have K := Lib.hid (show okI w = true by unfold okI; rw [h]; simp; omega)
  have OP := Lib.hid (oper_any w · · h0 h1)
  have LI := Lib.hid (layI_12 c)
  have LY := Lib.hid (ilay_any o · (by omega))
  have SH := Lib.hid (show shiftI o = false by unfold shiftI; simp; omega)
  have z : (o == 0) = false := by simp; omega
  have p1 := and31 (b := w / 128) (by omega) (by omega)
  have p2 := and31 (b := w / 32768) (by omega) (by omega)
  have p3 := and31 (b := w / 1048576) (by omega) (by omega)
  have H := Lib.hid h
  have HT := Lib.hid ht
  subst c
  clear h ht z
  go_enter Tryd.func21, Tryd.ntmps21
  go_wp2_with fail
  refine (OP.out _ (HT.out.later (by go_grown))).mono ?_
  rw [H.out]
  rintro e w1 ⟨rfl, rfl⟩
  go_wp2_with (first | (go_at_call 33; refine (LY.out _).mono ?_; unfold LayIP; rw [LI.out]; rintro e w1 ⟨rfl, rfl⟩) | (go_at_call 34; refine (ishift_any _ _).mono ?_; rw [SH.out]; rintro e w1 ⟨rfl, rfl⟩) | (go_at_call 35; refine (imm_get _ _ _ h0 h1).mono ?_; rintro e w1 ⟨rfl, rfl⟩))
  exact bodyPost_ret (v := .tuple #[.agg #[.int .i64 48, .int .i64 (0), .int .i64 (0), .int .i64 (0), .int .i32 (0)], .bool true]) (by simp [results, Tryd.results21, go_sem]) rfl (dec_mk R.out K.out (by go_grown))
theorem dec_any (w : Int) (W : World) (ht : T3 W) (h0 : 0 ≤ w) (h1 : w < 4294967296) : Calls Tryd.prog 21 #[.int .u32 w] W (DecP w W) := by
  obtain ⟨o, h⟩ : ∃ o, opI w = o := ⟨_, rfl⟩
  have bd := opI_bd w h0 h1
  rw [h] at bd
  by_cases z : o = 0
  · exact dec_no w W ht h0 h1 (h.trans z)
  have cs : (1 ≤ o ∧ o ≤ 18) ∨ (19 ≤ o ∧ o ≤ 24) ∨ (25 ≤ o ∧ o ≤ 27) ∨ (28 ≤ o ∧ o ≤ 32) ∨ (33 ≤ o ∧ o ≤ 35) ∨ (36 ≤ o ∧ o ≤ 41) ∨ (o = 42) ∨ (o = 43) ∨ (o = 44) ∨ (o = 45) ∨ (o = 46) ∨ (o = 47) ∨ (o = 48) := by omega
  rcases cs with c | c | c | c | c | c | c | c | c | c | c | c | c
  · exact dec_0 o w W ht h0 h1 h c
  · exact dec_1 o w W ht h0 h1 h c
  · exact dec_2 o w W ht h0 h1 h c
  · exact dec_3 o w W ht h0 h1 h c
  · exact dec_4 o w W ht h0 h1 h c
  · exact dec_5 o w W ht h0 h1 h c
  · exact dec_6 o w W ht h0 h1 h c
  · exact dec_7 o w W ht h0 h1 h c
  · exact dec_8 o w W ht h0 h1 h c
  · exact dec_9 o w W ht h0 h1 h c
  · exact dec_10 o w W ht h0 h1 h c
  · exact dec_11 o w W ht h0 h1 h c
  · exact dec_12 o w W ht h0 h1 h c
end Go.Proofs.YtmlhoagcppofgaaDoor
