/- Contract of pintleref03.Encode. -/
import Derived.Test.YtipecnofjdhobaaDoorInstE
import Derived.Test.YtipecnofjdhobaaDoorInstR
namespace Go.Proofs.YtipecnofjdhobaaDoor
open Go Go.RowKit Pl
set_option linter.unusedVariables false

theorem can_sys {o d a b i : Int} (ho : o = 47 ∨ o = 48) : canI ⟨o, d, a, b, i⟩ = decide (d = 0 ∧ a = 0 ∧ b = 0 ∧ i = 0) := by
  rw [Bool.eq_iff_iff]
  rcases ho with rfl | rfl
  · rw [decide_eq_true_eq]
    constructor
    · intro h
      obtain ⟨_, _, h1, _, h2, _, h3, h4⟩ := canI_out h
      exact ⟨h1 rfl, h2 rfl, h3 rfl, of_decide_eq_true h4⟩
    · rintro ⟨rfl, rfl, rfl, rfl⟩; rfl
  · rw [decide_eq_true_eq]
    constructor
    · intro h
      obtain ⟨_, _, h1, _, h2, _, h3, h4⟩ := canI_out h
      exact ⟨h1 rfl, h2 rfl, h3 rfl, of_decide_eq_true h4⟩
    · rintro ⟨rfl, rfl, rfl, rfl⟩; rfl
theorem enc_false {x : Q5} {w w' : World} (h : canI x = false) (hb : Below w.heap.size w w') : EncP x w (.returned (.tuple #[.int .u32 0, .bool false])) w' := by
  refine ⟨?_, hb⟩
  have : encI x = 0 := by unfold encI; simp [h]
  rw [h, this]

set_option maxHeartbeats 400000 in
theorem renc_s0 (o d a b i : Int) (w : World) (ho : o = 47 ∨ o = 48) (hn : ¬ d = 0) : Calls Tryd.prog 18 #[.agg #[.int .i64 o, .int .i64 d, .int .i64 a, .int .i64 b, .int .i32 i]] w (EncP ⟨o, d, a, b, i⟩ w) := by
  have C := Lib.hid (show canI ⟨o, d, a, b, i⟩ = false by rw [can_sys ho]; exact decide_eq_false (fun h => hn (by omega)))
  have t : (d != 0) = true := by simpa using hn
  clear hn
  rcases ho with rfl | rfl
  all_goals
    go_enter Tryd.func18, Tryd.ntmps18
    go_wp2
    go_ret2
    exact enc_false C.out (by go_grown)
set_option maxHeartbeats 400000 in
theorem renc_s1 (o d a b i : Int) (w : World) (ho : o = 47 ∨ o = 48) (hd : d = 0) (hn : ¬ a = 0) : Calls Tryd.prog 18 #[.agg #[.int .i64 o, .int .i64 d, .int .i64 a, .int .i64 b, .int .i32 i]] w (EncP ⟨o, d, a, b, i⟩ w) := by
  have C := Lib.hid (show canI ⟨o, d, a, b, i⟩ = false by rw [can_sys ho]; exact decide_eq_false (fun h => hn (by omega)))
  subst hd
  have t : (a != 0) = true := by simpa using hn
  clear hn
  rcases ho with rfl | rfl
  all_goals
    go_enter Tryd.func18, Tryd.ntmps18
    go_wp2
    go_ret2
    exact enc_false C.out (by go_grown)
set_option maxHeartbeats 400000 in
theorem renc_s2 (o d a b i : Int) (w : World) (ho : o = 47 ∨ o = 48) (hd : d = 0) (ha : a = 0) (hn : ¬ b = 0) : Calls Tryd.prog 18 #[.agg #[.int .i64 o, .int .i64 d, .int .i64 a, .int .i64 b, .int .i32 i]] w (EncP ⟨o, d, a, b, i⟩ w) := by
  have C := Lib.hid (show canI ⟨o, d, a, b, i⟩ = false by rw [can_sys ho]; exact decide_eq_false (fun h => hn (by omega)))
  subst hd
  subst ha
  have t : (b != 0) = true := by simpa using hn
  clear hn
  rcases ho with rfl | rfl
  all_goals
    go_enter Tryd.func18, Tryd.ntmps18
    go_wp2
    go_ret2
    exact enc_false C.out (by go_grown)
set_option maxHeartbeats 400000 in
theorem renc_s3 (o d a b i : Int) (w : World) (ho : o = 47 ∨ o = 48) (hd : d = 0) (ha : a = 0) (hb : b = 0) (hn : ¬ i = 0) : Calls Tryd.prog 18 #[.agg #[.int .i64 o, .int .i64 d, .int .i64 a, .int .i64 b, .int .i32 i]] w (EncP ⟨o, d, a, b, i⟩ w) := by
  have C := Lib.hid (show canI ⟨o, d, a, b, i⟩ = false by rw [can_sys ho]; exact decide_eq_false (fun h => hn (by omega)))
  subst hd
  subst ha
  subst hb
  have t : (i != 0) = true := by simpa using hn
  clear hn
  rcases ho with rfl | rfl
  all_goals
    go_enter Tryd.func18, Tryd.ntmps18
    go_wp2
    go_ret2
    exact enc_false C.out (by go_grown)
set_option maxHeartbeats 400000 in
theorem renc_s4 (o d a b i : Int) (w : World) (ho : o = 47 ∨ o = 48) (hd : d = 0) (ha : a = 0) (hb : b = 0) (hi : i = 0) : Calls Tryd.prog 18 #[.agg #[.int .i64 o, .int .i64 d, .int .i64 a, .int .i64 b, .int .i32 i]] w (EncP ⟨o, d, a, b, i⟩ w) := by
  subst hd ha hb hi
  rcases ho with rfl | rfl
  · have C := Lib.hid (show canI ⟨47, 0, 0, 0, 0⟩ = true by decide)
    have E := Lib.hid (show encI ⟨47, 0, 0, 0, 0⟩ = 115 by decide)
    go_enter Tryd.func18, Tryd.ntmps18
    go_wp2
    go_ret2
    exact enc_mk C.out E.out (by go_grown)
  · have C := Lib.hid (show canI ⟨48, 0, 0, 0, 0⟩ = true by decide)
    have E := Lib.hid (show encI ⟨48, 0, 0, 0, 0⟩ = 1048691 by decide)
    go_enter Tryd.func18, Tryd.ntmps18
    go_wp2
    go_ret2
    exact enc_mk C.out E.out (by go_grown)
set_option maxHeartbeats 400000 in
theorem renc_none (o d a b i : Int) (w : World) (ho : o < 1 ∨ 48 < o) : Calls Tryd.prog 18 #[.agg #[.int .i64 o, .int .i64 d, .int .i64 a, .int .i64 b, .int .i32 i]] w (EncP ⟨o, d, a, b, i⟩ w) := by
  have C := Lib.hid (show canI ⟨o, d, a, b, i⟩ = false by unfold canI isOpI; simp; omega)
  have ON := Lib.hid (of_none o · (by omega))
  have t1 : (o == 47) = false := by simp; omega
  have t2 : (o == 48) = false := by simp; omega
  go_enter Tryd.func18, Tryd.ntmps18
  go_wp2_with fail
  refine (ON.out _).mono ?_
  unfold OfN zeroV
  rintro e w1 ⟨rfl, b1⟩
  obtain ⟨hbox, hz1, hz2, hb1⟩ := box5 b1
  have HB := Lib.hid hb1
  clear b1 hbox hb1
  go_wp2_with fail
  go_ret2
  exact enc_false C.out (below_trans HB.out (by go_grown))
set_option maxHeartbeats 1000000 in
theorem renc_r1 (o d a b i : Int) (w : World) (ho : 1 ≤ o ∧ o ≤ 46) (h1 : regOk d (rD o) = false) : Calls Tryd.prog 18 #[.agg #[.int .i64 o, .int .i64 d, .int .i64 a, .int .i64 b, .int .i32 i]] w (EncP ⟨o, d, a, b, i⟩ w) := by
  have C := Lib.hid (show canI ⟨o, d, a, b, i⟩ = false by unfold canI; simp [h1])
  have OF := Lib.hid (of_any o · ho)
  have t1 : (o == 47) = false := by simp; omega
  have t2 : (o == 48) = false := by simp; omega
  have H1 := Lib.hid h1
  clear h1
  go_enter Tryd.func18, Tryd.ntmps18
  go_wp2_with fail
  refine (OF.out _).mono ?_
  unfold OfP sortV
  rintro e w1 ⟨rfl, b1⟩
  obtain ⟨hbox, hz1, hz2, hb1⟩ := box5 b1
  have HB := Lib.hid hb1
  have c1 := hbox 1 _ rfl
  have c2 := hbox 2 _ rfl
  have c3 := hbox 3 _ rfl
  clear b1 hbox hb1
  go_wp2_with fail
  refine (rreg_any d _ _).mono ?_
  rw [H1.out]
  rintro e w2 ⟨rfl, rfl⟩
  go_wp2_with fail
  go_ret2
  exact enc_false C.out (below_trans HB.out (by go_grown))
set_option maxHeartbeats 1000000 in
theorem renc_r2 (o d a b i : Int) (w : World) (ho : 1 ≤ o ∧ o ≤ 46) (h1 : regOk d (rD o) = true) (h2 : regOk a (rA o) = false) : Calls Tryd.prog 18 #[.agg #[.int .i64 o, .int .i64 d, .int .i64 a, .int .i64 b, .int .i32 i]] w (EncP ⟨o, d, a, b, i⟩ w) := by
  have C := Lib.hid (show canI ⟨o, d, a, b, i⟩ = false by unfold canI; simp [h1, h2])
  have OF := Lib.hid (of_any o · ho)
  have t1 : (o == 47) = false := by simp; omega
  have t2 : (o == 48) = false := by simp; omega
  have H1 := Lib.hid h1
  have H2 := Lib.hid h2
  clear h1 h2
  go_enter Tryd.func18, Tryd.ntmps18
  go_wp2_with fail
  refine (OF.out _).mono ?_
  unfold OfP sortV
  rintro e w1 ⟨rfl, b1⟩
  obtain ⟨hbox, hz1, hz2, hb1⟩ := box5 b1
  have HB := Lib.hid hb1
  have c1 := hbox 1 _ rfl
  have c2 := hbox 2 _ rfl
  have c3 := hbox 3 _ rfl
  clear b1 hbox hb1
  go_wp2_with fail
  refine (rreg_any d _ _).mono ?_
  rw [H1.out]
  rintro e w2 ⟨rfl, rfl⟩
  go_wp2_with fail
  refine (rreg_any a _ _).mono ?_
  rw [H2.out]
  rintro e w3 ⟨rfl, rfl⟩
  go_wp2_with fail
  go_ret2
  exact enc_false C.out (below_trans HB.out (by go_grown))
set_option maxHeartbeats 1000000 in
theorem renc_r3 (o d a b i : Int) (w : World) (ho : 1 ≤ o ∧ o ≤ 46) (h1 : regOk d (rD o) = true) (h2 : regOk a (rA o) = true) (h3 : regOk b (rB o) = false) : Calls Tryd.prog 18 #[.agg #[.int .i64 o, .int .i64 d, .int .i64 a, .int .i64 b, .int .i32 i]] w (EncP ⟨o, d, a, b, i⟩ w) := by
  have C := Lib.hid (show canI ⟨o, d, a, b, i⟩ = false by unfold canI; simp [h1, h2, h3])
  have OF := Lib.hid (of_any o · ho)
  have t1 : (o == 47) = false := by simp; omega
  have t2 : (o == 48) = false := by simp; omega
  have H1 := Lib.hid h1
  have H2 := Lib.hid h2
  have H3 := Lib.hid h3
  clear h1 h2 h3
  go_enter Tryd.func18, Tryd.ntmps18
  go_wp2_with fail
  refine (OF.out _).mono ?_
  unfold OfP sortV
  rintro e w1 ⟨rfl, b1⟩
  obtain ⟨hbox, hz1, hz2, hb1⟩ := box5 b1
  have HB := Lib.hid hb1
  have c1 := hbox 1 _ rfl
  have c2 := hbox 2 _ rfl
  have c3 := hbox 3 _ rfl
  clear b1 hbox hb1
  go_wp2_with fail
  refine (rreg_any d _ _).mono ?_
  rw [H1.out]
  rintro e w2 ⟨rfl, rfl⟩
  go_wp2_with fail
  refine (rreg_any a _ _).mono ?_
  rw [H2.out]
  rintro e w3 ⟨rfl, rfl⟩
  go_wp2_with fail
  refine (rreg_any b _ _).mono ?_
  rw [H3.out]
  rintro e w4 ⟨rfl, rfl⟩
  go_wp2_with fail
  go_ret2
  exact enc_false C.out (below_trans HB.out (by go_grown))
set_option maxHeartbeats 1000000 in
theorem renc_n0 (o d a b i : Int) (w : World) (i0 : -2147483648 ≤ i) (i1 : i ≤ 2147483647) (ho : 1 ≤ o ∧ o ≤ 46) (h1 : regOk d (rD o) = true) (h2 : regOk a (rA o) = true) (h3 : regOk b (rB o) = true) (hf : formI o = 0) (hi : i = 0) :
    Calls Tryd.prog 18 #[.agg #[.int .i64 o, .int .i64 d, .int .i64 a, .int .i64 b, .int .i32 i]] w (EncP ⟨o, d, a, b, i⟩ w) := by
  have hn : numOk (formI o) i = true := by rw [hf]; exact decide_eq_true hi
  have C := Lib.hid (show canI ⟨o, d, a, b, i⟩ = true by unfold canI; rw [show isOpI o = true by unfold isOpI; simp; omega, h1, h2, h3]; simpa using hn)
  have E := Lib.hid (show encI ⟨o, d, a, b, i⟩ = lowI o + threeI o * 4096 + sevenI o * 33554432 + d * 128 + a * 32768 + b * 1048576 + 0 by unfold encI; rw [C.out, if_pos rfl]; unfold wordI; dsimp only; rw [hf]; rfl)
  have BD := Lib.hid (show 0 ≤ encI ⟨o, d, a, b, i⟩ ∧ encI ⟨o, d, a, b, i⟩ < 4294967296 by unfold encI; rw [C.out, if_pos rfl]; exact (rec_word (canI_out C.out)).1)
  have HF := Lib.hid hf
  have ti : (i == 0) = true := by simpa using hi
  clear hn hf hi
  have OF := Lib.hid (of_any o · ho)
  have PUT := Lib.hid (ref2_put (formI o) i · i0 i1)
  have t1 : (o == 47) = false := by simp; omega
  have t2 : (o == 48) = false := by simp; omega
  have hd := (reg_out h1).1
  have ha := (reg_out h2).1
  have hb := (reg_out h3).1
  have hL := low_bd ho
  have hT := three_bd (o := o) (by omega)
  have hS := seven_bd o
  have H1 := Lib.hid h1
  have H2 := Lib.hid h2
  have H3 := Lib.hid h3
  clear h1 h2 h3
  go_enter Tryd.func18, Tryd.ntmps18
  go_wp2_with fail
  refine (OF.out _).mono ?_
  unfold OfP sortV
  rintro e w1 ⟨rfl, b1⟩
  obtain ⟨hbox, hz1, hz2, hb1⟩ := box5 b1
  have HB := Lib.hid hb1
  have c1 := hbox 1 _ rfl
  have c2 := hbox 2 _ rfl
  have c3 := hbox 3 _ rfl
  have c4 := hbox 4 _ rfl
  clear b1 hbox hb1
  go_wp2_with fail
  refine (rreg_any d _ _).mono ?_
  rw [H1.out]
  rintro e w2 ⟨rfl, rfl⟩
  go_wp2_with fail
  refine (rreg_any a _ _).mono ?_
  rw [H2.out]
  rintro e w2 ⟨rfl, rfl⟩
  go_wp2_with fail
  refine (rreg_any b _ _).mono ?_
  rw [H3.out]
  rintro e w2 ⟨rfl, rfl⟩
  go_wp2_with fail
  refine (PUT.out _).mono ?_
  rintro e w3 ⟨rfl, b3⟩
  obtain ⟨gbox, g1, g2, hb3⟩ := box5 b3
  have d4 := (b3.cell (p := ⟨w.heap.size, 4, none⟩) (by simp; omega)).trans (show (w1.alloc (.cells (sortV o) 54)).cell? ⟨w.heap.size, 4, none⟩ = _ from (World.cell?_alloc_past _ _ _ (by omega)).trans c4)
  have e3 := gbox 3 _ rfl
  have HB3 := Lib.hid (below_trans HB.out hb3)
  clear b3 gbox hb3 c1 c2 c3 c4
  rw [HF.out] at e3
  go_wp2_with fail
  go_quiet (fail)
  go_wp2_with fail
  go_ret2
  refine enc_mk C.out (E.out.trans ?_) (below_drewN HB3.out _)
  have bd := BD.out
  rw [E.out] at bd
  first | rfl | omega
set_option maxHeartbeats 1000000 in
theorem renc_n0x (o d a b i : Int) (w : World) (i0 : -2147483648 ≤ i) (i1 : i ≤ 2147483647) (ho : 1 ≤ o ∧ o ≤ 46) (h1 : regOk d (rD o) = true) (h2 : regOk a (rA o) = true) (h3 : regOk b (rB o) = true) (hf : formI o = 0) (hi : ¬ i = 0) :
    Calls Tryd.prog 18 #[.agg #[.int .i64 o, .int .i64 d, .int .i64 a, .int .i64 b, .int .i32 i]] w (EncP ⟨o, d, a, b, i⟩ w) := by
  have hn : numOk (formI o) i = false := by rw [hf]; exact decide_eq_false hi
  have C := Lib.hid (show canI ⟨o, d, a, b, i⟩ = false by unfold canI; rw [show isOpI o = true by unfold isOpI; simp; omega, h1, h2, h3]; simpa using hn)
  have HF := Lib.hid hf
  have ti : (i == 0) = false := by simpa using hi
  clear hn hi hf
  have OF := Lib.hid (of_any o · ho)
  have PUT := Lib.hid (ref2_put (formI o) i · i0 i1)
  have t1 : (o == 47) = false := by simp; omega
  have t2 : (o == 48) = false := by simp; omega
  have hd := (reg_out h1).1
  have ha := (reg_out h2).1
  have hb := (reg_out h3).1
  have hL := low_bd ho
  have hT := three_bd (o := o) (by omega)
  have hS := seven_bd o
  have H1 := Lib.hid h1
  have H2 := Lib.hid h2
  have H3 := Lib.hid h3
  clear h1 h2 h3
  go_enter Tryd.func18, Tryd.ntmps18
  go_wp2_with fail
  refine (OF.out _).mono ?_
  unfold OfP sortV
  rintro e w1 ⟨rfl, b1⟩
  obtain ⟨hbox, hz1, hz2, hb1⟩ := box5 b1
  have HB := Lib.hid hb1
  have c1 := hbox 1 _ rfl
  have c2 := hbox 2 _ rfl
  have c3 := hbox 3 _ rfl
  have c4 := hbox 4 _ rfl
  clear b1 hbox hb1
  go_wp2_with fail
  refine (rreg_any d _ _).mono ?_
  rw [H1.out]
  rintro e w2 ⟨rfl, rfl⟩
  go_wp2_with fail
  refine (rreg_any a _ _).mono ?_
  rw [H2.out]
  rintro e w2 ⟨rfl, rfl⟩
  go_wp2_with fail
  refine (rreg_any b _ _).mono ?_
  rw [H3.out]
  rintro e w2 ⟨rfl, rfl⟩
  go_wp2_with fail
  refine (PUT.out _).mono ?_
  rintro e w3 ⟨rfl, b3⟩
  obtain ⟨gbox, g1, g2, hb3⟩ := box5 b3
  have d4 := (b3.cell (p := ⟨w.heap.size, 4, none⟩) (by simp; omega)).trans (show (w1.alloc (.cells (sortV o) 54)).cell? ⟨w.heap.size, 4, none⟩ = _ from (World.cell?_alloc_past _ _ _ (by omega)).trans c4)
  have e3 := gbox 3 _ rfl
  have HB3 := Lib.hid (below_trans HB.out hb3)
  clear b3 gbox hb3 c1 c2 c3 c4
  rw [HF.out] at e3
  go_wp2_with fail
  go_quiet (fail)
  go_wp2_with fail
  go_ret2
  exact enc_false C.out (below_drewN HB3.out _)
set_option maxHeartbeats 1000000 in
theorem renc_n6 (o d a b i : Int) (w : World) (i0 : -2147483648 ≤ i) (i1 : i ≤ 2147483647) (ho : 1 ≤ o ∧ o ≤ 46) (h1 : regOk d (rD o) = true) (h2 : regOk a (rA o) = true) (h3 : regOk b (rB o) = true) (hf : formI o = 6) (hi : 0 ≤ i ∧ i < 32) :
    Calls Tryd.prog 18 #[.agg #[.int .i64 o, .int .i64 d, .int .i64 a, .int .i64 b, .int .i32 i]] w (EncP ⟨o, d, a, b, i⟩ w) := by
  have hn : numOk (formI o) i = true := by rw [hf]; exact decide_eq_true hi
  have C := Lib.hid (show canI ⟨o, d, a, b, i⟩ = true by unfold canI; rw [show isOpI o = true by unfold isOpI; simp; omega, h1, h2, h3]; simpa using hn)
  have E := Lib.hid (show encI ⟨o, d, a, b, i⟩ = lowI o + threeI o * 4096 + sevenI o * 33554432 + d * 128 + a * 32768 + b * 1048576 + i * 1048576 by unfold encI; rw [C.out, if_pos rfl]; unfold wordI; dsimp only; rw [hf]; rfl)
  have BD := Lib.hid (show 0 ≤ encI ⟨o, d, a, b, i⟩ ∧ encI ⟨o, d, a, b, i⟩ < 4294967296 by unfold encI; rw [C.out, if_pos rfl]; exact (rec_word (canI_out C.out)).1)
  have HF := Lib.hid hf
  have ti : decide (0 ≤ i) = true := by simp; omega
  have tj : decide (i < 32) = true := by simp; omega
  clear hn hf
  have OF := Lib.hid (of_any o · ho)
  have PUT := Lib.hid (ref2_put (formI o) i · i0 i1)
  have t1 : (o == 47) = false := by simp; omega
  have t2 : (o == 48) = false := by simp; omega
  have hd := (reg_out h1).1
  have ha := (reg_out h2).1
  have hb := (reg_out h3).1
  have hL := low_bd ho
  have hT := three_bd (o := o) (by omega)
  have hS := seven_bd o
  have H1 := Lib.hid h1
  have H2 := Lib.hid h2
  have H3 := Lib.hid h3
  clear h1 h2 h3
  go_enter Tryd.func18, Tryd.ntmps18
  go_wp2_with fail
  refine (OF.out _).mono ?_
  unfold OfP sortV
  rintro e w1 ⟨rfl, b1⟩
  obtain ⟨hbox, hz1, hz2, hb1⟩ := box5 b1
  have HB := Lib.hid hb1
  have c1 := hbox 1 _ rfl
  have c2 := hbox 2 _ rfl
  have c3 := hbox 3 _ rfl
  have c4 := hbox 4 _ rfl
  clear b1 hbox hb1
  go_wp2_with fail
  refine (rreg_any d _ _).mono ?_
  rw [H1.out]
  rintro e w2 ⟨rfl, rfl⟩
  go_wp2_with fail
  refine (rreg_any a _ _).mono ?_
  rw [H2.out]
  rintro e w2 ⟨rfl, rfl⟩
  go_wp2_with fail
  refine (rreg_any b _ _).mono ?_
  rw [H3.out]
  rintro e w2 ⟨rfl, rfl⟩
  go_wp2_with fail
  refine (PUT.out _).mono ?_
  rintro e w3 ⟨rfl, b3⟩
  obtain ⟨gbox, g1, g2, hb3⟩ := box5 b3
  have d4 := (b3.cell (p := ⟨w.heap.size, 4, none⟩) (by simp; omega)).trans (show (w1.alloc (.cells (sortV o) 54)).cell? ⟨w.heap.size, 4, none⟩ = _ from (World.cell?_alloc_past _ _ _ (by omega)).trans c4)
  have e3 := gbox 3 _ rfl
  have HB3 := Lib.hid (below_trans HB.out hb3)
  clear b3 gbox hb3 c1 c2 c3 c4
  rw [HF.out] at e3
  go_wp2_with fail
  go_quiet (fail)
  go_wp2_with fail
  go_ret2
  refine enc_mk C.out (E.out.trans ?_) (below_drewN HB3.out _)
  have bd := BD.out
  rw [E.out] at bd
  first | rfl | omega
set_option maxHeartbeats 1000000 in
theorem renc_n6x (o d a b i : Int) (w : World) (i0 : -2147483648 ≤ i) (i1 : i ≤ 2147483647) (ho : 1 ≤ o ∧ o ≤ 46) (h1 : regOk d (rD o) = true) (h2 : regOk a (rA o) = true) (h3 : regOk b (rB o) = true) (hf : formI o = 6) (hi : ¬ 0 ≤ i) :
    Calls Tryd.prog 18 #[.agg #[.int .i64 o, .int .i64 d, .int .i64 a, .int .i64 b, .int .i32 i]] w (EncP ⟨o, d, a, b, i⟩ w) := by
  have hn : numOk (formI o) i = false := by rw [hf]; exact decide_eq_false (fun h => hi h.1)
  have C := Lib.hid (show canI ⟨o, d, a, b, i⟩ = false by unfold canI; rw [show isOpI o = true by unfold isOpI; simp; omega, h1, h2, h3]; simpa using hn)
  have HF := Lib.hid hf
  have ti : decide (0 ≤ i) = false := by simp; omega
  clear hn hf
  have OF := Lib.hid (of_any o · ho)
  have PUT := Lib.hid (ref2_put (formI o) i · i0 i1)
  have t1 : (o == 47) = false := by simp; omega
  have t2 : (o == 48) = false := by simp; omega
  have hd := (reg_out h1).1
  have ha := (reg_out h2).1
  have hb := (reg_out h3).1
  have hL := low_bd ho
  have hT := three_bd (o := o) (by omega)
  have hS := seven_bd o
  have H1 := Lib.hid h1
  have H2 := Lib.hid h2
  have H3 := Lib.hid h3
  clear h1 h2 h3
  go_enter Tryd.func18, Tryd.ntmps18
  go_wp2_with fail
  refine (OF.out _).mono ?_
  unfold OfP sortV
  rintro e w1 ⟨rfl, b1⟩
  obtain ⟨hbox, hz1, hz2, hb1⟩ := box5 b1
  have HB := Lib.hid hb1
  have c1 := hbox 1 _ rfl
  have c2 := hbox 2 _ rfl
  have c3 := hbox 3 _ rfl
  have c4 := hbox 4 _ rfl
  clear b1 hbox hb1
  go_wp2_with fail
  refine (rreg_any d _ _).mono ?_
  rw [H1.out]
  rintro e w2 ⟨rfl, rfl⟩
  go_wp2_with fail
  refine (rreg_any a _ _).mono ?_
  rw [H2.out]
  rintro e w2 ⟨rfl, rfl⟩
  go_wp2_with fail
  refine (rreg_any b _ _).mono ?_
  rw [H3.out]
  rintro e w2 ⟨rfl, rfl⟩
  go_wp2_with fail
  refine (PUT.out _).mono ?_
  rintro e w3 ⟨rfl, b3⟩
  obtain ⟨gbox, g1, g2, hb3⟩ := box5 b3
  have d4 := (b3.cell (p := ⟨w.heap.size, 4, none⟩) (by simp; omega)).trans (show (w1.alloc (.cells (sortV o) 54)).cell? ⟨w.heap.size, 4, none⟩ = _ from (World.cell?_alloc_past _ _ _ (by omega)).trans c4)
  have e3 := gbox 3 _ rfl
  have HB3 := Lib.hid (below_trans HB.out hb3)
  clear b3 gbox hb3 c1 c2 c3 c4
  rw [HF.out] at e3
  clear hi
  go_wp2_with fail
  go_quiet (fail)
  go_wp2_with fail
  go_ret2
  exact enc_false C.out (below_drewN HB3.out _)
set_option maxHeartbeats 1000000 in
theorem renc_n6y (o d a b i : Int) (w : World) (i0 : -2147483648 ≤ i) (i1 : i ≤ 2147483647) (ho : 1 ≤ o ∧ o ≤ 46) (h1 : regOk d (rD o) = true) (h2 : regOk a (rA o) = true) (h3 : regOk b (rB o) = true) (hf : formI o = 6) (hi : 0 ≤ i) (hj : ¬ i < 32) :
    Calls Tryd.prog 18 #[.agg #[.int .i64 o, .int .i64 d, .int .i64 a, .int .i64 b, .int .i32 i]] w (EncP ⟨o, d, a, b, i⟩ w) := by
  have hn : numOk (formI o) i = false := by rw [hf]; exact decide_eq_false (fun h => hj h.2)
  have C := Lib.hid (show canI ⟨o, d, a, b, i⟩ = false by unfold canI; rw [show isOpI o = true by unfold isOpI; simp; omega, h1, h2, h3]; simpa using hn)
  have HF := Lib.hid hf
  have ti : decide (0 ≤ i) = true := by simp; omega
  have tj : decide (i < 32) = false := by simp; omega
  clear hn hf
  have OF := Lib.hid (of_any o · ho)
  have PUT := Lib.hid (ref2_put (formI o) i · i0 i1)
  have t1 : (o == 47) = false := by simp; omega
  have t2 : (o == 48) = false := by simp; omega
  have hd := (reg_out h1).1
  have ha := (reg_out h2).1
  have hb := (reg_out h3).1
  have hL := low_bd ho
  have hT := three_bd (o := o) (by omega)
  have hS := seven_bd o
  have H1 := Lib.hid h1
  have H2 := Lib.hid h2
  have H3 := Lib.hid h3
  clear h1 h2 h3
  go_enter Tryd.func18, Tryd.ntmps18
  go_wp2_with fail
  refine (OF.out _).mono ?_
  unfold OfP sortV
  rintro e w1 ⟨rfl, b1⟩
  obtain ⟨hbox, hz1, hz2, hb1⟩ := box5 b1
  have HB := Lib.hid hb1
  have c1 := hbox 1 _ rfl
  have c2 := hbox 2 _ rfl
  have c3 := hbox 3 _ rfl
  have c4 := hbox 4 _ rfl
  clear b1 hbox hb1
  go_wp2_with fail
  refine (rreg_any d _ _).mono ?_
  rw [H1.out]
  rintro e w2 ⟨rfl, rfl⟩
  go_wp2_with fail
  refine (rreg_any a _ _).mono ?_
  rw [H2.out]
  rintro e w2 ⟨rfl, rfl⟩
  go_wp2_with fail
  refine (rreg_any b _ _).mono ?_
  rw [H3.out]
  rintro e w2 ⟨rfl, rfl⟩
  go_wp2_with fail
  refine (PUT.out _).mono ?_
  rintro e w3 ⟨rfl, b3⟩
  obtain ⟨gbox, g1, g2, hb3⟩ := box5 b3
  have d4 := (b3.cell (p := ⟨w.heap.size, 4, none⟩) (by simp; omega)).trans (show (w1.alloc (.cells (sortV o) 54)).cell? ⟨w.heap.size, 4, none⟩ = _ from (World.cell?_alloc_past _ _ _ (by omega)).trans c4)
  have e3 := gbox 3 _ rfl
  have HB3 := Lib.hid (below_trans HB.out hb3)
  clear b3 gbox hb3 c1 c2 c3 c4
  rw [HF.out] at e3
  clear hj
  go_wp2_with fail
  go_quiet (fail)
  go_wp2_with fail
  go_ret2
  exact enc_false C.out (below_drewN HB3.out _)
set_option maxHeartbeats 1000000 in
theorem renc_nf (o d a b i : Int) (w : World) (i0 : -2147483648 ≤ i) (i1 : i ≤ 2147483647) (ho : 1 ≤ o ∧ o ≤ 46) (h1 : regOk d (rD o) = true) (h2 : regOk a (rA o) = true) (h3 : regOk b (rB o) = true) (hf : 1 ≤ formI o ∧ formI o ≤ 5) (hn : numOk (formI o) i = true) :
    Calls Tryd.prog 18 #[.agg #[.int .i64 o, .int .i64 d, .int .i64 a, .int .i64 b, .int .i32 i]] w (EncP ⟨o, d, a, b, i⟩ w) := by
  have C := Lib.hid (show canI ⟨o, d, a, b, i⟩ = true by unfold canI; rw [show isOpI o = true by unfold isOpI; simp; omega, h1, h2, h3]; simpa using hn)
  have E := Lib.hid (show encI ⟨o, d, a, b, i⟩ = lowI o + threeI o * 4096 + sevenI o * 33554432 + d * 128 + a * 32768 + b * 1048576 + putR (formI o) i by unfold encI; rw [C.out, if_pos rfl]; unfold wordI; dsimp only; rw [put_num hf.1 hf.2]; unfold putR; rw [num_put hf.1 hf.2 hn]; rfl)
  have BD := Lib.hid (show 0 ≤ encI ⟨o, d, a, b, i⟩ ∧ encI ⟨o, d, a, b, i⟩ < 4294967296 by unfold encI; rw [C.out, if_pos rfl]; exact (rec_word (canI_out C.out)).1)
  have HP := Lib.hid (num_put hf.1 hf.2 hn)
  have tf0 : (formI o == 0) = false := by simp; omega
  have tf6 : (formI o == 6) = false := by simp; omega
  clear hn
  have OF := Lib.hid (of_any o · ho)
  have PUT := Lib.hid (ref2_put (formI o) i · i0 i1)
  have t1 : (o == 47) = false := by simp; omega
  have t2 : (o == 48) = false := by simp; omega
  have hd := (reg_out h1).1
  have ha := (reg_out h2).1
  have hb := (reg_out h3).1
  have hL := low_bd ho
  have hT := three_bd (o := o) (by omega)
  have hS := seven_bd o
  have H1 := Lib.hid h1
  have H2 := Lib.hid h2
  have H3 := Lib.hid h3
  clear h1 h2 h3
  go_enter Tryd.func18, Tryd.ntmps18
  go_wp2_with fail
  refine (OF.out _).mono ?_
  unfold OfP sortV
  rintro e w1 ⟨rfl, b1⟩
  obtain ⟨hbox, hz1, hz2, hb1⟩ := box5 b1
  have HB := Lib.hid hb1
  have c1 := hbox 1 _ rfl
  have c2 := hbox 2 _ rfl
  have c3 := hbox 3 _ rfl
  have c4 := hbox 4 _ rfl
  clear b1 hbox hb1
  go_wp2_with fail
  refine (rreg_any d _ _).mono ?_
  rw [H1.out]
  rintro e w2 ⟨rfl, rfl⟩
  go_wp2_with fail
  refine (rreg_any a _ _).mono ?_
  rw [H2.out]
  rintro e w2 ⟨rfl, rfl⟩
  go_wp2_with fail
  refine (rreg_any b _ _).mono ?_
  rw [H3.out]
  rintro e w2 ⟨rfl, rfl⟩
  go_wp2_with fail
  refine (PUT.out _).mono ?_
  rw [HP.out]
  rintro e w3 ⟨rfl, b3⟩
  obtain ⟨gbox, g1, g2, hb3⟩ := box5 b3
  have d4 := (b3.cell (p := ⟨w.heap.size, 4, none⟩) (by simp; omega)).trans (show (w1.alloc (.cells (sortV o) 54)).cell? ⟨w.heap.size, 4, none⟩ = _ from (World.cell?_alloc_past _ _ _ (by omega)).trans c4)
  have e3 := gbox 3 _ rfl
  have HB3 := Lib.hid (below_trans HB.out hb3)
  clear b3 gbox hb3 c1 c2 c3 c4
  go_wp2_with fail
  go_ret2
  refine enc_mk C.out (E.out.trans ?_) (HB3.out)
  have bd := BD.out
  rw [E.out] at bd
  first | rfl | omega
set_option maxHeartbeats 1000000 in
theorem renc_nfx (o d a b i : Int) (w : World) (i0 : -2147483648 ≤ i) (i1 : i ≤ 2147483647) (ho : 1 ≤ o ∧ o ≤ 46) (h1 : regOk d (rD o) = true) (h2 : regOk a (rA o) = true) (h3 : regOk b (rB o) = true) (hf : 1 ≤ formI o ∧ formI o ≤ 5) (hn : numOk (formI o) i = false) :
    Calls Tryd.prog 18 #[.agg #[.int .i64 o, .int .i64 d, .int .i64 a, .int .i64 b, .int .i32 i]] w (EncP ⟨o, d, a, b, i⟩ w) := by
  have C := Lib.hid (show canI ⟨o, d, a, b, i⟩ = false by unfold canI; rw [show isOpI o = true by unfold isOpI; simp; omega, h1, h2, h3]; simpa using hn)
  have HP := Lib.hid (show putOk (formI o) i = false by unfold numOk at hn; rwa [if_neg (by omega), if_neg (by omega)] at hn)
  have tf0 : (formI o == 0) = false := by simp; omega
  have tf6 : (formI o == 6) = false := by simp; omega
  clear hn
  have OF := Lib.hid (of_any o · ho)
  have PUT := Lib.hid (ref2_put (formI o) i · i0 i1)
  have t1 : (o == 47) = false := by simp; omega
  have t2 : (o == 48) = false := by simp; omega
  have hd := (reg_out h1).1
  have ha := (reg_out h2).1
  have hb := (reg_out h3).1
  have hL := low_bd ho
  have hT := three_bd (o := o) (by omega)
  have hS := seven_bd o
  have H1 := Lib.hid h1
  have H2 := Lib.hid h2
  have H3 := Lib.hid h3
  clear h1 h2 h3
  go_enter Tryd.func18, Tryd.ntmps18
  go_wp2_with fail
  refine (OF.out _).mono ?_
  unfold OfP sortV
  rintro e w1 ⟨rfl, b1⟩
  obtain ⟨hbox, hz1, hz2, hb1⟩ := box5 b1
  have HB := Lib.hid hb1
  have c1 := hbox 1 _ rfl
  have c2 := hbox 2 _ rfl
  have c3 := hbox 3 _ rfl
  have c4 := hbox 4 _ rfl
  clear b1 hbox hb1
  go_wp2_with fail
  refine (rreg_any d _ _).mono ?_
  rw [H1.out]
  rintro e w2 ⟨rfl, rfl⟩
  go_wp2_with fail
  refine (rreg_any a _ _).mono ?_
  rw [H2.out]
  rintro e w2 ⟨rfl, rfl⟩
  go_wp2_with fail
  refine (rreg_any b _ _).mono ?_
  rw [H3.out]
  rintro e w2 ⟨rfl, rfl⟩
  go_wp2_with fail
  refine (PUT.out _).mono ?_
  rw [HP.out]
  rintro e w3 ⟨rfl, b3⟩
  obtain ⟨gbox, g1, g2, hb3⟩ := box5 b3
  have d4 := (b3.cell (p := ⟨w.heap.size, 4, none⟩) (by simp; omega)).trans (show (w1.alloc (.cells (sortV o) 54)).cell? ⟨w.heap.size, 4, none⟩ = _ from (World.cell?_alloc_past _ _ _ (by omega)).trans c4)
  have e3 := gbox 3 _ rfl
  have HB3 := Lib.hid (below_trans HB.out hb3)
  clear b3 gbox hb3 c1 c2 c3 c4
  go_wp2_with fail
  go_ret2
  exact enc_false C.out HB3.out
theorem renc_any (o d a b i : Int) (w : World) (i0 : -2147483648 ≤ i) (i1 : i ≤ 2147483647) : Calls Tryd.prog 18 #[.agg #[.int .i64 o, .int .i64 d, .int .i64 a, .int .i64 b, .int .i32 i]] w (EncP ⟨o, d, a, b, i⟩ w) := by
  by_cases hs : o = 47 ∨ o = 48
  · by_cases hd : d = 0
    · by_cases ha : a = 0
      · by_cases hb : b = 0
        · by_cases hi : i = 0
          · exact renc_s4 o d a b i w hs hd ha hb hi
          · exact renc_s3 o d a b i w hs hd ha hb hi
        · exact renc_s2 o d a b i w hs hd ha hb
      · exact renc_s1 o d a b i w hs hd ha
    · exact renc_s0 o d a b i w hs hd
  by_cases ho : 1 ≤ o ∧ o ≤ 46
  · cases h1 : regOk d (rD o)
    · exact renc_r1 o d a b i w ho h1
    cases h2 : regOk a (rA o)
    · exact renc_r2 o d a b i w ho h1 h2
    cases h3 : regOk b (rB o)
    · exact renc_r3 o d a b i w ho h1 h2 h3
    rcases form_cases o with hf | hf | hf
    · by_cases hi : i = 0
      · exact renc_n0 o d a b i w i0 i1 ho h1 h2 h3 hf hi
      · exact renc_n0x o d a b i w i0 i1 ho h1 h2 h3 hf hi
    · by_cases hi : 0 ≤ i
      · by_cases hj : i < 32
        · exact renc_n6 o d a b i w i0 i1 ho h1 h2 h3 hf ⟨hi, hj⟩
        · exact renc_n6y o d a b i w i0 i1 ho h1 h2 h3 hf hi hj
      · exact renc_n6x o d a b i w i0 i1 ho h1 h2 h3 hf hi
    · cases hn : numOk (formI o) i
      · exact renc_nfx o d a b i w i0 i1 ho h1 h2 h3 hf hn
      · exact renc_nf o d a b i w i0 i1 ho h1 h2 h3 hf hn
  · exact renc_none o d a b i w (by omega)
end Go.Proofs.YtipecnofjdhobaaDoor
