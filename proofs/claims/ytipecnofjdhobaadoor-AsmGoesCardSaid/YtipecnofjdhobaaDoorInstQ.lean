/- Instructions' words as numbers: that they come back, and that their parts put together are their sum. -/
import Derived.Test.YtipecnofjdhobaaDoorInstP
namespace Go.Proofs.YtipecnofjdhobaaDoor
open Go Go.RowKit Pl
set_option linter.unusedVariables false

structure CanI (x : Q5) : Prop where
  ho : 1 ≤ x.o ∧ x.o ≤ 48
  hd : 0 ≤ x.d ∧ x.d < 32
  hd0 : rD x.o = false → x.d = 0
  ha : 0 ≤ x.a ∧ x.a < 32
  ha0 : rA x.o = false → x.a = 0
  hb : 0 ≤ x.b ∧ x.b < 32
  hb0 : rB x.o = false → x.b = 0
  hi : numOk (formI x.o) x.i = true
theorem reg_out {n : Int} {h : Bool} (e : regOk n h = true) : (0 ≤ n ∧ n < 32) ∧ (h = false → n = 0) := by
  cases h <;> simp [regOk] at e
  · exact ⟨by omega, fun _ => e⟩
  · exact ⟨e, fun g => by cases g⟩
theorem canI_out {x : Q5} (h : canI x = true) : CanI x := by
  unfold canI at h
  simp only [Bool.and_eq_true] at h
  obtain ⟨⟨⟨⟨h1, h2⟩, h3⟩, h4⟩, h5⟩ := h
  exact ⟨of_decide_eq_true h1, (reg_out h2).1, (reg_out h2).2, (reg_out h3).1, (reg_out h3).2, (reg_out h4).1, (reg_out h4).2, h5⟩
theorem seven_bd (o : Int) : 0 ≤ sevenI o ∧ sevenI o < 128 := by
  unfold sevenI; split
  · omega
  · split <;> omega
theorem put_out {form n : Int} (h : putOk form n = true) : getS form (putW form (n % 4294967296)) = n := (of_decide_eq_true h).2.2

/-- the parts of a form's number within a word -/
theorem back_1 {L T d a X : Int} (hL : 0 ≤ L ∧ L < 128) (hT : 0 ≤ T ∧ T < 8) (hd : 0 ≤ d ∧ d < 32) (ha : 0 ≤ a ∧ a < 32) (hX : 0 ≤ X ∧ X < 4096) :
    let w := L + T * 4096 + 0 * 33554432 + d * 128 + a * 32768 + 0 * 1048576 + X * 1048576
    (0 ≤ w ∧ w < 4294967296) ∧ w / 128 % 32 = d ∧ w / 32768 % 32 = a ∧ w / 1048576 * 1048576 = X * 1048576 := by
  intro w; refine ⟨?_, ?_, ?_, ?_⟩ <;> omega
theorem back_2 {L T a b X Y : Int} (hL : 0 ≤ L ∧ L < 128) (hT : 0 ≤ T ∧ T < 8) (ha : 0 ≤ a ∧ a < 32) (hb : 0 ≤ b ∧ b < 32) (hX : 0 ≤ X ∧ X < 128) (hY : 0 ≤ Y ∧ Y < 32) :
    let w := L + T * 4096 + 0 * 33554432 + 0 * 128 + a * 32768 + b * 1048576 + (X * 33554432 + Y * 128)
    (0 ≤ w ∧ w < 4294967296) ∧ w / 32768 % 32 = a ∧ w / 1048576 % 32 = b ∧ w / 33554432 * 33554432 + w / 128 % 32 * 128 = X * 33554432 + Y * 128 := by
  intro w; refine ⟨?_, ?_, ?_, ?_⟩ <;> omega
theorem back_4 {L d X : Int} (hL : 0 ≤ L ∧ L < 128) (hd : 0 ≤ d ∧ d < 32) (hX : 0 ≤ X ∧ X < 1048576) :
    let w := L + 0 * 4096 + 0 * 33554432 + d * 128 + 0 * 32768 + 0 * 1048576 + X * 4096
    (0 ≤ w ∧ w < 4294967296) ∧ w / 128 % 32 = d ∧ w / 4096 * 4096 = X * 4096 := by
  intro w; refine ⟨?_, ?_, ?_⟩ <;> omega
theorem put2_parts (m : Int) : ∃ X Y : Int, (0 ≤ X ∧ X < 128) ∧ (0 ≤ Y ∧ Y < 32) ∧ putW 2 m = X * 33554432 + Y * 128 :=
  ⟨m / 32 % 128, m % 32, by omega, by omega, rfl⟩
theorem put3_parts (m : Int) : ∃ X Y : Int, (0 ≤ X ∧ X < 128) ∧ (0 ≤ Y ∧ Y < 32) ∧ putW 3 m = X * 33554432 + Y * 128 :=
  ⟨m / 4096 % 2 * 64 + m / 32 % 64, m / 2 % 16 * 2 + m / 2048 % 2, by omega, by omega, by show m / 4096 % 2 * 2147483648 + m / 2048 % 2 * 128 + m / 32 % 64 * 33554432 + m / 2 % 16 * 256 = _; omega⟩
theorem put5_parts (m : Int) : ∃ X : Int, (0 ≤ X ∧ X < 1048576) ∧ putW 5 m = X * 4096 :=
  ⟨m / 1048576 % 2 * 524288 + m / 4096 % 256 + m / 2048 % 2 * 256 + m / 2 % 1024 * 512, by omega, by show m / 1048576 % 2 * 2147483648 + m / 4096 % 256 * 4096 + m / 2048 % 2 * 1048576 + m / 2 % 1024 * 2097152 = _; omega⟩

theorem put_num {form n : Int} (f0 : 1 ≤ form) (f1 : form ≤ 5) : numW form n = putW form (n % 4294967296) := by
  unfold numW; rw [if_neg (by omega), if_neg (by omega)]
theorem num_put {form n : Int} (f0 : 1 ≤ form) (f1 : form ≤ 5) (h : numOk form n = true) : putOk form n = true := by
  unfold numOk at h; rwa [if_neg (by omega), if_neg (by omega)] at h
theorem get_back {form n w : Int} (f0 : 1 ≤ form) (f1 : form ≤ 5) (h : numOk form n = true) (e : named form w = putW form (n % 4294967296)) : getS form w = n := by
  rw [← get_named f0 f1 (w := w), e]
  exact put_out (num_put f0 f1 h)
/-- what class 0 has -/
theorem cls_0 {o : Int} (h : 1 ≤ o ∧ o ≤ 18) : rD o = true ∧ rA o = true ∧ rB o = true ∧ formI o = 0 ∧ lowI o = 51 := by
  refine ⟨by unfold rD; simp; omega, by unfold rA; simp; omega, by unfold rB; simp; omega, by unfold formI; rw [if_pos (by omega)], by unfold lowI; rw [if_pos (by omega)]⟩
/-- what class 1 has -/
theorem cls_1 {o : Int} (h : 19 ≤ o ∧ o ≤ 24) : rD o = true ∧ rA o = true ∧ rB o = false ∧ formI o = 1 ∧ lowI o = 19 ∧ sevenI o = 0 := by
  refine ⟨by unfold rD; simp; omega, by unfold rA; simp; omega, by unfold rB; simp; omega, by unfold formI; rw [if_neg (by omega), if_pos (by omega)], by unfold lowI; rw [if_neg (by omega), if_pos (by omega)], by unfold sevenI; rw [if_neg (by omega), if_neg (by omega)]⟩
/-- what class 2 has -/
theorem cls_2 {o : Int} (h : 25 ≤ o ∧ o ≤ 27) : rD o = true ∧ rA o = true ∧ rB o = false ∧ formI o = 6 ∧ lowI o = 19 := by
  refine ⟨by unfold rD; simp; omega, by unfold rA; simp; omega, by unfold rB; simp; omega, by unfold formI; rw [if_neg (by omega), if_neg (by omega), if_pos (by omega)], by unfold lowI; rw [if_neg (by omega), if_pos (by omega)]⟩
/-- what class 3 has -/
theorem cls_3 {o : Int} (h : 28 ≤ o ∧ o ≤ 32) : rD o = true ∧ rA o = true ∧ rB o = false ∧ formI o = 1 ∧ lowI o = 3 ∧ sevenI o = 0 := by
  refine ⟨by unfold rD; simp; omega, by unfold rA; simp; omega, by unfold rB; simp; omega, by unfold formI; rw [if_neg (by omega), if_neg (by omega), if_neg (by omega), if_pos (by omega)], by unfold lowI; rw [if_neg (by omega), if_neg (by omega), if_pos (by omega)], by unfold sevenI; rw [if_neg (by omega), if_neg (by omega)]⟩
/-- what class 4 has -/
theorem cls_4 {o : Int} (h : 33 ≤ o ∧ o ≤ 35) : rD o = false ∧ rA o = true ∧ rB o = true ∧ formI o = 2 ∧ lowI o = 35 ∧ sevenI o = 0 := by
  refine ⟨by unfold rD; simp; omega, by unfold rA; simp; omega, by unfold rB; simp; omega, by unfold formI; rw [if_neg (by omega), if_neg (by omega), if_neg (by omega), if_neg (by omega), if_pos (by omega)], by unfold lowI; rw [if_neg (by omega), if_neg (by omega), if_neg (by omega), if_pos (by omega)], by unfold sevenI; rw [if_neg (by omega), if_neg (by omega)]⟩
/-- what class 5 has -/
theorem cls_5 {o : Int} (h : 36 ≤ o ∧ o ≤ 41) : rD o = false ∧ rA o = true ∧ rB o = true ∧ formI o = 3 ∧ lowI o = 99 ∧ sevenI o = 0 := by
  refine ⟨by unfold rD; simp; omega, by unfold rA; simp; omega, by unfold rB; simp; omega, by unfold formI; rw [if_neg (by omega), if_neg (by omega), if_neg (by omega), if_neg (by omega), if_neg (by omega), if_pos (by omega)], by unfold lowI; rw [if_neg (by omega), if_neg (by omega), if_neg (by omega), if_neg (by omega), if_pos (by omega)], by unfold sevenI; rw [if_neg (by omega), if_neg (by omega)]⟩
/-- what class 6 has -/
theorem cls_6 {o : Int} (h : o = 42) : rD o = true ∧ rA o = false ∧ rB o = false ∧ formI o = 4 ∧ lowI o = 55 ∧ sevenI o = 0 ∧ threeI o = 0 := by
  subst h; decide
/-- what class 7 has -/
theorem cls_7 {o : Int} (h : o = 43) : rD o = true ∧ rA o = false ∧ rB o = false ∧ formI o = 4 ∧ lowI o = 23 ∧ sevenI o = 0 ∧ threeI o = 0 := by
  subst h; decide
/-- what class 8 has -/
theorem cls_8 {o : Int} (h : o = 44) : rD o = true ∧ rA o = false ∧ rB o = false ∧ formI o = 5 ∧ lowI o = 111 ∧ sevenI o = 0 ∧ threeI o = 0 := by
  subst h; decide
/-- what class 9 has -/
theorem cls_9 {o : Int} (h : o = 45) : rD o = true ∧ rA o = true ∧ rB o = false ∧ formI o = 1 ∧ lowI o = 103 ∧ sevenI o = 0 ∧ threeI o = 0 := by
  subst h; decide
/-- what class 10 has -/
theorem cls_10 {o : Int} (h : o = 46) : rD o = false ∧ rA o = false ∧ rB o = false ∧ formI o = 1 ∧ lowI o = 15 ∧ sevenI o = 0 ∧ threeI o = 0 := by
  subst h; decide
/-- what class 11 has -/
theorem cls_11 {o : Int} (h : o = 47) : rD o = false ∧ rA o = false ∧ rB o = false ∧ formI o = 0 ∧ lowI o = 115 ∧ sevenI o = 0 ∧ threeI o = 0 := by
  subst h; decide
/-- what class 12 has -/
theorem cls_12 {o : Int} (h : o = 48) : rD o = false ∧ rA o = false ∧ rB o = false ∧ formI o = 0 ∧ lowI o = 1048691 ∧ sevenI o = 0 ∧ threeI o = 0 := by
  subst h; decide
theorem recw_0 {o d a b i : Int} (C : CanI ⟨o, d, a, b, i⟩) (h : 1 ≤ o ∧ o ≤ 18) : (0 ≤ wordI ⟨o, d, a, b, i⟩ ∧ wordI ⟨o, d, a, b, i⟩ < 4294967296) ∧ recI o (wordI ⟨o, d, a, b, i⟩) = ⟨o, d, a, b, i⟩ := by
  obtain ⟨r1, r2, r3, f, l⟩ := cls_0 h
  obtain ⟨ho, hd, hd0, ha, ha0, hb, hb0, hi⟩ := C
  dsimp only at *
  have hT := three_bd ho
  have hS := seven_bd o
  rw [f] at hi
  unfold recI wordI
  obtain rfl : i = 0 := by simpa [numOk] using hi
  simp only [r1, r2, r3, f, l, numW, if_true, if_false, Int.reduceEq, Q5.mk.injEq, true_and, and_true]
  clear hi r1 r2 r3 f l hd0 ha0 hb0
  refine ⟨⟨by omega, by omega⟩, by omega, by omega, by omega⟩
theorem recw_1 {o d a b i : Int} (C : CanI ⟨o, d, a, b, i⟩) (h : 19 ≤ o ∧ o ≤ 24) : (0 ≤ wordI ⟨o, d, a, b, i⟩ ∧ wordI ⟨o, d, a, b, i⟩ < 4294967296) ∧ recI o (wordI ⟨o, d, a, b, i⟩) = ⟨o, d, a, b, i⟩ := by
  obtain ⟨r1, r2, r3, f, l, s0⟩ := cls_1 h
  obtain ⟨ho, hd, hd0, ha, ha0, hb, hb0, hi⟩ := C
  dsimp only at *
  have hT := three_bd ho
  have hS := seven_bd o
  obtain rfl : b = 0 := hb0 r3
  rw [f] at hi
  unfold recI wordI
  obtain ⟨X, hX, eX⟩ : ∃ X : Int, (0 ≤ X ∧ X < 4096) ∧ putW 1 (i % 4294967296) = X * 1048576 := ⟨i % 4294967296 % 4096, by omega, rfl⟩
  obtain ⟨q1, q2, q3, q4⟩ := back_1 (L := 19) (T := (threeI o)) (d := d) (a := a) (X := X) (by omega) (by omega) (by omega) (by omega) hX
  have G := get_back (form := 1) (by omega) (by omega) hi ((show named 1 _ = _ from q4).trans eX.symm)
  simp only [r1, r2, r3, f, l, s0, put_num (form := 1) (n := i) (by omega) (by omega), eX, if_true, if_false, Bool.false_eq_true, Int.reduceEq]
  refine ⟨q1, ?_⟩
  rw [q2, q3, G]
theorem recw_2 {o d a b i : Int} (C : CanI ⟨o, d, a, b, i⟩) (h : 25 ≤ o ∧ o ≤ 27) : (0 ≤ wordI ⟨o, d, a, b, i⟩ ∧ wordI ⟨o, d, a, b, i⟩ < 4294967296) ∧ recI o (wordI ⟨o, d, a, b, i⟩) = ⟨o, d, a, b, i⟩ := by
  obtain ⟨r1, r2, r3, f, l⟩ := cls_2 h
  obtain ⟨ho, hd, hd0, ha, ha0, hb, hb0, hi⟩ := C
  dsimp only at *
  have hT := three_bd ho
  have hS := seven_bd o
  obtain rfl : b = 0 := hb0 r3
  rw [f] at hi
  unfold recI wordI
  have hi2 : 0 ≤ i ∧ i < 32 := by simpa [numOk] using hi
  simp only [r1, r2, r3, f, l, numW, if_true, if_false, Bool.false_eq_true, Int.reduceEq, Q5.mk.injEq, true_and]
  clear hi r1 r2 r3 f l hd0 ha0 hb0
  refine ⟨⟨by omega, by omega⟩, by omega, by omega, by omega⟩
theorem recw_3 {o d a b i : Int} (C : CanI ⟨o, d, a, b, i⟩) (h : 28 ≤ o ∧ o ≤ 32) : (0 ≤ wordI ⟨o, d, a, b, i⟩ ∧ wordI ⟨o, d, a, b, i⟩ < 4294967296) ∧ recI o (wordI ⟨o, d, a, b, i⟩) = ⟨o, d, a, b, i⟩ := by
  obtain ⟨r1, r2, r3, f, l, s0⟩ := cls_3 h
  obtain ⟨ho, hd, hd0, ha, ha0, hb, hb0, hi⟩ := C
  dsimp only at *
  have hT := three_bd ho
  have hS := seven_bd o
  obtain rfl : b = 0 := hb0 r3
  rw [f] at hi
  unfold recI wordI
  obtain ⟨X, hX, eX⟩ : ∃ X : Int, (0 ≤ X ∧ X < 4096) ∧ putW 1 (i % 4294967296) = X * 1048576 := ⟨i % 4294967296 % 4096, by omega, rfl⟩
  obtain ⟨q1, q2, q3, q4⟩ := back_1 (L := 3) (T := (threeI o)) (d := d) (a := a) (X := X) (by omega) (by omega) (by omega) (by omega) hX
  have G := get_back (form := 1) (by omega) (by omega) hi ((show named 1 _ = _ from q4).trans eX.symm)
  simp only [r1, r2, r3, f, l, s0, put_num (form := 1) (n := i) (by omega) (by omega), eX, if_true, if_false, Bool.false_eq_true, Int.reduceEq]
  refine ⟨q1, ?_⟩
  rw [q2, q3, G]
theorem recw_4 {o d a b i : Int} (C : CanI ⟨o, d, a, b, i⟩) (h : 33 ≤ o ∧ o ≤ 35) : (0 ≤ wordI ⟨o, d, a, b, i⟩ ∧ wordI ⟨o, d, a, b, i⟩ < 4294967296) ∧ recI o (wordI ⟨o, d, a, b, i⟩) = ⟨o, d, a, b, i⟩ := by
  obtain ⟨r1, r2, r3, f, l, s0⟩ := cls_4 h
  obtain ⟨ho, hd, hd0, ha, ha0, hb, hb0, hi⟩ := C
  dsimp only at *
  have hT := three_bd ho
  have hS := seven_bd o
  obtain rfl : d = 0 := hd0 r1
  rw [f] at hi
  unfold recI wordI
  obtain ⟨X, Y, hX, hY, eX⟩ := put2_parts (i % 4294967296)
  obtain ⟨q1, q2, q3, q4⟩ := back_2 (L := 35) (T := threeI o) (a := a) (b := b) (by omega) hT ha hb hX hY
  have G := get_back (form := 2) (by omega) (by omega) hi ((show named 2 _ = _ from q4).trans eX.symm)
  simp only [r1, r2, r3, f, l, s0, put_num (form := 2) (n := i) (by omega) (by omega), eX, if_true, if_false, Bool.false_eq_true, Int.reduceEq]
  refine ⟨q1, ?_⟩
  rw [q2, q3, G]
theorem recw_5 {o d a b i : Int} (C : CanI ⟨o, d, a, b, i⟩) (h : 36 ≤ o ∧ o ≤ 41) : (0 ≤ wordI ⟨o, d, a, b, i⟩ ∧ wordI ⟨o, d, a, b, i⟩ < 4294967296) ∧ recI o (wordI ⟨o, d, a, b, i⟩) = ⟨o, d, a, b, i⟩ := by
  obtain ⟨r1, r2, r3, f, l, s0⟩ := cls_5 h
  obtain ⟨ho, hd, hd0, ha, ha0, hb, hb0, hi⟩ := C
  dsimp only at *
  have hT := three_bd ho
  have hS := seven_bd o
  obtain rfl : d = 0 := hd0 r1
  rw [f] at hi
  unfold recI wordI
  obtain ⟨X, Y, hX, hY, eX⟩ := put3_parts (i % 4294967296)
  obtain ⟨q1, q2, q3, q4⟩ := back_2 (L := 99) (T := threeI o) (a := a) (b := b) (by omega) hT ha hb hX hY
  have G := get_back (form := 3) (by omega) (by omega) hi ((show named 3 _ = _ from q4).trans eX.symm)
  simp only [r1, r2, r3, f, l, s0, put_num (form := 3) (n := i) (by omega) (by omega), eX, if_true, if_false, Bool.false_eq_true, Int.reduceEq]
  refine ⟨q1, ?_⟩
  rw [q2, q3, G]
theorem recw_6 {o d a b i : Int} (C : CanI ⟨o, d, a, b, i⟩) (h : o = 42) : (0 ≤ wordI ⟨o, d, a, b, i⟩ ∧ wordI ⟨o, d, a, b, i⟩ < 4294967296) ∧ recI o (wordI ⟨o, d, a, b, i⟩) = ⟨o, d, a, b, i⟩ := by
  obtain ⟨r1, r2, r3, f, l, s0, th⟩ := cls_6 h
  obtain ⟨ho, hd, hd0, ha, ha0, hb, hb0, hi⟩ := C
  dsimp only at *
  have hT := three_bd ho
  have hS := seven_bd o
  obtain rfl : a = 0 := ha0 r2
  obtain rfl : b = 0 := hb0 r3
  rw [f] at hi
  unfold recI wordI
  obtain ⟨X, hX, eX⟩ : ∃ X : Int, (0 ≤ X ∧ X < 1048576) ∧ putW 4 (i % 4294967296) = X * 4096 := ⟨i % 4294967296 / 4096 % 1048576, by omega, rfl⟩
  obtain ⟨q1, q2, q3⟩ := back_4 (L := 55) (by omega) hd hX
  have G := get_back (form := 4) (by omega) (by omega) hi ((show named 4 _ = _ from q3).trans eX.symm)
  simp only [r1, r2, r3, f, l, s0, th, put_num (form := 4) (n := i) (by omega) (by omega), eX, if_true, if_false, Bool.false_eq_true, Int.reduceEq]
  refine ⟨q1, ?_⟩
  rw [q2, G]
theorem recw_7 {o d a b i : Int} (C : CanI ⟨o, d, a, b, i⟩) (h : o = 43) : (0 ≤ wordI ⟨o, d, a, b, i⟩ ∧ wordI ⟨o, d, a, b, i⟩ < 4294967296) ∧ recI o (wordI ⟨o, d, a, b, i⟩) = ⟨o, d, a, b, i⟩ := by
  obtain ⟨r1, r2, r3, f, l, s0, th⟩ := cls_7 h
  obtain ⟨ho, hd, hd0, ha, ha0, hb, hb0, hi⟩ := C
  dsimp only at *
  have hT := three_bd ho
  have hS := seven_bd o
  obtain rfl : a = 0 := ha0 r2
  obtain rfl : b = 0 := hb0 r3
  rw [f] at hi
  unfold recI wordI
  obtain ⟨X, hX, eX⟩ : ∃ X : Int, (0 ≤ X ∧ X < 1048576) ∧ putW 4 (i % 4294967296) = X * 4096 := ⟨i % 4294967296 / 4096 % 1048576, by omega, rfl⟩
  obtain ⟨q1, q2, q3⟩ := back_4 (L := 23) (by omega) hd hX
  have G := get_back (form := 4) (by omega) (by omega) hi ((show named 4 _ = _ from q3).trans eX.symm)
  simp only [r1, r2, r3, f, l, s0, th, put_num (form := 4) (n := i) (by omega) (by omega), eX, if_true, if_false, Bool.false_eq_true, Int.reduceEq]
  refine ⟨q1, ?_⟩
  rw [q2, G]
theorem recw_8 {o d a b i : Int} (C : CanI ⟨o, d, a, b, i⟩) (h : o = 44) : (0 ≤ wordI ⟨o, d, a, b, i⟩ ∧ wordI ⟨o, d, a, b, i⟩ < 4294967296) ∧ recI o (wordI ⟨o, d, a, b, i⟩) = ⟨o, d, a, b, i⟩ := by
  obtain ⟨r1, r2, r3, f, l, s0, th⟩ := cls_8 h
  obtain ⟨ho, hd, hd0, ha, ha0, hb, hb0, hi⟩ := C
  dsimp only at *
  have hT := three_bd ho
  have hS := seven_bd o
  obtain rfl : a = 0 := ha0 r2
  obtain rfl : b = 0 := hb0 r3
  rw [f] at hi
  unfold recI wordI
  obtain ⟨X, hX, eX⟩ := put5_parts (i % 4294967296)
  obtain ⟨q1, q2, q3⟩ := back_4 (L := 111) (by omega) hd hX
  have G := get_back (form := 5) (by omega) (by omega) hi ((show named 5 _ = _ from q3).trans eX.symm)
  simp only [r1, r2, r3, f, l, s0, th, put_num (form := 5) (n := i) (by omega) (by omega), eX, if_true, if_false, Bool.false_eq_true, Int.reduceEq]
  refine ⟨q1, ?_⟩
  rw [q2, G]
theorem recw_9 {o d a b i : Int} (C : CanI ⟨o, d, a, b, i⟩) (h : o = 45) : (0 ≤ wordI ⟨o, d, a, b, i⟩ ∧ wordI ⟨o, d, a, b, i⟩ < 4294967296) ∧ recI o (wordI ⟨o, d, a, b, i⟩) = ⟨o, d, a, b, i⟩ := by
  obtain ⟨r1, r2, r3, f, l, s0, th⟩ := cls_9 h
  obtain ⟨ho, hd, hd0, ha, ha0, hb, hb0, hi⟩ := C
  dsimp only at *
  have hT := three_bd ho
  have hS := seven_bd o
  obtain rfl : b = 0 := hb0 r3
  rw [f] at hi
  unfold recI wordI
  obtain ⟨X, hX, eX⟩ : ∃ X : Int, (0 ≤ X ∧ X < 4096) ∧ putW 1 (i % 4294967296) = X * 1048576 := ⟨i % 4294967296 % 4096, by omega, rfl⟩
  obtain ⟨q1, q2, q3, q4⟩ := back_1 (L := 103) (T := 0) (d := d) (a := a) (X := X) (by omega) (by omega) (by omega) (by omega) hX
  have G := get_back (form := 1) (by omega) (by omega) hi ((show named 1 _ = _ from q4).trans eX.symm)
  simp only [r1, r2, r3, f, l, s0, th, put_num (form := 1) (n := i) (by omega) (by omega), eX, if_true, if_false, Bool.false_eq_true, Int.reduceEq]
  refine ⟨q1, ?_⟩
  rw [q2, q3, G]
theorem recw_10 {o d a b i : Int} (C : CanI ⟨o, d, a, b, i⟩) (h : o = 46) : (0 ≤ wordI ⟨o, d, a, b, i⟩ ∧ wordI ⟨o, d, a, b, i⟩ < 4294967296) ∧ recI o (wordI ⟨o, d, a, b, i⟩) = ⟨o, d, a, b, i⟩ := by
  obtain ⟨r1, r2, r3, f, l, s0, th⟩ := cls_10 h
  obtain ⟨ho, hd, hd0, ha, ha0, hb, hb0, hi⟩ := C
  dsimp only at *
  have hT := three_bd ho
  have hS := seven_bd o
  obtain rfl : d = 0 := hd0 r1
  obtain rfl : a = 0 := ha0 r2
  obtain rfl : b = 0 := hb0 r3
  rw [f] at hi
  unfold recI wordI
  obtain ⟨X, hX, eX⟩ : ∃ X : Int, (0 ≤ X ∧ X < 4096) ∧ putW 1 (i % 4294967296) = X * 1048576 := ⟨i % 4294967296 % 4096, by omega, rfl⟩
  obtain ⟨q1, q2, q3, q4⟩ := back_1 (L := 15) (T := 0) (d := 0) (a := 0) (X := X) (by omega) (by omega) (by omega) (by omega) hX
  have G := get_back (form := 1) (by omega) (by omega) hi ((show named 1 _ = _ from q4).trans eX.symm)
  simp only [r1, r2, r3, f, l, s0, th, put_num (form := 1) (n := i) (by omega) (by omega), eX, if_false, Bool.false_eq_true, Int.reduceEq]
  refine ⟨q1, ?_⟩
  rw [G]
theorem recw_11 {o d a b i : Int} (C : CanI ⟨o, d, a, b, i⟩) (h : o = 47) : (0 ≤ wordI ⟨o, d, a, b, i⟩ ∧ wordI ⟨o, d, a, b, i⟩ < 4294967296) ∧ recI o (wordI ⟨o, d, a, b, i⟩) = ⟨o, d, a, b, i⟩ := by
  obtain ⟨r1, r2, r3, f, l, s0, th⟩ := cls_11 h
  obtain ⟨ho, hd, hd0, ha, ha0, hb, hb0, hi⟩ := C
  dsimp only at *
  have hT := three_bd ho
  have hS := seven_bd o
  obtain rfl : d = 0 := hd0 r1
  obtain rfl : a = 0 := ha0 r2
  obtain rfl : b = 0 := hb0 r3
  rw [f] at hi
  unfold recI wordI
  obtain rfl : i = 0 := by simpa [numOk] using hi
  simp only [r1, r2, r3, f, l, s0, th, numW, if_true, if_false, Bool.false_eq_true, Int.reduceEq, and_true]
  clear hi r1 r2 r3 f l hd0 ha0 hb0
  omega
theorem recw_12 {o d a b i : Int} (C : CanI ⟨o, d, a, b, i⟩) (h : o = 48) : (0 ≤ wordI ⟨o, d, a, b, i⟩ ∧ wordI ⟨o, d, a, b, i⟩ < 4294967296) ∧ recI o (wordI ⟨o, d, a, b, i⟩) = ⟨o, d, a, b, i⟩ := by
  obtain ⟨r1, r2, r3, f, l, s0, th⟩ := cls_12 h
  obtain ⟨ho, hd, hd0, ha, ha0, hb, hb0, hi⟩ := C
  dsimp only at *
  have hT := three_bd ho
  have hS := seven_bd o
  obtain rfl : d = 0 := hd0 r1
  obtain rfl : a = 0 := ha0 r2
  obtain rfl : b = 0 := hb0 r3
  rw [f] at hi
  unfold recI wordI
  obtain rfl : i = 0 := by simpa [numOk] using hi
  simp only [r1, r2, r3, f, l, s0, th, numW, if_true, if_false, Bool.false_eq_true, Int.reduceEq, and_true]
  clear hi r1 r2 r3 f l hd0 ha0 hb0
  omega
/-- the word's number lies within 32 bits, and the instruction comes back from it -/
theorem rec_word {x : Q5} (C : CanI x) : (0 ≤ wordI x ∧ wordI x < 4294967296) ∧ recI x.o (wordI x) = x := by
  obtain ⟨o, d, a, b, i⟩ := x
  have ho : 1 ≤ o ∧ o ≤ 48 := C.ho
  have cs : (1 ≤ o ∧ o ≤ 18) ∨ (19 ≤ o ∧ o ≤ 24) ∨ (25 ≤ o ∧ o ≤ 27) ∨ (28 ≤ o ∧ o ≤ 32) ∨ (33 ≤ o ∧ o ≤ 35) ∨ (36 ≤ o ∧ o ≤ 41) ∨ (o = 42) ∨ (o = 43) ∨ (o = 44) ∨ (o = 45) ∨ (o = 46) ∨ (o = 47) ∨ (o = 48) := by omega
  rcases cs with h | h | h | h | h | h | h | h | h | h | h | h | h
  · exact recw_0 C h
  · exact recw_1 C h
  · exact recw_2 C h
  · exact recw_3 C h
  · exact recw_4 C h
  · exact recw_5 C h
  · exact recw_6 C h
  · exact recw_7 C h
  · exact recw_8 C h
  · exact recw_9 C h
  · exact recw_10 C h
  · exact recw_11 C h
  · exact recw_12 C h
theorem word_op {x : Q5} (C : CanI x) : opI (wordI x) = x.o := by
  obtain ⟨⟨h0, h1⟩, e⟩ := rec_word C
  refine (fit_op h0 h1 C.ho).1 ⟨can_rec h0 h1 C.ho, ?_⟩
  rw [e]
theorem opI_bd (w : Int) (h0 : 0 ≤ w) (h1 : w < 4294967296) : 0 ≤ opI w ∧ opI w ≤ 48 := by
  have f := fun l => findI_cases (w / 4096 % 8) l
  unfold opI
  have g (l : List Int) (hl : ∀ o ∈ l, 0 ≤ o ∧ o ≤ 48) : 0 ≤ findI (w / 4096 % 8) l ∧ findI (w / 4096 % 8) l ≤ 48 := by
    rcases f l with h | h
    · omega
    · exact hl _ h
  have g1 := g [1, 2, 3, 4, 5, 6, 7, 8, 9, 10] (by decide)
  have g2 := g [19, 20, 21, 22, 23, 24] (by decide)
  have g3 := g [28, 29, 30, 31, 32] (by decide)
  have g4 := g [33, 34, 35] (by decide)
  have g5 := g [36, 37, 38, 39, 40, 41] (by decide)
  have g6 := g [45] (by decide)
  clear f g
  repeat' (first | (apply ite_bd <;> intro _))
  all_goals omega
theorem or_up (k P : Nat) (hP : P = 2 ^ k) {x y : Int} (h0 : 0 ≤ x) (h1 : x < P) (g0 : 0 ≤ y) (g1 : y < 4294967296) (hy : y % P = 0) (hk : P ≤ 4294967296) :
    bits .or .u32 x y = x + y := by
  rw [u32_or x y h0 (by omega) g0 g1, Nat.or_comm]
  have hy' : y.toNat % 2 ^ k = 0 := by
    have : ((y.toNat % P : Nat) : Int) = y % P := by rw [Int.natCast_emod]; congr 1; omega
    rw [← hP]; omega
  rw [nat_join k y.toNat x.toNat hy' (by rw [← hP]; omega)]
  omega
theorem nat_gap (j k : Nat) {l n h : Nat} (h1 : l < 2 ^ j) (h2 : n % 2 ^ j = 0) (h3 : n + l < 2 ^ k) (h4 : h % 2 ^ k = 0) (h5 : l < 2 ^ k) : (h + l) ||| n = h + l + n := by
  have e : (h + l) ||| n = h + (n + l) := by
    rw [← nat_join k h l h4 h5, Nat.or_assoc, Nat.or_comm l n, nat_join j n l h2 h1, nat_join k h (n + l) h4 h3]
  rw [e]; omega
theorem or_gap (j k J K : Nat) (hJ : J = 2 ^ j) (hK : K = 2 ^ k) {l n h : Int} (l0 : 0 ≤ l) (l1 : l < J) (n0 : 0 ≤ n) (n1 : n % J = 0) (n2 : n + l < K) (k0 : 0 ≤ h) (k1 : h % K = 0) (lk : l < K) (s : h + l < 4294967296) (s2 : n < 4294967296) :
    bits .or .u32 (l + h) n = l + h + n := by
  rw [u32_or (l + h) n (by omega) (by omega) n0 s2]
  have e : (l + h).toNat = h.toNat + l.toNat := by omega
  have a1 : n.toNat % 2 ^ j = 0 := by
    have : ((n.toNat % J : Nat) : Int) = n % J := by rw [Int.natCast_emod]; congr 1; omega
    rw [← hJ]; omega
  have a2 : h.toNat % 2 ^ k = 0 := by
    have : ((h.toNat % K : Nat) : Int) = h % K := by rw [Int.natCast_emod]; congr 1; omega
    rw [← hK]; omega
  rw [e, nat_gap j k (by rw [← hJ]; omega) a1 (by rw [← hK]; omega) a2 (by rw [← hK]; omega)]
  omega
/-- the parts of a word, put together, are their sum -/
def baseW (L T S d a b : Int) : Int := L + d * 128 + T * 4096 + a * 32768 + b * 1048576 + S * 33554432
theorem base_or {L T S d a b : Int} (hL : 0 ≤ L ∧ L < 128) (hT : 0 ≤ T ∧ T < 8) (hS : 0 ≤ S ∧ S < 128) (hd : 0 ≤ d ∧ d < 32) (ha : 0 ≤ a ∧ a < 32) (hb : 0 ≤ b ∧ b < 32) :
    bits .or .u32 (bits .or .u32 (bits .or .u32 (bits .or .u32 (bits .or .u32 L (d * 128)) (T * 4096)) (a * 32768)) (b * 1048576)) (S * 33554432) = baseW L T S d a b := by
  unfold baseW
  rw [or_up 7 128 rfl (x := L) (y := d * 128) (by omega) (by omega) (by omega) (by omega) (by omega) (by omega)]
  rw [or_up 12 4096 rfl (x := L + d * 128) (y := T * 4096) (by omega) (by omega) (by omega) (by omega) (by omega) (by omega)]
  rw [or_up 15 32768 rfl (x := L + d * 128 + T * 4096) (y := a * 32768) (by omega) (by omega) (by omega) (by omega) (by omega) (by omega)]
  rw [or_up 20 1048576 rfl (x := L + d * 128 + T * 4096 + a * 32768) (y := b * 1048576) (by omega) (by omega) (by omega) (by omega) (by omega) (by omega)]
  rw [or_up 25 33554432 rfl (x := L + d * 128 + T * 4096 + a * 32768 + b * 1048576) (y := S * 33554432) (by omega) (by omega) (by omega) (by omega) (by omega) (by omega)]
theorem base_bd {L T S d a b : Int} (hL : 0 ≤ L ∧ L < 128) (hT : 0 ≤ T ∧ T < 8) (hS : 0 ≤ S ∧ S < 128) (hd : 0 ≤ d ∧ d < 32) (ha : 0 ≤ a ∧ a < 32) (hb : 0 ≤ b ∧ b < 32) : 0 ≤ baseW L T S d a b ∧ baseW L T S d a b < 4294967296 := by
  unfold baseW; omega
theorem or_1 {L T d a X : Int} (hL : 0 ≤ L ∧ L < 128) (hT : 0 ≤ T ∧ T < 8) (hd : 0 ≤ d ∧ d < 32) (ha : 0 ≤ a ∧ a < 32) (hX : 0 ≤ X ∧ X < 4096) :
    bits .or .u32 (baseW L T 0 d a 0) (X * 1048576) = L + T * 4096 + 0 * 33554432 + d * 128 + a * 32768 + 0 * 1048576 + X * 1048576 := by
  unfold baseW
  rw [or_up 20 1048576 rfl (by omega) (by omega) (by omega) (by omega) (by omega) (by omega)]
  omega
theorem or_6 {L T S d a X : Int} (hL : 0 ≤ L ∧ L < 128) (hT : 0 ≤ T ∧ T < 8) (hS : 0 ≤ S ∧ S < 128) (hd : 0 ≤ d ∧ d < 32) (ha : 0 ≤ a ∧ a < 32) (hX : 0 ≤ X ∧ X < 32) :
    bits .or .u32 (baseW L T S d a 0) (X * 1048576) = L + T * 4096 + S * 33554432 + d * 128 + a * 32768 + 0 * 1048576 + X * 1048576 := by
  have e : baseW L T S d a 0 = (L + d * 128 + T * 4096 + a * 32768) + S * 33554432 := by unfold baseW; omega
  rw [e, or_gap 20 25 1048576 33554432 rfl rfl (by omega) (by omega) (by omega) (by omega) (by omega) (by omega) (by omega) (by omega) (by omega) (by omega)]
  omega
theorem or_2 {L T a b X Y : Int} (hL : 0 ≤ L ∧ L < 128) (hT : 0 ≤ T ∧ T < 8) (ha : 0 ≤ a ∧ a < 32) (hb : 0 ≤ b ∧ b < 32) (hX : 0 ≤ X ∧ X < 128) (hY : 0 ≤ Y ∧ Y < 32) :
    bits .or .u32 (baseW L T 0 0 a b) (X * 33554432 + Y * 128) = L + T * 4096 + 0 * 33554432 + 0 * 128 + a * 32768 + b * 1048576 + (X * 33554432 + Y * 128) := by
  have e : baseW L T 0 0 a b = L + (T * 4096 + a * 32768 + b * 1048576) := by unfold baseW; omega
  have e2 : X * 33554432 + Y * 128 = bits .or .u32 (Y * 128) (X * 33554432) := by
    rw [or_up 25 33554432 rfl (by omega) (by omega) (by omega) (by omega) (by omega) (by omega)]; omega
  have g := or_gap 7 12 128 4096 rfl rfl (l := L) (n := Y * 128) (h := T * 4096 + a * 32768 + b * 1048576) (by omega) (by omega) (by omega) (by omega) (by omega) (by omega) (by omega) (by omega) (by omega) (by omega)
  have g2 := or_up 25 33554432 rfl (x := L + (T * 4096 + a * 32768 + b * 1048576) + Y * 128) (y := X * 33554432) (by omega) (by omega) (by omega) (by omega) (by omega) (by omega)
  have asc : bits .or .u32 (L + (T * 4096 + a * 32768 + b * 1048576)) (bits .or .u32 (Y * 128) (X * 33554432)) = bits .or .u32 (bits .or .u32 (L + (T * 4096 + a * 32768 + b * 1048576)) (Y * 128)) (X * 33554432) := by
    rw [← e2, u32_or _ _ (by omega) (by omega) (by omega) (by omega), g, u32_or _ _ (by omega) (by omega) (by omega) (by omega)]
    have t1 : (X * 33554432 + Y * 128).toNat = (X * 33554432).toNat ||| (Y * 128).toNat := by
      rw [nat_join 25 _ _ (by omega) (by omega)]; omega
    have t2 : (L + (T * 4096 + a * 32768 + b * 1048576) + Y * 128).toNat = (L + (T * 4096 + a * 32768 + b * 1048576)).toNat ||| (Y * 128).toNat := by
      have := g
      rw [u32_or _ _ (by omega) (by omega) (by omega) (by omega)] at this
      omega
    rw [t1, t2, Nat.or_comm (X * 33554432).toNat, Nat.or_assoc]
  rw [e, e2, asc, g, g2]
  rw [← e2]
  omega
theorem or_4 {L d X : Int} (hL : 0 ≤ L ∧ L < 128) (hd : 0 ≤ d ∧ d < 32) (hX : 0 ≤ X ∧ X < 1048576) :
    bits .or .u32 (baseW L 0 0 d 0 0) (X * 4096) = L + 0 * 4096 + 0 * 33554432 + d * 128 + 0 * 32768 + 0 * 1048576 + X * 4096 := by
  unfold baseW
  rw [or_up 12 4096 rfl (by omega) (by omega) (by omega) (by omega) (by omega) (by omega)]
  omega
theorem low_bd {o : Int} (h : 1 ≤ o ∧ o ≤ 46) : 0 ≤ lowI o ∧ lowI o < 128 := by
  have cs : (1 ≤ o ∧ o ≤ 18) ∨ (19 ≤ o ∧ o ≤ 24) ∨ (25 ≤ o ∧ o ≤ 27) ∨ (28 ≤ o ∧ o ≤ 32) ∨ (33 ≤ o ∧ o ≤ 35) ∨ (36 ≤ o ∧ o ≤ 41) ∨ (o = 42) ∨ (o = 43) ∨ (o = 44) ∨ (o = 45) ∨ (o = 46) := by omega
  rcases cs with c | c | c | c | c | c | c | c | c | c | c
  · rw [(cls_0 c).2.2.2.2]; omega
  · rw [(cls_1 c).2.2.2.2.1]; omega
  · rw [(cls_2 c).2.2.2.2]; omega
  · rw [(cls_3 c).2.2.2.2.1]; omega
  · rw [(cls_4 c).2.2.2.2.1]; omega
  · rw [(cls_5 c).2.2.2.2.1]; omega
  · rw [(cls_6 c).2.2.2.2.1]; omega
  · rw [(cls_7 c).2.2.2.2.1]; omega
  · rw [(cls_8 c).2.2.2.2.1]; omega
  · rw [(cls_9 c).2.2.2.2.1]; omega
  · rw [(cls_10 c).2.2.2.2.1]; omega
/-- the word with its number -/
theorem word_or {x : Q5} (C : CanI x) (h : 19 ≤ x.o) (ho : x.o ≤ 46) :
    bits .or .u32 (baseW (lowI x.o) (threeI x.o) (sevenI x.o) x.d x.a x.b) (putR (formL x.o) x.i) = wordI x := by
  obtain ⟨o, d, a, b, i⟩ := x
  obtain ⟨ho', hd, hd0, ha, ha0, hb, hb0, hi⟩ := C
  dsimp only at *
  have hT := three_bd ho'
  have hS := seven_bd o
  have low := low_bd (o := o) (by omega)
  have pr : ∀ form : Int, 1 ≤ form ∧ form ≤ 5 → numOk form i = true → putR form i = putW form (i % 4294967296) := fun form hf hn => by
    unfold putR; rw [num_put hf.1 hf.2 hn]; rfl
  have fl : formI o ≠ 6 → formL o = formI o := fun h => by unfold formL; rw [if_neg h]
  unfold wordI
  dsimp only
  have cs : (19 ≤ o ∧ o ≤ 24) ∨ (25 ≤ o ∧ o ≤ 27) ∨ (28 ≤ o ∧ o ≤ 32) ∨ (33 ≤ o ∧ o ≤ 35) ∨ (36 ≤ o ∧ o ≤ 41) ∨ (o = 42) ∨ (o = 43) ∨ (o = 44) ∨ (o = 45) ∨ (o = 46) := by omega
  rcases cs with c | c | c | c | c | c | c | c | c | c
  · obtain ⟨r1, r2, r3, f, l, s⟩ := cls_1 c
    rw [f] at hi
    rw [fl (by omega), f, s, hb0 r3, pr 1 (by omega) hi, put_num (by omega) (by omega)]
    exact or_1 low hT hd ha (X := i % 4294967296 % 4096) (by omega)
  · obtain ⟨r1, r2, r3, f, l⟩ := cls_2 c
    rw [f] at hi
    have hi2 : 0 ≤ i ∧ i < 32 := by simpa [numOk] using hi
    have e : formL o = 1 := by unfold formL; rw [f]; rfl
    have p : putR 1 i = i * 1048576 := by
      have : putOk 1 i = true := decide_eq_true ⟨by omega, by omega, (has_iff (by omega) (by omega) (by omega) (by omega)).2 (by show -2048 ≤ i ∧ i ≤ 2047; omega)⟩
      unfold putR; rw [this]
      show i % 4294967296 % 4096 * 1048576 = _
      omega
    rw [e, f, hb0 r3, p]
    exact or_6 low hT hS hd ha hi2
  · obtain ⟨r1, r2, r3, f, l, s⟩ := cls_3 c
    rw [f] at hi
    rw [fl (by omega), f, s, hb0 r3, pr 1 (by omega) hi, put_num (by omega) (by omega)]
    exact or_1 low hT hd ha (X := i % 4294967296 % 4096) (by omega)
  · obtain ⟨r1, r2, r3, f, l, s⟩ := cls_4 c
    rw [f] at hi
    obtain ⟨X, Y, hX, hY, eX⟩ := put2_parts (i % 4294967296)
    rw [fl (by omega), f, s, hd0 r1, pr 2 (by omega) hi, put_num (by omega) (by omega), eX]
    exact or_2 low hT ha hb hX hY
  · obtain ⟨r1, r2, r3, f, l, s⟩ := cls_5 c
    rw [f] at hi
    obtain ⟨X, Y, hX, hY, eX⟩ := put3_parts (i % 4294967296)
    rw [fl (by omega), f, s, hd0 r1, pr 3 (by omega) hi, put_num (by omega) (by omega), eX]
    exact or_2 low hT ha hb hX hY
  · obtain ⟨r1, r2, r3, f, l, s, th⟩ := cls_6 c
    rw [f] at hi
    rw [fl (by omega), f, s, th, ha0 r2, hb0 r3, pr 4 (by omega) hi, put_num (by omega) (by omega)]
    exact or_4 low hd (X := i % 4294967296 / 4096 % 1048576) (by omega)
  · obtain ⟨r1, r2, r3, f, l, s, th⟩ := cls_7 c
    rw [f] at hi
    rw [fl (by omega), f, s, th, ha0 r2, hb0 r3, pr 4 (by omega) hi, put_num (by omega) (by omega)]
    exact or_4 low hd (X := i % 4294967296 / 4096 % 1048576) (by omega)
  · obtain ⟨r1, r2, r3, f, l, s, th⟩ := cls_8 c
    rw [f] at hi
    obtain ⟨X, hX, eX⟩ := put5_parts (i % 4294967296)
    rw [fl (by omega), f, s, th, ha0 r2, hb0 r3, pr 5 (by omega) hi, put_num (by omega) (by omega), eX]
    exact or_4 low hd hX
  · obtain ⟨r1, r2, r3, f, l, s, th⟩ := cls_9 c
    rw [f] at hi
    rw [fl (by omega), f, s, th, hb0 r3, pr 1 (by omega) hi, put_num (by omega) (by omega)]
    exact or_1 low (by omega) hd ha (X := i % 4294967296 % 4096) (by omega)
  · obtain ⟨r1, r2, r3, f, l, s, th⟩ := cls_10 c
    rw [f] at hi
    rw [fl (by omega), f, s, th, hd0 r1, ha0 r2, hb0 r3, pr 1 (by omega) hi, put_num (by omega) (by omega)]
    exact or_1 low (by omega) (by omega) (by omega) (X := i % 4294967296 % 4096) (by omega)
theorem word_plain {x : Q5} (C : CanI x) (h : x.o ≤ 18) : baseW (lowI x.o) (threeI x.o) (sevenI x.o) x.d x.a x.b = wordI x := by
  obtain ⟨o, d, a, b, i⟩ := x
  obtain ⟨ho', hd, hd0, ha, ha0, hb, hb0, hi⟩ := C
  dsimp only at *
  obtain ⟨r1, r2, r3, f, l⟩ := cls_0 (o := o) (by omega)
  unfold wordI baseW
  dsimp only
  rw [f]
  show _ = _ + 0
  omega
end Go.Proofs.YtipecnofjdhobaaDoor
