/- The document's may: an item that can be. -/
import Derived.Test.YtipecnofjdhobaaDoorRxB
import Derived.Test.YtipecnofjdhobaaDoorInstS
namespace Go.Proofs.YtipecnofjdhobaaDoor
open Go Go.RowKit Go.Maps Pl
set_option linter.unusedVariables false
set_option linter.unusedSimpArgs false
set_option maxRecDepth 100000

theorem renc_is (o d a b i : Int) (R : Bool) (hR : canI ⟨o, d, a, b, i⟩ = R) (w : World) (i0 : -2147483648 ≤ i) (i1 : i ≤ 2147483647) :
    Calls Tryd.prog 18 #[.agg #[.int .i64 o, .int .i64 d, .int .i64 a, .int .i64 b, .int .i32 i]] w fun e w' => (∃ z, e = .returned (.tuple #[.int .u32 z, .bool R])) ∧ Below w.heap.size w w' := by
  have h := renc_any o d a b i w i0 i1
  unfold EncP at h
  rw [hR] at h
  exact h.mono fun e w' ⟨h1, h2⟩ => ⟨⟨_, h1⟩, h2⟩
theorem may_mk {w w2 : World} {x : Bool} (hb : Below w.heap.size w w2) (h : x = true) : Ending.returned (.bool x) = Ending.returned (.bool true) ∧ Below w.heap.size w w2 := ⟨by rw [h], hb⟩
set_option maxHeartbeats 4000000 in
theorem may_1 (kd o d a b i l : Int) (w : World) (i0 : -2147483648 ≤ i) (i1 : i ≤ 2147483647) (hk : kd = 1) (hC : canI ⟨o, d, a, b, i⟩ = true) :
    Calls Tryd.prog 22 #[.agg #[.int .i64 kd, .int .i64 o, .int .i64 d, .int .i64 a, .int .i64 b, .int .i32 i, .int .i64 l]] w fun e w' => e = .returned (.bool true) ∧ Below w.heap.size w w' := by
  have RA := Lib.hid (RowAt.new w [.int .i64 kd, .int .i64 o, .int .i64 d, .int .i64 a, .int .i64 b, .int .i32 i, .int .i64 l] 41)
  have BA := Lib.hid (Below.alloc (Below.refl w.heap.size w) (Nat.le_refl _) (.cells #[.int .i64 kd, .int .i64 o, .int .i64 d, .int .i64 a, .int .i64 b, .int .i32 i, .int .i64 l] 41))
  have t1 : (kd == 1) = true := by rw [hk]; rfl
  have hENC := Lib.hid (fun W => renc_is o d a b i true hC W (by omega) (by omega))
  clear hC
  clear hk
  go_enter Tryd.func22, Tryd.ntmps22
  go_upto_region 1 with fail
  obtain ⟨A, hA⟩ : ∃ A, A = w.heap.size := ⟨_, rfl⟩
  rw [← hA] at RA ⊢
  have HAW := Lib.hid (show w.heap.size ≤ A by omega)
  obtain ⟨W1, hW1⟩ : ∃ W, W = w.alloc (.cells #[.int .i64 kd, .int .i64 o, .int .i64 d, .int .i64 a, .int .i64 b, .int .i32 i, .int .i64 l] 41) := ⟨_, rfl⟩
  have hE : w.alloc (.cells [.int .i64 kd, .int .i64 o, .int .i64 d, .int .i64 a, .int .i64 b, .int .i32 i, .int .i64 l].toArray 41) = W1 := by rw [hW1]
  rw [hE] at RA
  rw [← hW1] at BA ⊢
  clear hE hW1 hA
  have c1 := RA.out.cell 1 _ rfl
  have c2 := RA.out.cell 2 _ rfl
  have c3 := RA.out.cell 3 _ rfl
  have c4 := RA.out.cell 4 _ rfl
  have c5 := RA.out.cell 5 _ rfl
  have cl := RA.out.lt
  go_wp2_with (go_at_call 18; refine (hENC.out _).mono ?_; rintro e w5 ⟨⟨z, rfl⟩, hb5⟩; have HB5 := Lib.hid (below_call BA.out hb5); have RA5 := Lib.hid (RA.out.over hb5); clear hb5 c1 c2 c3 c4 c5 cl; have c0 := RA5.out.cell 0 _ rfl; have c1 := RA5.out.cell 1 _ rfl; have c2 := RA5.out.cell 2 _ rfl; have c3 := RA5.out.cell 3 _ rfl; have c4 := RA5.out.cell 4 _ rfl; have c5 := RA5.out.cell 5 _ rfl; have cl := RA5.out.lt)
  go_ret
  exact may_mk (below_call HB5.out (Below.alloc (Below.refl _ _) (Nat.le_refl _) _)) (by first | rfl | decide)
set_option maxHeartbeats 4000000 in
theorem may_2 (kd o d a b i l : Int) (w : World) (i0 : -2147483648 ≤ i) (i1 : i ≤ 2147483647) (hk : kd = 2) :
    Calls Tryd.prog 22 #[.agg #[.int .i64 kd, .int .i64 0, .int .i64 0, .int .i64 0, .int .i64 0, .int .i32 0, .int .i64 l]] w fun e w' => e = .returned (.bool true) ∧ Below w.heap.size w w' := by
  have RA := Lib.hid (RowAt.new w [.int .i64 kd, .int .i64 0, .int .i64 0, .int .i64 0, .int .i64 0, .int .i32 0, .int .i64 l] 41)
  have BA := Lib.hid (Below.alloc (Below.refl w.heap.size w) (Nat.le_refl _) (.cells #[.int .i64 kd, .int .i64 0, .int .i64 0, .int .i64 0, .int .i64 0, .int .i32 0, .int .i64 l] 41))
  have t1 : (kd == 1) = false := by rw [hk]; rfl
  have t2 : (kd == 2) = true := by rw [hk]; rfl
  have hENC := Lib.hid (fun W => renc_is 0 0 0 0 0 _ rfl W (by omega) (by omega))
  have hEQ := ins_eq 0 0 0 0 0 0 0 0 0 0
  clear hk
  go_enter Tryd.func22, Tryd.ntmps22
  go_upto_region 1 with fail
  obtain ⟨A, hA⟩ : ∃ A, A = w.heap.size := ⟨_, rfl⟩
  rw [← hA] at RA ⊢
  have HAW := Lib.hid (show w.heap.size ≤ A by omega)
  obtain ⟨W1, hW1⟩ : ∃ W, W = w.alloc (.cells #[.int .i64 kd, .int .i64 0, .int .i64 0, .int .i64 0, .int .i64 0, .int .i32 0, .int .i64 l] 41) := ⟨_, rfl⟩
  have hE : w.alloc (.cells [.int .i64 kd, .int .i64 0, .int .i64 0, .int .i64 0, .int .i64 0, .int .i32 0, .int .i64 l].toArray 41) = W1 := by rw [hW1]
  rw [hE] at RA
  rw [← hW1] at BA ⊢
  clear hE hW1 hA
  have c1 := RA.out.cell 1 _ rfl
  have c2 := RA.out.cell 2 _ rfl
  have c3 := RA.out.cell 3 _ rfl
  have c4 := RA.out.cell 4 _ rfl
  have c5 := RA.out.cell 5 _ rfl
  have cl := RA.out.lt
  go_wp2_with (go_at_call 18; refine (hENC.out _).mono ?_; rintro e w5 ⟨⟨z, rfl⟩, hb5⟩; have HB5 := Lib.hid (below_call BA.out hb5); have RA5 := Lib.hid (RA.out.over hb5); clear hb5 c1 c2 c3 c4 c5 cl; have c0 := RA5.out.cell 0 _ rfl; have c1 := RA5.out.cell 1 _ rfl; have c2 := RA5.out.cell 2 _ rfl; have c3 := RA5.out.cell 3 _ rfl; have c4 := RA5.out.cell 4 _ rfl; have c5 := RA5.out.cell 5 _ rfl; have cl := RA5.out.lt)
  go_ret
  exact may_mk (below_call HB5.out (Below.alloc (Below.refl _ _) (Nat.le_refl _) _)) (by first | rfl | decide)
set_option maxHeartbeats 4000000 in
theorem may_3 (kd o d a b i l : Int) (w : World) (i0 : -2147483648 ≤ i) (i1 : i ≤ 2147483647) (hk : kd = 3) (hC : canI ⟨o, d, a, b, 0⟩ = true) (h0 : 36 ≤ o) (h1 : o ≤ 41) :
    Calls Tryd.prog 22 #[.agg #[.int .i64 kd, .int .i64 o, .int .i64 d, .int .i64 a, .int .i64 b, .int .i32 0, .int .i64 l]] w fun e w' => e = .returned (.bool true) ∧ Below w.heap.size w w' := by
  have RA := Lib.hid (RowAt.new w [.int .i64 kd, .int .i64 o, .int .i64 d, .int .i64 a, .int .i64 b, .int .i32 0, .int .i64 l] 41)
  have BA := Lib.hid (Below.alloc (Below.refl w.heap.size w) (Nat.le_refl _) (.cells #[.int .i64 kd, .int .i64 o, .int .i64 d, .int .i64 a, .int .i64 b, .int .i32 0, .int .i64 l] 41))
  have t1 : (kd == 1) = false := by rw [hk]; rfl
  have t2 : (kd == 2) = false := by rw [hk]; rfl
  have t3 : (kd == 3) = true := by rw [hk]; rfl
  have hENC := Lib.hid (fun W => renc_is o d a b 0 true hC W (by omega) (by omega))
  clear hC
  clear hk
  go_enter Tryd.func22, Tryd.ntmps22
  go_upto_region 1 with fail
  obtain ⟨A, hA⟩ : ∃ A, A = w.heap.size := ⟨_, rfl⟩
  rw [← hA] at RA ⊢
  have HAW := Lib.hid (show w.heap.size ≤ A by omega)
  obtain ⟨W1, hW1⟩ : ∃ W, W = w.alloc (.cells #[.int .i64 kd, .int .i64 o, .int .i64 d, .int .i64 a, .int .i64 b, .int .i32 0, .int .i64 l] 41) := ⟨_, rfl⟩
  have hE : w.alloc (.cells [.int .i64 kd, .int .i64 o, .int .i64 d, .int .i64 a, .int .i64 b, .int .i32 0, .int .i64 l].toArray 41) = W1 := by rw [hW1]
  rw [hE] at RA
  rw [← hW1] at BA ⊢
  clear hE hW1 hA
  have c1 := RA.out.cell 1 _ rfl
  have c2 := RA.out.cell 2 _ rfl
  have c3 := RA.out.cell 3 _ rfl
  have c4 := RA.out.cell 4 _ rfl
  have c5 := RA.out.cell 5 _ rfl
  have cl := RA.out.lt
  go_wp2_with (go_at_call 18; refine (hENC.out _).mono ?_; rintro e w5 ⟨⟨z, rfl⟩, hb5⟩; have HB5 := Lib.hid (below_call BA.out hb5); have RA5 := Lib.hid (RA.out.over hb5); clear hb5 c1 c2 c3 c4 c5 cl; have c0 := RA5.out.cell 0 _ rfl; have c1 := RA5.out.cell 1 _ rfl; have c2 := RA5.out.cell 2 _ rfl; have c3 := RA5.out.cell 3 _ rfl; have c4 := RA5.out.cell 4 _ rfl; have c5 := RA5.out.cell 5 _ rfl; have cl := RA5.out.lt)
  go_ret
  exact may_mk (below_call HB5.out (Below.alloc (Below.refl _ _) (Nat.le_refl _) _)) (by first | rfl | decide)
set_option maxHeartbeats 4000000 in
theorem may_4 (kd o d a b i l : Int) (w : World) (i0 : -2147483648 ≤ i) (i1 : i ≤ 2147483647) (hk : kd = 4) (hC : canI ⟨44, d, a, b, 0⟩ = true) :
    Calls Tryd.prog 22 #[.agg #[.int .i64 kd, .int .i64 44, .int .i64 d, .int .i64 a, .int .i64 b, .int .i32 0, .int .i64 l]] w fun e w' => e = .returned (.bool true) ∧ Below w.heap.size w w' := by
  have RA := Lib.hid (RowAt.new w [.int .i64 kd, .int .i64 44, .int .i64 d, .int .i64 a, .int .i64 b, .int .i32 0, .int .i64 l] 41)
  have BA := Lib.hid (Below.alloc (Below.refl w.heap.size w) (Nat.le_refl _) (.cells #[.int .i64 kd, .int .i64 44, .int .i64 d, .int .i64 a, .int .i64 b, .int .i32 0, .int .i64 l] 41))
  have t1 : (kd == 1) = false := by rw [hk]; rfl
  have t2 : (kd == 2) = false := by rw [hk]; rfl
  have t3 : (kd == 3) = false := by rw [hk]; rfl
  have t4 : (kd == 4) = true := by rw [hk]; rfl
  have hENC := Lib.hid (fun W => renc_is 44 d a b 0 true hC W (by omega) (by omega))
  clear hC
  clear hk
  go_enter Tryd.func22, Tryd.ntmps22
  go_upto_region 1 with fail
  obtain ⟨A, hA⟩ : ∃ A, A = w.heap.size := ⟨_, rfl⟩
  rw [← hA] at RA ⊢
  have HAW := Lib.hid (show w.heap.size ≤ A by omega)
  obtain ⟨W1, hW1⟩ : ∃ W, W = w.alloc (.cells #[.int .i64 kd, .int .i64 44, .int .i64 d, .int .i64 a, .int .i64 b, .int .i32 0, .int .i64 l] 41) := ⟨_, rfl⟩
  have hE : w.alloc (.cells [.int .i64 kd, .int .i64 44, .int .i64 d, .int .i64 a, .int .i64 b, .int .i32 0, .int .i64 l].toArray 41) = W1 := by rw [hW1]
  rw [hE] at RA
  rw [← hW1] at BA ⊢
  clear hE hW1 hA
  have c1 := RA.out.cell 1 _ rfl
  have c2 := RA.out.cell 2 _ rfl
  have c3 := RA.out.cell 3 _ rfl
  have c4 := RA.out.cell 4 _ rfl
  have c5 := RA.out.cell 5 _ rfl
  have cl := RA.out.lt
  go_wp2_with (go_at_call 18; refine (hENC.out _).mono ?_; rintro e w5 ⟨⟨z, rfl⟩, hb5⟩; have HB5 := Lib.hid (below_call BA.out hb5); have RA5 := Lib.hid (RA.out.over hb5); clear hb5 c1 c2 c3 c4 c5 cl; have c0 := RA5.out.cell 0 _ rfl; have c1 := RA5.out.cell 1 _ rfl; have c2 := RA5.out.cell 2 _ rfl; have c3 := RA5.out.cell 3 _ rfl; have c4 := RA5.out.cell 4 _ rfl; have c5 := RA5.out.cell 5 _ rfl; have cl := RA5.out.lt)
  go_ret
  exact may_mk (below_call HB5.out (Below.alloc (Below.refl _ _) (Nat.le_refl _) _)) (by first | rfl | decide)
set_option maxHeartbeats 4000000 in
theorem may_5 (kd o d a b i l : Int) (w : World) (i0 : -2147483648 ≤ i) (i1 : i ≤ 2147483647) (hk : kd = 5) (h1 : 1 ≤ d) (h2 : d ≤ 31) :
    Calls Tryd.prog 22 #[.agg #[.int .i64 kd, .int .i64 0, .int .i64 d, .int .i64 0, .int .i64 0, .int .i32 i, .int .i64 l]] w fun e w' => e = .returned (.bool true) ∧ Below w.heap.size w w' := by
  have RA := Lib.hid (RowAt.new w [.int .i64 kd, .int .i64 0, .int .i64 d, .int .i64 0, .int .i64 0, .int .i32 i, .int .i64 l] 41)
  have BA := Lib.hid (Below.alloc (Below.refl w.heap.size w) (Nat.le_refl _) (.cells #[.int .i64 kd, .int .i64 0, .int .i64 d, .int .i64 0, .int .i64 0, .int .i32 i, .int .i64 l] 41))
  have t1 : (kd == 1) = false := by rw [hk]; rfl
  have t2 : (kd == 2) = false := by rw [hk]; rfl
  have t3 : (kd == 3) = false := by rw [hk]; rfl
  have t4 : (kd == 4) = false := by rw [hk]; rfl
  have t5 : (kd == 5) = true := by rw [hk]; rfl
  have hENC := Lib.hid (fun W => renc_is 0 d 0 0 i _ rfl W (by omega) (by omega))

  clear hk
  go_enter Tryd.func22, Tryd.ntmps22
  go_upto_region 1 with fail
  obtain ⟨A, hA⟩ : ∃ A, A = w.heap.size := ⟨_, rfl⟩
  rw [← hA] at RA ⊢
  have HAW := Lib.hid (show w.heap.size ≤ A by omega)
  obtain ⟨W1, hW1⟩ : ∃ W, W = w.alloc (.cells #[.int .i64 kd, .int .i64 0, .int .i64 d, .int .i64 0, .int .i64 0, .int .i32 i, .int .i64 l] 41) := ⟨_, rfl⟩
  have hE : w.alloc (.cells [.int .i64 kd, .int .i64 0, .int .i64 d, .int .i64 0, .int .i64 0, .int .i32 i, .int .i64 l].toArray 41) = W1 := by rw [hW1]
  rw [hE] at RA
  rw [← hW1] at BA ⊢
  clear hE hW1 hA
  have c1 := RA.out.cell 1 _ rfl
  have c2 := RA.out.cell 2 _ rfl
  have c3 := RA.out.cell 3 _ rfl
  have c4 := RA.out.cell 4 _ rfl
  have c5 := RA.out.cell 5 _ rfl
  have cl := RA.out.lt
  go_wp2_with (go_at_call 18; refine (hENC.out _).mono ?_; rintro e w5 ⟨⟨z, rfl⟩, hb5⟩; have HB5 := Lib.hid (below_call BA.out hb5); have RA5 := Lib.hid (RA.out.over hb5); clear hb5 c1 c2 c3 c4 c5 cl; have c0 := RA5.out.cell 0 _ rfl; have c1 := RA5.out.cell 1 _ rfl; have c2 := RA5.out.cell 2 _ rfl; have c3 := RA5.out.cell 3 _ rfl; have c4 := RA5.out.cell 4 _ rfl; have c5 := RA5.out.cell 5 _ rfl; have cl := RA5.out.lt)
  go_ret
  exact may_mk (below_call HB5.out (Below.alloc (Below.refl _ _) (Nat.le_refl _) _)) (by first | rfl | decide)
theorem may_yes (x : It) (hx : x.okay) (hc : canIt x = true) (w : World) :
    Calls Tryd.prog 22 #[x.val] w fun e w' => e = .returned (.bool true) ∧ Below w.heap.size w w' := by
  obtain ⟨kd, o, d, a, b, i, l⟩ := x
  obtain ⟨_, _, _, _, _, ⟨i0, i1⟩, _⟩ := hx
  unfold canIt It.q insB at hc
  unfold It.val
  dsimp only at i0 i1 hc ⊢
  by_cases k1 : kd = 1
  · rw [if_pos k1] at hc; exact may_1 kd o d a b i l w i0 i1 k1 hc
  rw [if_neg k1] at hc
  by_cases k2 : kd = 2
  · rw [if_pos k2] at hc; simp at hc; obtain ⟨⟨⟨⟨rfl, rfl⟩, rfl⟩, rfl⟩, rfl⟩ := hc; exact may_2 kd 0 0 0 0 0 l w i0 i1 k2
  rw [if_neg k2] at hc
  by_cases k3 : kd = 3
  · rw [if_pos k3] at hc; simp at hc; obtain ⟨⟨⟨p1, p2⟩, rfl⟩, p4⟩ := hc; exact may_3 kd o d a b 0 l w i0 i1 k3 p4 p1 p2
  rw [if_neg k3] at hc
  by_cases k4 : kd = 4
  · rw [if_pos k4] at hc; simp at hc; obtain ⟨⟨rfl, rfl⟩, p4⟩ := hc; exact may_4 kd 44 d a b 0 l w i0 i1 k4 p4
  rw [if_neg k4] at hc
  by_cases k5 : kd = 5
  · rw [if_pos k5] at hc; simp at hc; obtain ⟨⟨p1, p2⟩, ⟨rfl, rfl⟩, rfl⟩ := hc; exact may_5 kd 0 d 0 0 i l w i0 i1 k5 p1 p2
  rw [if_neg k5] at hc
  cases hc
end Go.Proofs.YtipecnofjdhobaaDoor
