/- Package pintleref42: First, for all words. -/
import Derived.Test.YtmlhoagcppofgaaDoorSpP
import Derived.Test.YtmlhoagcppofgaaDoorFlC
namespace Go.Proofs.YtmlhoagcppofgaaDoor
open Go Go.RowKit Pl
set_option linter.unusedVariables false

set_option maxHeartbeats 2000000 in
theorem rfirst_z (a : Option Addr) (c : Nat) (l : List Nat) (i : Nat) (W : World) (hw : WordsC W a l c) (hi : i < l.length) (hl : l.length ≤ 1000) (o d u v im : Int) (hq : qAt l i = ⟨o, d, u, v, im⟩) (hok : okI (l.getD i 0 : Nat) = false) (ho : o = 0) :
    Calls Tryd.prog 14 #[.slice a l.length c, .int .i64 ((i : Int) + 1)] W fun e w' => e = .returned (.bool true) ∧ Below W.heap.size W w' := by
  have HW := Lib.hid hw
  obtain ⟨b, off, rfl, hb, hc, hx⟩ := words_cell hw hi
  have D := Lib.hid (fun W => rdec_any ((l.getD i 0 : Nat) : Int) W (by omega) (by omega))
  have HO := Lib.hid hok
  have hcl := hw.2.1
  have hcm := hw.2.2.1
  have u1 := IntWalk.i64_in ((i : Int) + 1 - 1) (by omega)
  have z0 : ((i : Int) + 1 == 0) = false := by simp; omega
  generalize hX : l.getD i 0 = X at *
  have QX : decI (X : Int) = ⟨o, d, u, v, im⟩ := by rw [← hq]; unfold qAt; rw [hX]
  have HX := Lib.hid QX
  clear hw hq hok hX QX
  subst ho
  go_enter Tryd.func14, Tryd.ntmps14
  go_wp2_with fail
  refine (D.out _).mono ?_
  unfold RDecP
  rw [HX.out, HO.out]
  unfold agg5
  rintro e w1 ⟨rfl, hb1⟩
  go_wp2_with fail
  go_ret
  exact ⟨rfl, below_trans hb1 (by go_grown)⟩
set_option maxHeartbeats 2000000 in
theorem rfirst_b (a : Option Addr) (c : Nat) (l : List Nat) (i : Nat) (W : World) (hw : WordsC W a l c) (hi : i < l.length) (hl : l.length ≤ 1000) (o d u v im : Int) (hq : qAt l i = ⟨o, d, u, v, im⟩) (hok : okI (l.getD i 0 : Nat) = true) (h36 : 36 ≤ o) (h41 : o ≤ 41) :
    Calls Tryd.prog 14 #[.slice a l.length c, .int .i64 ((i : Int) + 1)] W fun e w' => e = .returned (.bool true) ∧ Below W.heap.size W w' := by
  have HW := Lib.hid hw
  obtain ⟨b, off, rfl, hb, hc, hx⟩ := words_cell hw hi
  have D := Lib.hid (fun W => rdec_any ((l.getD i 0 : Nat) : Int) W (by omega) (by omega))
  have HO := Lib.hid hok
  have hcl := hw.2.1
  have hcm := hw.2.2.1
  have u1 := IntWalk.i64_in ((i : Int) + 1 - 1) (by omega)
  have z0 : ((i : Int) + 1 == 0) = false := by simp; omega
  generalize hX : l.getD i 0 = X at *
  have QX : decI (X : Int) = ⟨o, d, u, v, im⟩ := by rw [← hq]; unfold qAt; rw [hX]
  have HX := Lib.hid QX
  clear hw hq hok hX QX
  have t1 : decide (36 ≤ o) = true := by simp; omega
  have t2 : decide (o ≤ 41) = true := by simp; omega
  have t3 : (o == 44) = false := by simp; omega
  have t5 : (o == 45) = false := by simp; omega
  have t6 : decide (47 ≤ o) = false := by simp; omega
  clear h36 h41
  go_enter Tryd.func14, Tryd.ntmps14
  go_wp2_with fail
  refine (D.out _).mono ?_
  unfold RDecP
  rw [HX.out, HO.out]
  unfold agg5
  rintro e w1 ⟨rfl, hb1⟩
  go_wp2_with fail
  go_ret
  exact ⟨rfl, below_trans hb1 (by go_grown)⟩
set_option maxHeartbeats 2000000 in
theorem rfirst_j (a : Option Addr) (c : Nat) (l : List Nat) (i : Nat) (W : World) (hw : WordsC W a l c) (hi : i < l.length) (hl : l.length ≤ 1000) (o d u v im : Int) (hq : qAt l i = ⟨o, d, u, v, im⟩) (hok : okI (l.getD i 0 : Nat) = true) (ho : o = 44) :
    Calls Tryd.prog 14 #[.slice a l.length c, .int .i64 ((i : Int) + 1)] W fun e w' => e = .returned (.bool true) ∧ Below W.heap.size W w' := by
  have HW := Lib.hid hw
  obtain ⟨b, off, rfl, hb, hc, hx⟩ := words_cell hw hi
  have D := Lib.hid (fun W => rdec_any ((l.getD i 0 : Nat) : Int) W (by omega) (by omega))
  have HO := Lib.hid hok
  have hcl := hw.2.1
  have hcm := hw.2.2.1
  have u1 := IntWalk.i64_in ((i : Int) + 1 - 1) (by omega)
  have z0 : ((i : Int) + 1 == 0) = false := by simp; omega
  generalize hX : l.getD i 0 = X at *
  have QX : decI (X : Int) = ⟨o, d, u, v, im⟩ := by rw [← hq]; unfold qAt; rw [hX]
  have HX := Lib.hid QX
  clear hw hq hok hX QX
  subst ho
  go_enter Tryd.func14, Tryd.ntmps14
  go_wp2_with fail
  refine (D.out _).mono ?_
  unfold RDecP
  rw [HX.out, HO.out]
  unfold agg5
  rintro e w1 ⟨rfl, hb1⟩
  go_wp2_with fail
  go_ret
  exact ⟨rfl, below_trans hb1 (by go_grown)⟩
set_option maxHeartbeats 2000000 in
theorem rfirst_r (a : Option Addr) (c : Nat) (l : List Nat) (i : Nat) (W : World) (hw : WordsC W a l c) (hi : i < l.length) (hl : l.length ≤ 1000) (o d u v im : Int) (hq : qAt l i = ⟨o, d, u, v, im⟩) (hok : okI (l.getD i 0 : Nat) = true) (ho : o = 45) :
    Calls Tryd.prog 14 #[.slice a l.length c, .int .i64 ((i : Int) + 1)] W fun e w' => e = .returned (.bool true) ∧ Below W.heap.size W w' := by
  have HW := Lib.hid hw
  obtain ⟨b, off, rfl, hb, hc, hx⟩ := words_cell hw hi
  have D := Lib.hid (fun W => rdec_any ((l.getD i 0 : Nat) : Int) W (by omega) (by omega))
  have HO := Lib.hid hok
  have hcl := hw.2.1
  have hcm := hw.2.2.1
  have u1 := IntWalk.i64_in ((i : Int) + 1 - 1) (by omega)
  have z0 : ((i : Int) + 1 == 0) = false := by simp; omega
  generalize hX : l.getD i 0 = X at *
  have QX : decI (X : Int) = ⟨o, d, u, v, im⟩ := by rw [← hq]; unfold qAt; rw [hX]
  have HX := Lib.hid QX
  clear hw hq hok hX QX
  subst ho
  go_enter Tryd.func14, Tryd.ntmps14
  go_wp2_with fail
  refine (D.out _).mono ?_
  unfold RDecP
  rw [HX.out, HO.out]
  unfold agg5
  rintro e w1 ⟨rfl, hb1⟩
  go_wp2_with fail
  go_ret
  exact ⟨rfl, below_trans hb1 (by go_grown)⟩
set_option maxHeartbeats 2000000 in
theorem rfirst_e (a : Option Addr) (c : Nat) (l : List Nat) (i : Nat) (W : World) (hw : WordsC W a l c) (hi : i < l.length) (hl : l.length ≤ 1000) (o d u v im : Int) (hq : qAt l i = ⟨o, d, u, v, im⟩) (hok : okI (l.getD i 0 : Nat) = true) (h47 : 47 ≤ o) :
    Calls Tryd.prog 14 #[.slice a l.length c, .int .i64 ((i : Int) + 1)] W fun e w' => e = .returned (.bool true) ∧ Below W.heap.size W w' := by
  have HW := Lib.hid hw
  obtain ⟨b, off, rfl, hb, hc, hx⟩ := words_cell hw hi
  have D := Lib.hid (fun W => rdec_any ((l.getD i 0 : Nat) : Int) W (by omega) (by omega))
  have HO := Lib.hid hok
  have hcl := hw.2.1
  have hcm := hw.2.2.1
  have u1 := IntWalk.i64_in ((i : Int) + 1 - 1) (by omega)
  have z0 : ((i : Int) + 1 == 0) = false := by simp; omega
  generalize hX : l.getD i 0 = X at *
  have QX : decI (X : Int) = ⟨o, d, u, v, im⟩ := by rw [← hq]; unfold qAt; rw [hX]
  have HX := Lib.hid QX
  clear hw hq hok hX QX
  have t1 : decide (36 ≤ o) = true := by simp; omega
  have t2 : decide (o ≤ 41) = false := by simp; omega
  have t3 : (o == 44) = false := by simp; omega
  have t5 : (o == 45) = false := by simp; omega
  have t6 : decide (47 ≤ o) = true := by simp; omega
  clear h47
  go_enter Tryd.func14, Tryd.ntmps14
  go_wp2_with fail
  refine (D.out _).mono ?_
  unfold RDecP
  rw [HX.out, HO.out]
  unfold agg5
  rintro e w1 ⟨rfl, hb1⟩
  go_wp2_with fail
  go_ret
  exact ⟨rfl, below_trans hb1 (by go_grown)⟩
set_option maxHeartbeats 2000000 in
theorem rfirst_l (a : Option Addr) (c : Nat) (l : List Nat) (i : Nat) (W : World) (hw : WordsC W a l c) (hi : i < l.length) (hl : l.length ≤ 1000) (o d u v im : Int) (hq : qAt l i = ⟨o, d, u, v, im⟩) (hok : okI (l.getD i 0 : Nat) = true) (h : o < 36) (h0 : o ≠ 0) :
    Calls Tryd.prog 14 #[.slice a l.length c, .int .i64 ((i : Int) + 1)] W fun e w' => e = .returned (.bool (aimed l l.length (i + 1))) ∧ Below W.heap.size W w' := by
  have HW := Lib.hid hw
  obtain ⟨b, off, rfl, hb, hc, hx⟩ := words_cell hw hi
  have D := Lib.hid (fun W => rdec_any ((l.getD i 0 : Nat) : Int) W (by omega) (by omega))
  have HO := Lib.hid hok
  have hcl := hw.2.1
  have hcm := hw.2.2.1
  have u1 := IntWalk.i64_in ((i : Int) + 1 - 1) (by omega)
  have z0 : ((i : Int) + 1 == 0) = false := by simp; omega
  generalize hX : l.getD i 0 = X at *
  have QX : decI (X : Int) = ⟨o, d, u, v, im⟩ := by rw [← hq]; unfold qAt; rw [hX]
  have HX := Lib.hid QX
  clear hw hq hok hX QX
  have t1 : decide (36 ≤ o) = false := by simp; omega
  have t3 : (o == 44) = false := by simp; omega
  have t5 : (o == 45) = false := by simp; omega
  have t6 : decide (47 ≤ o) = false := by simp; omega
  clear h h0
  go_enter Tryd.func14, Tryd.ntmps14
  go_wp2_with fail
  refine (D.out _).mono ?_
  unfold RDecP
  rw [HX.out, HO.out]
  unfold agg5
  rintro e w1 ⟨rfl, hb1⟩
  go_wp2_with fail
  have B2 := Lib.hid (show Below W.heap.size W (w1.alloc (.cells #[.int .i64 o, .int .i64 d, .int .i64 u, .int .i64 v, .int .i32 im] 29)) from below_trans hb1 (by go_grown))
  generalize World.alloc w1 _ = W2 at *
  go_loopw [7] (fun j wr => ∃ n : Nat, n ≤ l.length ∧ j = .int .i64 n ∧ aimed l n (i + 1) = false ∧ Below W.heap.size W wr) (fun j _ => l.length - (intOf j).toNat)
  case atStart => exact ⟨0, Nat.zero_le _, rfl, rfl, B2.out⟩
  case round =>
    obtain ⟨n, hn, rfl, hno, hbb⟩ := hrel
    have HBB := Lib.hid hbb
    have HNO := Lib.hid hno
    clear hno
    by_cases hlt : n < l.length
    · have GA := Lib.hid (goes_any (some ⟨b, off, none⟩) c l n (i + 1) wr (HW.out.later hbb) hlt (by omega) (by omega))
      have un := IntWalk.i64_in ((n : Int) + 1) (by omega)
      unfold GoesP at GA
      rw [show ((i + 1 : Nat) : Int) = (i : Int) + 1 by omega] at GA
      clear hbb
      cases hA : aimQ (qAt l n) n (i + 1)
      · have NX := Lib.hid (show aimed l (n + 1) (i + 1) = false by rw [aimed_next, HNO.out, hA]; rfl)
        rw [hA] at GA
        clear hA
        go_wp2_with fail
        refine GA.out.mono ?_
        rintro e w3 ⟨rfl, hb3⟩
        go_wp2_with fail
        refine ⟨⟨n + 1, by omega, rfl, NX.out, below_trans HBB.out hb3⟩, by simp [intOf]; omega⟩
      · have NX := Lib.hid (aimed_yes (l := l) (n := l.length) hlt hA)
        rw [hA] at GA
        clear hA
        go_wp2_with fail
        refine GA.out.mono ?_
        rintro e w3 ⟨rfl, hb3⟩
        go_wp2_with fail
        go_ret
        exact ⟨by rw [NX.out]; rfl, below_trans HBB.out hb3⟩
    · obtain rfl : n = l.length := by omega
      clear hbb
      go_wp2_with fail
      go_ret
      exact ⟨by rw [HNO.out]; rfl, HBB.out⟩
set_option maxHeartbeats 2000000 in
theorem rfirst_h (a : Option Addr) (c : Nat) (l : List Nat) (i : Nat) (W : World) (hw : WordsC W a l c) (hi : i < l.length) (hl : l.length ≤ 1000) (o d u v im : Int) (hq : qAt l i = ⟨o, d, u, v, im⟩) (hok : okI (l.getD i 0 : Nat) = true) (h : 41 < o) (h4 : o ≠ 44) (h5 : o ≠ 45) (h7 : o < 47) :
    Calls Tryd.prog 14 #[.slice a l.length c, .int .i64 ((i : Int) + 1)] W fun e w' => e = .returned (.bool (aimed l l.length (i + 1))) ∧ Below W.heap.size W w' := by
  have HW := Lib.hid hw
  obtain ⟨b, off, rfl, hb, hc, hx⟩ := words_cell hw hi
  have D := Lib.hid (fun W => rdec_any ((l.getD i 0 : Nat) : Int) W (by omega) (by omega))
  have HO := Lib.hid hok
  have hcl := hw.2.1
  have hcm := hw.2.2.1
  have u1 := IntWalk.i64_in ((i : Int) + 1 - 1) (by omega)
  have z0 : ((i : Int) + 1 == 0) = false := by simp; omega
  generalize hX : l.getD i 0 = X at *
  have QX : decI (X : Int) = ⟨o, d, u, v, im⟩ := by rw [← hq]; unfold qAt; rw [hX]
  have HX := Lib.hid QX
  clear hw hq hok hX QX
  have t1 : decide (36 ≤ o) = true := by simp; omega
  have t2 : decide (o ≤ 41) = false := by simp; omega
  have t3 : (o == 44) = false := by simp; omega
  have t5 : (o == 45) = false := by simp; omega
  have t6 : decide (47 ≤ o) = false := by simp; omega
  clear h h4 h5 h7
  go_enter Tryd.func14, Tryd.ntmps14
  go_wp2_with fail
  refine (D.out _).mono ?_
  unfold RDecP
  rw [HX.out, HO.out]
  unfold agg5
  rintro e w1 ⟨rfl, hb1⟩
  go_wp2_with fail
  have B2 := Lib.hid (show Below W.heap.size W (w1.alloc (.cells #[.int .i64 o, .int .i64 d, .int .i64 u, .int .i64 v, .int .i32 im] 29)) from below_trans hb1 (by go_grown))
  generalize World.alloc w1 _ = W2 at *
  go_loopw [7] (fun j wr => ∃ n : Nat, n ≤ l.length ∧ j = .int .i64 n ∧ aimed l n (i + 1) = false ∧ Below W.heap.size W wr) (fun j _ => l.length - (intOf j).toNat)
  case atStart => exact ⟨0, Nat.zero_le _, rfl, rfl, B2.out⟩
  case round =>
    obtain ⟨n, hn, rfl, hno, hbb⟩ := hrel
    have HBB := Lib.hid hbb
    have HNO := Lib.hid hno
    clear hno
    by_cases hlt : n < l.length
    · have GA := Lib.hid (goes_any (some ⟨b, off, none⟩) c l n (i + 1) wr (HW.out.later hbb) hlt (by omega) (by omega))
      have un := IntWalk.i64_in ((n : Int) + 1) (by omega)
      unfold GoesP at GA
      rw [show ((i + 1 : Nat) : Int) = (i : Int) + 1 by omega] at GA
      clear hbb
      cases hA : aimQ (qAt l n) n (i + 1)
      · have NX := Lib.hid (show aimed l (n + 1) (i + 1) = false by rw [aimed_next, HNO.out, hA]; rfl)
        rw [hA] at GA
        clear hA
        go_wp2_with fail
        refine GA.out.mono ?_
        rintro e w3 ⟨rfl, hb3⟩
        go_wp2_with fail
        refine ⟨⟨n + 1, by omega, rfl, NX.out, below_trans HBB.out hb3⟩, by simp [intOf]; omega⟩
      · have NX := Lib.hid (aimed_yes (l := l) (n := l.length) hlt hA)
        rw [hA] at GA
        clear hA
        go_wp2_with fail
        refine GA.out.mono ?_
        rintro e w3 ⟨rfl, hb3⟩
        go_wp2_with fail
        go_ret
        exact ⟨by rw [NX.out]; rfl, below_trans HBB.out hb3⟩
    · obtain rfl : n = l.length := by omega
      clear hbb
      go_wp2_with fail
      go_ret
      exact ⟨by rw [HNO.out]; rfl, HBB.out⟩
theorem op_le (l : List Nat) (i : Nat) (h : l.getD i 0 < 4294967296) : 0 ≤ (qAt l i).o ∧ (qAt l i).o ≤ 48 := by
  have hb := opI_bd ((l.getD i 0 : Nat) : Int) (by omega) (by omega)
  unfold qAt decI
  split
  · exact ⟨by decide, by decide⟩
  · unfold recI
    exact hb
set_option maxHeartbeats 400000 in
theorem rfirst_zero (a : Option Addr) (c : Nat) (l : List Nat) (W : World) :
    Calls Tryd.prog 14 #[.slice a l.length c, .int .i64 0] W fun e w' => e = .returned (.bool (firstB l 0)) ∧ Below W.heap.size W w' := by
  have H := Lib.hid (show firstB l 0 = true by simp [firstB])
  go_enter Tryd.func14, Tryd.ntmps14
  go_wp2_with fail
  go_ret
  exact ⟨by rw [H.out]; rfl, by go_grown⟩
theorem rfirst_any (a : Option Addr) (c : Nat) (l : List Nat) (k : Nat) (W : World) (hw : WordsC W a l c) (hk : k ≤ l.length) (hl : l.length ≤ 1000) :
    Calls Tryd.prog 14 #[.slice a l.length c, .int .i64 (k : Nat)] W fun e w' => e = .returned (.bool (firstB l k)) ∧ Below W.heap.size W w' := by
  cases k with
  | zero => exact rfirst_zero a c l W
  | succ i =>
    have hi : i < l.length := by omega
    obtain ⟨_, _, _, _, _, hx⟩ := words_cell hw hi
    obtain ⟨o, d, u, v, im, hQ, hok, hm⟩ := dec_gen ((l.getD i 0 : Nat) : Int) (by omega) (by omega)
    have hq : qAt l i = ⟨o, d, u, v, im⟩ := hQ
    have hb := op_le l i hx
    rw [hq] at hb
    have e1 : ((i + 1 : Nat) : Int) = (i : Int) + 1 := by omega
    have e2 : firstB l (i + 1) = (endsQ (qAt l i) || aimed l l.length (i + 1)) := by unfold firstB; simp
    rw [e1, e2, hq]
    by_cases h0 : o = 0
    · have E : endsQ (⟨o, d, u, v, im⟩ : Q5) = true := decide_eq_true (.inl h0)
      rw [E, Bool.true_or]
      exact rfirst_z a c l i W hw hi hl o d u v im hq (by rw [hok]; simp [h0]) h0
    · have hok' : okI ((l.getD i 0 : Nat) : Int) = true := by rw [hok]; simp [h0]
      by_cases h1 : o < 36
      · have E : endsQ (⟨o, d, u, v, im⟩ : Q5) = false := decide_eq_false (by show ¬ (o = 0 ∨ (36 ≤ o ∧ o ≤ 41) ∨ o = 44 ∨ o = 45 ∨ 47 ≤ o); omega)
        rw [E, Bool.false_or]
        exact rfirst_l a c l i W hw hi hl o d u v im hq hok' h1 h0
      · by_cases h2 : o ≤ 41
        · have E : endsQ (⟨o, d, u, v, im⟩ : Q5) = true := decide_eq_true (by show (o = 0 ∨ (36 ≤ o ∧ o ≤ 41) ∨ o = 44 ∨ o = 45 ∨ 47 ≤ o); omega)
          rw [E, Bool.true_or]
          exact rfirst_b a c l i W hw hi hl o d u v im hq hok' (by omega) h2
        · by_cases h4 : o = 44
          · have E : endsQ (⟨o, d, u, v, im⟩ : Q5) = true := decide_eq_true (by show (o = 0 ∨ (36 ≤ o ∧ o ≤ 41) ∨ o = 44 ∨ o = 45 ∨ 47 ≤ o); omega)
            rw [E, Bool.true_or]
            exact rfirst_j a c l i W hw hi hl o d u v im hq hok' h4
          · by_cases h5 : o = 45
            · have E : endsQ (⟨o, d, u, v, im⟩ : Q5) = true := decide_eq_true (by show (o = 0 ∨ (36 ≤ o ∧ o ≤ 41) ∨ o = 44 ∨ o = 45 ∨ 47 ≤ o); omega)
              rw [E, Bool.true_or]
              exact rfirst_r a c l i W hw hi hl o d u v im hq hok' h5
            · by_cases h7 : 47 ≤ o
              · have E : endsQ (⟨o, d, u, v, im⟩ : Q5) = true := decide_eq_true (by show (o = 0 ∨ (36 ≤ o ∧ o ≤ 41) ∨ o = 44 ∨ o = 45 ∨ 47 ≤ o); omega)
                rw [E, Bool.true_or]
                exact rfirst_e a c l i W hw hi hl o d u v im hq hok' h7
              · have E : endsQ (⟨o, d, u, v, im⟩ : Q5) = false := decide_eq_false (by show ¬ (o = 0 ∨ (36 ≤ o ∧ o ≤ 41) ∨ o = 44 ∨ o = 45 ∨ 47 ≤ o); omega)
                rw [E, Bool.false_or]
                exact rfirst_h a c l i W hw hi hl o d u v im hq hok' (by omega) h4 h5 (by omega)
end Go.Proofs.YtmlhoagcppofgaaDoor
