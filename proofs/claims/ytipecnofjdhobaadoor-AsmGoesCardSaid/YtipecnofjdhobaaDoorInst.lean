/- Contracts of package inst: layouts, registers, numbers, what can be. -/
import Derived.Test.YtipecnofjdhobaaDoorImmBc
import Derived.Test.YtipecnofjdhobaaDoorInstQ
import Derived.WalkSpells
import Derived.WalkSmall
import Derived.BigQuiet
import Derived.Laws.StructEq
import Derived.Deep.QuietTactic
import Derived.Deep.RegionHeld3
namespace Go.Proofs.YtipecnofjdhobaaDoor
open Go Go.RowKit Pl
set_option linter.unusedVariables false

def lowC (o : Int) : Int := if o = 47 ∨ o = 48 then 0 else lowI o
def layI (o : Int) : Array Value := #[.int .u32 (lowC o), .bool (rD o), .bool (rA o), .bool (rB o), .int .i64 (formL o)]
def LayIP (o : Int) (w : World) (e : Ending) (w' : World) : Prop := e = .returned (.agg (layI o)) ∧ w' = w.alloc (.cells (layI o) 78)
theorem layI_0 {o : Int} (h : 1 ≤ o ∧ o ≤ 18) : layI o = #[.int .u32 51, .bool true, .bool true, .bool true, .int .i64 0] := by
  have g := cls_0 h
  have l : lowC o = lowI o := by unfold lowC; rw [if_neg (by omega)]
  unfold layI formL
  rw [l, g.1, g.2.1, g.2.2.1, g.2.2.2.1, g.2.2.2.2]
  rfl
set_option maxHeartbeats 400000 in
theorem ilay_0 (o : Int) (w : World) (h : 1 ≤ o ∧ o ≤ 18) : Calls Tryd.prog 35 #[.int .i64 o] w (LayIP o w) := by
  unfold LayIP
  rw [layI_0 h]
  have t18 : decide (o ≤ 18) = true := by simp; omega
  go_enter Tryd.func35, Tryd.ntmps35
  go_wp2
  exact bodyPost_ret (v := .agg #[.int .u32 51, .bool true, .bool true, .bool true, .int .i64 0]) (by simp [results, Tryd.results35, go_sem]) rfl ⟨rfl, rfl⟩
theorem layI_1 {o : Int} (h : 19 ≤ o ∧ o ≤ 24) : layI o = #[.int .u32 19, .bool true, .bool true, .bool false, .int .i64 1] := by
  have g := cls_1 h
  have l : lowC o = lowI o := by unfold lowC; rw [if_neg (by omega)]
  unfold layI formL
  rw [l, g.1, g.2.1, g.2.2.1, g.2.2.2.1, g.2.2.2.2.1]
  rfl
set_option maxHeartbeats 400000 in
theorem ilay_1 (o : Int) (w : World) (h : 19 ≤ o ∧ o ≤ 24) : Calls Tryd.prog 35 #[.int .i64 o] w (LayIP o w) := by
  unfold LayIP
  rw [layI_1 h]
  have t18 : decide (o ≤ 18) = false := by simp; omega
  have t27 : decide (o ≤ 27) = true := by simp; omega
  go_enter Tryd.func35, Tryd.ntmps35
  go_wp2
  exact bodyPost_ret (v := .agg #[.int .u32 19, .bool true, .bool true, .bool false, .int .i64 1]) (by simp [results, Tryd.results35, go_sem]) rfl ⟨rfl, rfl⟩
theorem layI_2 {o : Int} (h : 25 ≤ o ∧ o ≤ 27) : layI o = #[.int .u32 19, .bool true, .bool true, .bool false, .int .i64 1] := by
  have g := cls_2 h
  have l : lowC o = lowI o := by unfold lowC; rw [if_neg (by omega)]
  unfold layI formL
  rw [l, g.1, g.2.1, g.2.2.1, g.2.2.2.1, g.2.2.2.2]
  rfl
set_option maxHeartbeats 400000 in
theorem ilay_2 (o : Int) (w : World) (h : 25 ≤ o ∧ o ≤ 27) : Calls Tryd.prog 35 #[.int .i64 o] w (LayIP o w) := by
  unfold LayIP
  rw [layI_2 h]
  have t18 : decide (o ≤ 18) = false := by simp; omega
  have t27 : decide (o ≤ 27) = true := by simp; omega
  go_enter Tryd.func35, Tryd.ntmps35
  go_wp2
  exact bodyPost_ret (v := .agg #[.int .u32 19, .bool true, .bool true, .bool false, .int .i64 1]) (by simp [results, Tryd.results35, go_sem]) rfl ⟨rfl, rfl⟩
theorem layI_3 {o : Int} (h : 28 ≤ o ∧ o ≤ 32) : layI o = #[.int .u32 3, .bool true, .bool true, .bool false, .int .i64 1] := by
  have g := cls_3 h
  have l : lowC o = lowI o := by unfold lowC; rw [if_neg (by omega)]
  unfold layI formL
  rw [l, g.1, g.2.1, g.2.2.1, g.2.2.2.1, g.2.2.2.2.1]
  rfl
set_option maxHeartbeats 400000 in
theorem ilay_3 (o : Int) (w : World) (h : 28 ≤ o ∧ o ≤ 32) : Calls Tryd.prog 35 #[.int .i64 o] w (LayIP o w) := by
  unfold LayIP
  rw [layI_3 h]
  have t18 : decide (o ≤ 18) = false := by simp; omega
  have t27 : decide (o ≤ 27) = false := by simp; omega
  have t32 : decide (o ≤ 32) = true := by simp; omega
  go_enter Tryd.func35, Tryd.ntmps35
  go_wp2
  exact bodyPost_ret (v := .agg #[.int .u32 3, .bool true, .bool true, .bool false, .int .i64 1]) (by simp [results, Tryd.results35, go_sem]) rfl ⟨rfl, rfl⟩
theorem layI_4 {o : Int} (h : 33 ≤ o ∧ o ≤ 35) : layI o = #[.int .u32 35, .bool false, .bool true, .bool true, .int .i64 2] := by
  have g := cls_4 h
  have l : lowC o = lowI o := by unfold lowC; rw [if_neg (by omega)]
  unfold layI formL
  rw [l, g.1, g.2.1, g.2.2.1, g.2.2.2.1, g.2.2.2.2.1]
  rfl
set_option maxHeartbeats 400000 in
theorem ilay_4 (o : Int) (w : World) (h : 33 ≤ o ∧ o ≤ 35) : Calls Tryd.prog 35 #[.int .i64 o] w (LayIP o w) := by
  unfold LayIP
  rw [layI_4 h]
  have t18 : decide (o ≤ 18) = false := by simp; omega
  have t27 : decide (o ≤ 27) = false := by simp; omega
  have t32 : decide (o ≤ 32) = false := by simp; omega
  have t35 : decide (o ≤ 35) = true := by simp; omega
  go_enter Tryd.func35, Tryd.ntmps35
  go_wp2
  exact bodyPost_ret (v := .agg #[.int .u32 35, .bool false, .bool true, .bool true, .int .i64 2]) (by simp [results, Tryd.results35, go_sem]) rfl ⟨rfl, rfl⟩
theorem layI_5 {o : Int} (h : 36 ≤ o ∧ o ≤ 41) : layI o = #[.int .u32 99, .bool false, .bool true, .bool true, .int .i64 3] := by
  have g := cls_5 h
  have l : lowC o = lowI o := by unfold lowC; rw [if_neg (by omega)]
  unfold layI formL
  rw [l, g.1, g.2.1, g.2.2.1, g.2.2.2.1, g.2.2.2.2.1]
  rfl
set_option maxHeartbeats 400000 in
theorem ilay_5 (o : Int) (w : World) (h : 36 ≤ o ∧ o ≤ 41) : Calls Tryd.prog 35 #[.int .i64 o] w (LayIP o w) := by
  unfold LayIP
  rw [layI_5 h]
  have t18 : decide (o ≤ 18) = false := by simp; omega
  have t27 : decide (o ≤ 27) = false := by simp; omega
  have t32 : decide (o ≤ 32) = false := by simp; omega
  have t35 : decide (o ≤ 35) = false := by simp; omega
  have t41 : decide (o ≤ 41) = true := by simp; omega
  go_enter Tryd.func35, Tryd.ntmps35
  go_wp2
  exact bodyPost_ret (v := .agg #[.int .u32 99, .bool false, .bool true, .bool true, .int .i64 3]) (by simp [results, Tryd.results35, go_sem]) rfl ⟨rfl, rfl⟩
theorem layI_6 {o : Int} (h : o = 42) : layI o = #[.int .u32 55, .bool true, .bool false, .bool false, .int .i64 4] := by
  subst h; rfl
set_option maxHeartbeats 400000 in
theorem ilay_6 (o : Int) (w : World) (h : o = 42) : Calls Tryd.prog 35 #[.int .i64 o] w (LayIP o w) := by
  unfold LayIP
  rw [layI_6 h]
  subst h
  go_enter Tryd.func35, Tryd.ntmps35
  go_wp2
  exact bodyPost_ret (v := .agg #[.int .u32 55, .bool true, .bool false, .bool false, .int .i64 4]) (by simp [results, Tryd.results35, go_sem]) rfl ⟨rfl, rfl⟩
theorem layI_7 {o : Int} (h : o = 43) : layI o = #[.int .u32 23, .bool true, .bool false, .bool false, .int .i64 4] := by
  subst h; rfl
set_option maxHeartbeats 400000 in
theorem ilay_7 (o : Int) (w : World) (h : o = 43) : Calls Tryd.prog 35 #[.int .i64 o] w (LayIP o w) := by
  unfold LayIP
  rw [layI_7 h]
  subst h
  go_enter Tryd.func35, Tryd.ntmps35
  go_wp2
  exact bodyPost_ret (v := .agg #[.int .u32 23, .bool true, .bool false, .bool false, .int .i64 4]) (by simp [results, Tryd.results35, go_sem]) rfl ⟨rfl, rfl⟩
theorem layI_8 {o : Int} (h : o = 44) : layI o = #[.int .u32 111, .bool true, .bool false, .bool false, .int .i64 5] := by
  subst h; rfl
set_option maxHeartbeats 400000 in
theorem ilay_8 (o : Int) (w : World) (h : o = 44) : Calls Tryd.prog 35 #[.int .i64 o] w (LayIP o w) := by
  unfold LayIP
  rw [layI_8 h]
  subst h
  go_enter Tryd.func35, Tryd.ntmps35
  go_wp2
  exact bodyPost_ret (v := .agg #[.int .u32 111, .bool true, .bool false, .bool false, .int .i64 5]) (by simp [results, Tryd.results35, go_sem]) rfl ⟨rfl, rfl⟩
theorem layI_9 {o : Int} (h : o = 45) : layI o = #[.int .u32 103, .bool true, .bool true, .bool false, .int .i64 1] := by
  subst h; rfl
set_option maxHeartbeats 400000 in
theorem ilay_9 (o : Int) (w : World) (h : o = 45) : Calls Tryd.prog 35 #[.int .i64 o] w (LayIP o w) := by
  unfold LayIP
  rw [layI_9 h]
  subst h
  go_enter Tryd.func35, Tryd.ntmps35
  go_wp2
  exact bodyPost_ret (v := .agg #[.int .u32 103, .bool true, .bool true, .bool false, .int .i64 1]) (by simp [results, Tryd.results35, go_sem]) rfl ⟨rfl, rfl⟩
theorem layI_10 {o : Int} (h : o = 46) : layI o = #[.int .u32 15, .bool false, .bool false, .bool false, .int .i64 1] := by
  subst h; rfl
set_option maxHeartbeats 400000 in
theorem ilay_10 (o : Int) (w : World) (h : o = 46) : Calls Tryd.prog 35 #[.int .i64 o] w (LayIP o w) := by
  unfold LayIP
  rw [layI_10 h]
  subst h
  go_enter Tryd.func35, Tryd.ntmps35
  go_wp2
  exact bodyPost_ret (v := .agg #[.int .u32 15, .bool false, .bool false, .bool false, .int .i64 1]) (by simp [results, Tryd.results35, go_sem]) rfl ⟨rfl, rfl⟩
theorem layI_11 {o : Int} (h : o = 47) : layI o = #[.int .u32 0, .bool false, .bool false, .bool false, .int .i64 0] := by
  subst h; rfl
set_option maxHeartbeats 400000 in
theorem ilay_11 (o : Int) (w : World) (h : o = 47) : Calls Tryd.prog 35 #[.int .i64 o] w (LayIP o w) := by
  unfold LayIP
  rw [layI_11 h]
  subst h
  go_enter Tryd.func35, Tryd.ntmps35
  go_wp2
  exact bodyPost_ret (v := .agg #[.int .u32 0, .bool false, .bool false, .bool false, .int .i64 0]) (by simp [results, Tryd.results35, go_sem]) rfl ⟨rfl, rfl⟩
theorem layI_12 {o : Int} (h : o = 48) : layI o = #[.int .u32 0, .bool false, .bool false, .bool false, .int .i64 0] := by
  subst h; rfl
set_option maxHeartbeats 400000 in
theorem ilay_12 (o : Int) (w : World) (h : o = 48) : Calls Tryd.prog 35 #[.int .i64 o] w (LayIP o w) := by
  unfold LayIP
  rw [layI_12 h]
  subst h
  go_enter Tryd.func35, Tryd.ntmps35
  go_wp2
  exact bodyPost_ret (v := .agg #[.int .u32 0, .bool false, .bool false, .bool false, .int .i64 0]) (by simp [results, Tryd.results35, go_sem]) rfl ⟨rfl, rfl⟩
theorem ilay_any (o : Int) (w : World) (ho : 1 ≤ o ∧ o ≤ 48) : Calls Tryd.prog 35 #[.int .i64 o] w (LayIP o w) := by
  have cs : (1 ≤ o ∧ o ≤ 18) ∨ (19 ≤ o ∧ o ≤ 24) ∨ (25 ≤ o ∧ o ≤ 27) ∨ (28 ≤ o ∧ o ≤ 32) ∨ (33 ≤ o ∧ o ≤ 35) ∨ (36 ≤ o ∧ o ≤ 41) ∨ (o = 42) ∨ (o = 43) ∨ (o = 44) ∨ (o = 45) ∨ (o = 46) ∨ (o = 47) ∨ (o = 48) := by omega
  rcases cs with h | h | h | h | h | h | h | h | h | h | h | h | h
  · exact ilay_0 o w h
  · exact ilay_1 o w h
  · exact ilay_2 o w h
  · exact ilay_3 o w h
  · exact ilay_4 o w h
  · exact ilay_5 o w h
  · exact ilay_6 o w h
  · exact ilay_7 o w h
  · exact ilay_8 o w h
  · exact ilay_9 o w h
  · exact ilay_10 o w h
  · exact ilay_11 o w h
  · exact ilay_12 o w h

set_option maxHeartbeats 400000 in
theorem ireg_any (n : Int) (h : Bool) (w : World) : Calls Tryd.prog 46 #[.int .i64 n, .bool h] w fun e w' => e = .returned (.bool (regOk n h)) ∧ w = w' := by
  cases h
  · have e : regOk n false = (n == 0) := by unfold regOk; simp only [Bool.false_eq_true, if_false]; exact (by rw [Bool.eq_iff_iff]; simp)
    rw [e]
    clear e
    go_enter Tryd.func46, Tryd.ntmps46
    go_wp2
    go_ret
    exact ⟨rfl, rfl⟩
  · by_cases g : 0 ≤ n
    · have e : regOk n true = decide (n ≤ 31) := by unfold regOk; simp only [if_true]; rw [decide_eq_decide]; omega
      rw [e]
      have h1 : decide (0 ≤ n) = true := by simp; omega
      clear e
      go_enter Tryd.func46, Tryd.ntmps46
      go_wp2
      go_ret
      exact ⟨rfl, rfl⟩
    · have e : regOk n true = false := by unfold regOk; simp; omega
      rw [e]
      have h1 : decide (0 ≤ n) = false := by simp; omega
      clear e
      go_enter Tryd.func46, Tryd.ntmps46
      go_wp2
      go_ret
      exact ⟨rfl, rfl⟩
theorem putOk_0 {n : Int} {f : Int} (h : f < 1 ∨ 5 < f) : putOk f n = false := by unfold putOk; simp; omega
/-- the number of an instruction of this operation -/
theorem numOk_at {o i : Int} : (o ≤ 18 ∨ 47 ≤ o) ∧ (o ≤ 48) → numOk (formI o) i = decide (i = 0) := by
  rintro ⟨h, h'⟩
  have : formI o = 0 := by
    rcases h with h | h
    · unfold formI; rw [if_pos h]
    · obtain rfl | rfl : o = 47 ∨ o = 48 := by omega
      all_goals rfl
  rw [this]; rfl
set_option maxHeartbeats 400000 in
theorem inum_0 (o d a b i : Int) (w : World) (ho : (o ≤ 18 ∨ 47 ≤ o) ∧ (o ≤ 48)) :
    Calls Tryd.prog 47 #[.agg #[.int .i64 o, .int .i64 d, .int .i64 a, .int .i64 b, .int .i32 i], .int .i64 0] w fun e w' => e = .returned (.bool (numOk (formI o) i)) ∧ Below w.heap.size w w' := by
  rw [numOk_at ho, show decide (i = 0) = (i == 0) by rw [Bool.eq_iff_iff]; simp]
  go_enter Tryd.func47, Tryd.ntmps47
  go_wp2
  go_ret
  exact ⟨rfl, by go_grown⟩
set_option maxHeartbeats 400000 in
theorem inum_6 (o d a b i : Int) (w : World) (ho : 25 ≤ o ∧ o ≤ 27) :
    Calls Tryd.prog 47 #[.agg #[.int .i64 o, .int .i64 d, .int .i64 a, .int .i64 b, .int .i32 i], .int .i64 1] w fun e w' => e = .returned (.bool (numOk (formI o) i)) ∧ Below w.heap.size w w' := by
  have f : formI o = 6 := (cls_2 ho).2.2.2.1
  rw [f]
  have t1 : decide (25 ≤ o) = true := by simp; omega
  have t2 : decide (o ≤ 27) = true := by simp; omega
  by_cases h : 0 ≤ i
  · have e : numOk 6 i = decide (i ≤ 31) := by show decide (0 ≤ i ∧ i < 32) = _; rw [decide_eq_decide]; omega
    rw [e]
    have t3 : decide (0 ≤ i) = true := by simp; omega
    clear e f
    go_enter Tryd.func47, Tryd.ntmps47
    go_wp2
    go_ret
    exact ⟨rfl, by go_grown⟩
  · have e : numOk 6 i = false := by show decide (0 ≤ i ∧ i < 32) = _; simp; omega
    rw [e]
    have t3 : decide (0 ≤ i) = false := by simp; omega
    clear e f
    go_enter Tryd.func47, Tryd.ntmps47
    go_wp2
    go_ret
    exact ⟨rfl, by go_grown⟩
def shiftI (o : Int) : Bool := decide (25 ≤ o ∧ o ≤ 27)
set_option maxHeartbeats 400000 in
theorem ishift_any (o : Int) (w : World) : Calls Tryd.prog 50 #[.int .i64 o] w fun e w' => e = .returned (.bool (shiftI o)) ∧ w = w' := by
  by_cases g : 25 ≤ o
  · have e : shiftI o = decide (o ≤ 27) := by unfold shiftI; rw [decide_eq_decide]; omega
    rw [e]
    have h1 : decide (25 ≤ o) = true := by simp; omega
    clear e
    go_enter Tryd.func50, Tryd.ntmps50
    go_wp2
    go_ret
    exact ⟨rfl, rfl⟩
  · have e : shiftI o = false := by unfold shiftI; simp; omega
    rw [e]
    have h1 : decide (25 ≤ o) = false := by simp; omega
    clear e
    go_enter Tryd.func50, Tryd.ntmps50
    go_wp2
    go_ret
    exact ⟨rfl, rfl⟩
set_option maxHeartbeats 400000 in
theorem isop_any (o : Int) (w : World) : Calls Tryd.prog 45 #[.int .i64 o] w fun e w' => e = .returned (.bool (isOpI o)) ∧ w = w' := by
  by_cases g : 1 ≤ o
  · have e : isOpI o = decide (o ≤ 48) := by unfold isOpI; rw [decide_eq_decide]; omega
    rw [e]
    have h1 : decide (1 ≤ o) = true := by simp; omega
    clear e
    go_enter Tryd.func45, Tryd.ntmps45
    go_wp2
    go_ret
    exact ⟨rfl, rfl⟩
  · have e : isOpI o = false := by unfold isOpI; simp; omega
    rw [e]
    have h1 : decide (1 ≤ o) = false := by simp; omega
    clear e
    go_enter Tryd.func45, Tryd.ntmps45
    go_wp2
    go_ret
    exact ⟨rfl, rfl⟩
set_option maxHeartbeats 400000 in
theorem inum_f (o d a b i f : Int) (w : World) (ho : o < 25 ∨ 27 < o) (hf : formI o = f) (f0 : 1 ≤ f ∧ f ≤ 5) (i0 : -2147483648 ≤ i) (i1 : i ≤ 2147483647) :
    Calls Tryd.prog 47 #[.agg #[.int .i64 o, .int .i64 d, .int .i64 a, .int .i64 b, .int .i32 i], .int .i64 f] w fun e w' => e = .returned (.bool (numOk (formI o) i)) ∧ Below w.heap.size w w' := by
  have e : numOk (formI o) i = putOk f i := by rw [hf]; unfold numOk; rw [if_neg (by omega), if_neg (by omega)]
  rw [e]
  have t0 : (f == 0) = false := by simp; omega
  have SH := Lib.hid (show shiftI o = false by unfold shiftI; simp; omega)
  clear e hf
  go_enter Tryd.func47, Tryd.ntmps47
  go_wp2_with (first | (go_at_call 37; refine (imm_put _ _ _ i0 i1).mono ?_; rintro e w' ⟨rfl, rfl⟩) | (go_at_call 50; refine (ishift_any _ _).mono ?_; rw [SH.out]; rintro e w' ⟨rfl, rfl⟩))
  go_ret
  exact ⟨rfl, by go_grown⟩
theorem inum_any (o d a b i : Int) (w : World) (ho : 1 ≤ o ∧ o ≤ 48) (i0 : -2147483648 ≤ i) (i1 : i ≤ 2147483647) :
    Calls Tryd.prog 47 #[.agg #[.int .i64 o, .int .i64 d, .int .i64 a, .int .i64 b, .int .i32 i], .int .i64 (formL o)] w fun e w' => e = .returned (.bool (numOk (formI o) i)) ∧ Below w.heap.size w w' := by
  by_cases h6 : 25 ≤ o ∧ o ≤ 27
  · have f : formL o = 1 := by unfold formL; rw [(cls_2 h6).2.2.2.1]; rfl
    rw [f]; exact inum_6 o d a b i w h6
  · by_cases h0 : o ≤ 18 ∨ 47 ≤ o
    · have f : formL o = 0 := by
        rcases h0 with h | h
        · unfold formL; rw [(cls_0 ⟨ho.1, h⟩).2.2.2.1]; rfl
        · obtain rfl | rfl : o = 47 ∨ o = 48 := by omega
          all_goals rfl
      rw [f]; exact inum_0 o d a b i w ⟨h0, ho.2⟩
    · have cs : (19 ≤ o ∧ o ≤ 24) ∨ (28 ≤ o ∧ o ≤ 32) ∨ (33 ≤ o ∧ o ≤ 35) ∨ (36 ≤ o ∧ o ≤ 41) ∨ (o = 42) ∨ (o = 43) ∨ (o = 44) ∨ (o = 45) ∨ (o = 46) := by omega
      have f : 1 ≤ formI o ∧ formI o ≤ 5 := by
        rcases cs with c | c | c | c | c | c | c | c | c
        · rw [(cls_1 c).2.2.2.1]; omega
        · rw [(cls_3 c).2.2.2.1]; omega
        · rw [(cls_4 c).2.2.2.1]; omega
        · rw [(cls_5 c).2.2.2.1]; omega
        · rw [(cls_6 c).2.2.2.1]; omega
        · rw [(cls_7 c).2.2.2.1]; omega
        · rw [(cls_8 c).2.2.2.1]; omega
        · rw [(cls_9 c).2.2.2.1]; omega
        · rw [(cls_10 c).2.2.2.1]; omega
      have e : formL o = formI o := by unfold formL; rw [if_neg (by omega)]
      rw [e]; exact inum_f o d a b i _ w (by omega) rfl f i0 i1
end Go.Proofs.YtipecnofjdhobaaDoor
