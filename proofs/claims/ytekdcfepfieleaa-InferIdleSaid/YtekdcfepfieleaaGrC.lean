/- Package infer: has, only. -/
import Derived.Test.YtekdcfepfieleaaGrB
namespace Go.Proofs.Ytekdcfepfieleaa
open Go Go.RowKit
set_option linter.unusedVariables false

def hasV (o : Int) : Int :=
  if o = 1 then 9216 else if o = 2 then 7901 else if o = 3 then 3805 else if o = 4 then 7889 else if o = 5 then 13 else if o = 6 then 13 else if o = 7 then 1011 else
  if o = 8 then 755 else if o = 9 then 513 else if o = 10 then 73 else if o = 11 then 8193 else if o = 12 then 3 else if o = 13 then 1 else 1025
theorem ops14 {o : Int} (h : 1 ≤ o ∧ o ≤ 14) : o = 1 ∨ o = 2 ∨ o = 3 ∨ o = 4 ∨ o = 5 ∨ o = 6 ∨ o = 7 ∨ o = 8 ∨ o = 9 ∨ o = 10 ∨ o = 11 ∨ o = 12 ∨ o = 13 ∨ o = 14 := by omega
set_option maxHeartbeats 2000000 in
theorem has_any (o : Int) (h : 1 ≤ o ∧ o ≤ 14) (w : World) : Calls Try.prog 13 #[.int .i64 o] w fun e w' => e = .returned (.int .i64 (hasV o)) ∧ w' = w := by
  rcases ops14 h with rfl | rfl | rfl | rfl | rfl | rfl | rfl | rfl | rfl | rfl | rfl | rfl | rfl | rfl
  all_goals
    go_enter Try.func13, Try.ntmps13
    go_wp2_with fail
    go_ret
    exact ⟨rfl, rfl⟩
def keep1 (h : Int) (n k : Nd) : Nd := if bits .and .i64 h 1 = 0 then k else { k with a := n.a }
def keep2 (h : Int) (n k : Nd) : Nd := if bits .and .i64 h 2 = 0 then k else { k with b := n.b }
def keep3 (h : Int) (n k : Nd) : Nd := if bits .and .i64 h 4 = 0 then k else { k with k0 := n.k0, k1 := n.k1, s0 := n.s0, s1 := n.s1 }
def keep4 (h : Int) (n k : Nd) : Nd := if bits .and .i64 h 8 = 0 then k else { k with p0 := n.p0, p1 := n.p1, p2 := n.p2, p3 := n.p3 }
def keep5 (h : Int) (n k : Nd) : Nd := if bits .and .i64 h 16 = 0 then k else { k with za := n.za }
def keep6 (h : Int) (n k : Nd) : Nd := if bits .and .i64 h 32 = 0 then k else { k with zb := n.zb }
def keep7 (h : Int) (n k : Nd) : Nd := if bits .and .i64 h 64 = 0 then k else { k with zo := n.zo }
def keep8 (h : Int) (n k : Nd) : Nd := if bits .and .i64 h 128 = 0 then k else { k with m1 := n.m1, t1 := n.t1 }
def keep9 (h : Int) (n k : Nd) : Nd := if bits .and .i64 h 256 = 0 then k else { k with m2 := n.m2, t2 := n.t2 }
def keep10 (h : Int) (n k : Nd) : Nd := if bits .and .i64 h 512 = 0 then k else { k with lo := n.lo, hi := n.hi }
def keep11 (h : Int) (n k : Nd) : Nd := if bits .and .i64 h 1024 = 0 then k else { k with w := n.w }
def keep12 (h : Int) (n k : Nd) : Nd := if bits .and .i64 h 2048 = 0 then k else { k with bias := n.bias }
def keep13 (h : Int) (n k : Nd) : Nd := if bits .and .i64 h 4096 = 0 then k else { k with chans := n.chans }
def keep14 (h : Int) (n k : Nd) : Nd := if bits .and .i64 h 8192 = 0 then k else { k with h0 := n.h0, h1 := n.h1, h2 := n.h2 }
set_option maxHeartbeats 1000000 in
theorem only_no (H : Nat) (h bit : Int) (f : Value) (w : World) (c : w.cell? ⟨H, 0, none⟩ = some (.int .i64 h)) (hb : bits .and .i64 h bit = 0) :
    Calls Try.prog 24 #[.int .i64 bit, f, .pointer (some ⟨H, 0, none⟩)] w fun e w' => e = .returned (.tuple #[]) ∧ w' = w := by
  go_enter Try.func24, Try.ntmps24
  go_wp2_with fail
  go_end0
  exact ⟨rfl, rfl⟩
set_option maxHeartbeats 1000000 in
theorem only_1 (N K H : Nat) (n k : Nd) (h : Int) (w : World) (hN : NdAt w N n) (hK : NdAt w K k) (hne : N ≠ K) (c : w.cell? ⟨H, 0, none⟩ = some (.int .i64 h)) :
    Calls Try.prog 24 #[.int .i64 1, .func (.func 25) #[] #[.pointer (some ⟨N, 0, none⟩), .pointer (some ⟨K, 0, none⟩)], .pointer (some ⟨H, 0, none⟩)] w fun e w' => e = .returned (.tuple #[]) ∧ Kept w w' K (keep1 h n k) := by
  unfold keep1
  by_cases hb : bits .and .i64 h 1 = 0
  · refine (only_no H h 1 _ w c hb).mono ?_
    rintro e w' ⟨rfl, rfl⟩
    rw [if_pos hb]
    exact ⟨rfl, Kept.start hK⟩
  · rw [if_neg hb]
    have TK := Lib.hid (take_1 N K n k w hN hK hne)
    clear hN hK
    go_enter Try.func24, Try.ntmps24
    go_wp2_with fail
    refine TK.out.mono ?_
    rintro e w' ⟨rfl, kp⟩
    go_wp2_with fail
    go_end0
    exact ⟨rfl, kp⟩
set_option maxHeartbeats 1000000 in
theorem only_2 (N K H : Nat) (n k : Nd) (h : Int) (w : World) (hN : NdAt w N n) (hK : NdAt w K k) (hne : N ≠ K) (c : w.cell? ⟨H, 0, none⟩ = some (.int .i64 h)) :
    Calls Try.prog 24 #[.int .i64 2, .func (.func 26) #[] #[.pointer (some ⟨N, 0, none⟩), .pointer (some ⟨K, 0, none⟩)], .pointer (some ⟨H, 0, none⟩)] w fun e w' => e = .returned (.tuple #[]) ∧ Kept w w' K (keep2 h n k) := by
  unfold keep2
  by_cases hb : bits .and .i64 h 2 = 0
  · refine (only_no H h 2 _ w c hb).mono ?_
    rintro e w' ⟨rfl, rfl⟩
    rw [if_pos hb]
    exact ⟨rfl, Kept.start hK⟩
  · rw [if_neg hb]
    have TK := Lib.hid (take_2 N K n k w hN hK hne)
    clear hN hK
    go_enter Try.func24, Try.ntmps24
    go_wp2_with fail
    refine TK.out.mono ?_
    rintro e w' ⟨rfl, kp⟩
    go_wp2_with fail
    go_end0
    exact ⟨rfl, kp⟩
set_option maxHeartbeats 1000000 in
theorem only_3 (N K H : Nat) (n k : Nd) (h : Int) (w : World) (hN : NdAt w N n) (hK : NdAt w K k) (hne : N ≠ K) (c : w.cell? ⟨H, 0, none⟩ = some (.int .i64 h)) :
    Calls Try.prog 24 #[.int .i64 4, .func (.func 27) #[] #[.pointer (some ⟨N, 0, none⟩), .pointer (some ⟨K, 0, none⟩)], .pointer (some ⟨H, 0, none⟩)] w fun e w' => e = .returned (.tuple #[]) ∧ Kept w w' K (keep3 h n k) := by
  unfold keep3
  by_cases hb : bits .and .i64 h 4 = 0
  · refine (only_no H h 4 _ w c hb).mono ?_
    rintro e w' ⟨rfl, rfl⟩
    rw [if_pos hb]
    exact ⟨rfl, Kept.start hK⟩
  · rw [if_neg hb]
    have TK := Lib.hid (take_3 N K n k w hN hK hne)
    clear hN hK
    go_enter Try.func24, Try.ntmps24
    go_wp2_with fail
    refine TK.out.mono ?_
    rintro e w' ⟨rfl, kp⟩
    go_wp2_with fail
    go_end0
    exact ⟨rfl, kp⟩
set_option maxHeartbeats 1000000 in
theorem only_4 (N K H : Nat) (n k : Nd) (h : Int) (w : World) (hN : NdAt w N n) (hK : NdAt w K k) (hne : N ≠ K) (c : w.cell? ⟨H, 0, none⟩ = some (.int .i64 h)) :
    Calls Try.prog 24 #[.int .i64 8, .func (.func 28) #[] #[.pointer (some ⟨N, 0, none⟩), .pointer (some ⟨K, 0, none⟩)], .pointer (some ⟨H, 0, none⟩)] w fun e w' => e = .returned (.tuple #[]) ∧ Kept w w' K (keep4 h n k) := by
  unfold keep4
  by_cases hb : bits .and .i64 h 8 = 0
  · refine (only_no H h 8 _ w c hb).mono ?_
    rintro e w' ⟨rfl, rfl⟩
    rw [if_pos hb]
    exact ⟨rfl, Kept.start hK⟩
  · rw [if_neg hb]
    have TK := Lib.hid (take_4 N K n k w hN hK hne)
    clear hN hK
    go_enter Try.func24, Try.ntmps24
    go_wp2_with fail
    refine TK.out.mono ?_
    rintro e w' ⟨rfl, kp⟩
    go_wp2_with fail
    go_end0
    exact ⟨rfl, kp⟩
set_option maxHeartbeats 1000000 in
theorem only_5 (N K H : Nat) (n k : Nd) (h : Int) (w : World) (hN : NdAt w N n) (hK : NdAt w K k) (hne : N ≠ K) (c : w.cell? ⟨H, 0, none⟩ = some (.int .i64 h)) :
    Calls Try.prog 24 #[.int .i64 16, .func (.func 29) #[] #[.pointer (some ⟨N, 0, none⟩), .pointer (some ⟨K, 0, none⟩)], .pointer (some ⟨H, 0, none⟩)] w fun e w' => e = .returned (.tuple #[]) ∧ Kept w w' K (keep5 h n k) := by
  unfold keep5
  by_cases hb : bits .and .i64 h 16 = 0
  · refine (only_no H h 16 _ w c hb).mono ?_
    rintro e w' ⟨rfl, rfl⟩
    rw [if_pos hb]
    exact ⟨rfl, Kept.start hK⟩
  · rw [if_neg hb]
    have TK := Lib.hid (take_5 N K n k w hN hK hne)
    clear hN hK
    go_enter Try.func24, Try.ntmps24
    go_wp2_with fail
    refine TK.out.mono ?_
    rintro e w' ⟨rfl, kp⟩
    go_wp2_with fail
    go_end0
    exact ⟨rfl, kp⟩
set_option maxHeartbeats 1000000 in
theorem only_6 (N K H : Nat) (n k : Nd) (h : Int) (w : World) (hN : NdAt w N n) (hK : NdAt w K k) (hne : N ≠ K) (c : w.cell? ⟨H, 0, none⟩ = some (.int .i64 h)) :
    Calls Try.prog 24 #[.int .i64 32, .func (.func 30) #[] #[.pointer (some ⟨N, 0, none⟩), .pointer (some ⟨K, 0, none⟩)], .pointer (some ⟨H, 0, none⟩)] w fun e w' => e = .returned (.tuple #[]) ∧ Kept w w' K (keep6 h n k) := by
  unfold keep6
  by_cases hb : bits .and .i64 h 32 = 0
  · refine (only_no H h 32 _ w c hb).mono ?_
    rintro e w' ⟨rfl, rfl⟩
    rw [if_pos hb]
    exact ⟨rfl, Kept.start hK⟩
  · rw [if_neg hb]
    have TK := Lib.hid (take_6 N K n k w hN hK hne)
    clear hN hK
    go_enter Try.func24, Try.ntmps24
    go_wp2_with fail
    refine TK.out.mono ?_
    rintro e w' ⟨rfl, kp⟩
    go_wp2_with fail
    go_end0
    exact ⟨rfl, kp⟩
set_option maxHeartbeats 1000000 in
theorem only_7 (N K H : Nat) (n k : Nd) (h : Int) (w : World) (hN : NdAt w N n) (hK : NdAt w K k) (hne : N ≠ K) (c : w.cell? ⟨H, 0, none⟩ = some (.int .i64 h)) :
    Calls Try.prog 24 #[.int .i64 64, .func (.func 31) #[] #[.pointer (some ⟨N, 0, none⟩), .pointer (some ⟨K, 0, none⟩)], .pointer (some ⟨H, 0, none⟩)] w fun e w' => e = .returned (.tuple #[]) ∧ Kept w w' K (keep7 h n k) := by
  unfold keep7
  by_cases hb : bits .and .i64 h 64 = 0
  · refine (only_no H h 64 _ w c hb).mono ?_
    rintro e w' ⟨rfl, rfl⟩
    rw [if_pos hb]
    exact ⟨rfl, Kept.start hK⟩
  · rw [if_neg hb]
    have TK := Lib.hid (take_7 N K n k w hN hK hne)
    clear hN hK
    go_enter Try.func24, Try.ntmps24
    go_wp2_with fail
    refine TK.out.mono ?_
    rintro e w' ⟨rfl, kp⟩
    go_wp2_with fail
    go_end0
    exact ⟨rfl, kp⟩
set_option maxHeartbeats 1000000 in
theorem only_8 (N K H : Nat) (n k : Nd) (h : Int) (w : World) (hN : NdAt w N n) (hK : NdAt w K k) (hne : N ≠ K) (c : w.cell? ⟨H, 0, none⟩ = some (.int .i64 h)) :
    Calls Try.prog 24 #[.int .i64 128, .func (.func 32) #[] #[.pointer (some ⟨N, 0, none⟩), .pointer (some ⟨K, 0, none⟩)], .pointer (some ⟨H, 0, none⟩)] w fun e w' => e = .returned (.tuple #[]) ∧ Kept w w' K (keep8 h n k) := by
  unfold keep8
  by_cases hb : bits .and .i64 h 128 = 0
  · refine (only_no H h 128 _ w c hb).mono ?_
    rintro e w' ⟨rfl, rfl⟩
    rw [if_pos hb]
    exact ⟨rfl, Kept.start hK⟩
  · rw [if_neg hb]
    have TK := Lib.hid (take_8 N K n k w hN hK hne)
    clear hN hK
    go_enter Try.func24, Try.ntmps24
    go_wp2_with fail
    refine TK.out.mono ?_
    rintro e w' ⟨rfl, kp⟩
    go_wp2_with fail
    go_end0
    exact ⟨rfl, kp⟩
set_option maxHeartbeats 1000000 in
theorem only_9 (N K H : Nat) (n k : Nd) (h : Int) (w : World) (hN : NdAt w N n) (hK : NdAt w K k) (hne : N ≠ K) (c : w.cell? ⟨H, 0, none⟩ = some (.int .i64 h)) :
    Calls Try.prog 24 #[.int .i64 256, .func (.func 33) #[] #[.pointer (some ⟨N, 0, none⟩), .pointer (some ⟨K, 0, none⟩)], .pointer (some ⟨H, 0, none⟩)] w fun e w' => e = .returned (.tuple #[]) ∧ Kept w w' K (keep9 h n k) := by
  unfold keep9
  by_cases hb : bits .and .i64 h 256 = 0
  · refine (only_no H h 256 _ w c hb).mono ?_
    rintro e w' ⟨rfl, rfl⟩
    rw [if_pos hb]
    exact ⟨rfl, Kept.start hK⟩
  · rw [if_neg hb]
    have TK := Lib.hid (take_9 N K n k w hN hK hne)
    clear hN hK
    go_enter Try.func24, Try.ntmps24
    go_wp2_with fail
    refine TK.out.mono ?_
    rintro e w' ⟨rfl, kp⟩
    go_wp2_with fail
    go_end0
    exact ⟨rfl, kp⟩
set_option maxHeartbeats 1000000 in
theorem only_10 (N K H : Nat) (n k : Nd) (h : Int) (w : World) (hN : NdAt w N n) (hK : NdAt w K k) (hne : N ≠ K) (c : w.cell? ⟨H, 0, none⟩ = some (.int .i64 h)) :
    Calls Try.prog 24 #[.int .i64 512, .func (.func 34) #[] #[.pointer (some ⟨N, 0, none⟩), .pointer (some ⟨K, 0, none⟩)], .pointer (some ⟨H, 0, none⟩)] w fun e w' => e = .returned (.tuple #[]) ∧ Kept w w' K (keep10 h n k) := by
  unfold keep10
  by_cases hb : bits .and .i64 h 512 = 0
  · refine (only_no H h 512 _ w c hb).mono ?_
    rintro e w' ⟨rfl, rfl⟩
    rw [if_pos hb]
    exact ⟨rfl, Kept.start hK⟩
  · rw [if_neg hb]
    have TK := Lib.hid (take_10 N K n k w hN hK hne)
    clear hN hK
    go_enter Try.func24, Try.ntmps24
    go_wp2_with fail
    refine TK.out.mono ?_
    rintro e w' ⟨rfl, kp⟩
    go_wp2_with fail
    go_end0
    exact ⟨rfl, kp⟩
set_option maxHeartbeats 1000000 in
theorem only_11 (N K H : Nat) (n k : Nd) (h : Int) (w : World) (hN : NdAt w N n) (hK : NdAt w K k) (hne : N ≠ K) (c : w.cell? ⟨H, 0, none⟩ = some (.int .i64 h)) :
    Calls Try.prog 24 #[.int .i64 1024, .func (.func 35) #[] #[.pointer (some ⟨N, 0, none⟩), .pointer (some ⟨K, 0, none⟩)], .pointer (some ⟨H, 0, none⟩)] w fun e w' => e = .returned (.tuple #[]) ∧ Kept w w' K (keep11 h n k) := by
  unfold keep11
  by_cases hb : bits .and .i64 h 1024 = 0
  · refine (only_no H h 1024 _ w c hb).mono ?_
    rintro e w' ⟨rfl, rfl⟩
    rw [if_pos hb]
    exact ⟨rfl, Kept.start hK⟩
  · rw [if_neg hb]
    have TK := Lib.hid (take_11 N K n k w hN hK hne)
    clear hN hK
    go_enter Try.func24, Try.ntmps24
    go_wp2_with fail
    refine TK.out.mono ?_
    rintro e w' ⟨rfl, kp⟩
    go_wp2_with fail
    go_end0
    exact ⟨rfl, kp⟩
set_option maxHeartbeats 1000000 in
theorem only_12 (N K H : Nat) (n k : Nd) (h : Int) (w : World) (hN : NdAt w N n) (hK : NdAt w K k) (hne : N ≠ K) (c : w.cell? ⟨H, 0, none⟩ = some (.int .i64 h)) :
    Calls Try.prog 24 #[.int .i64 2048, .func (.func 36) #[] #[.pointer (some ⟨N, 0, none⟩), .pointer (some ⟨K, 0, none⟩)], .pointer (some ⟨H, 0, none⟩)] w fun e w' => e = .returned (.tuple #[]) ∧ Kept w w' K (keep12 h n k) := by
  unfold keep12
  by_cases hb : bits .and .i64 h 2048 = 0
  · refine (only_no H h 2048 _ w c hb).mono ?_
    rintro e w' ⟨rfl, rfl⟩
    rw [if_pos hb]
    exact ⟨rfl, Kept.start hK⟩
  · rw [if_neg hb]
    have TK := Lib.hid (take_12 N K n k w hN hK hne)
    clear hN hK
    go_enter Try.func24, Try.ntmps24
    go_wp2_with fail
    refine TK.out.mono ?_
    rintro e w' ⟨rfl, kp⟩
    go_wp2_with fail
    go_end0
    exact ⟨rfl, kp⟩
set_option maxHeartbeats 1000000 in
theorem only_13 (N K H : Nat) (n k : Nd) (h : Int) (w : World) (hN : NdAt w N n) (hK : NdAt w K k) (hne : N ≠ K) (c : w.cell? ⟨H, 0, none⟩ = some (.int .i64 h)) :
    Calls Try.prog 24 #[.int .i64 4096, .func (.func 37) #[] #[.pointer (some ⟨N, 0, none⟩), .pointer (some ⟨K, 0, none⟩)], .pointer (some ⟨H, 0, none⟩)] w fun e w' => e = .returned (.tuple #[]) ∧ Kept w w' K (keep13 h n k) := by
  unfold keep13
  by_cases hb : bits .and .i64 h 4096 = 0
  · refine (only_no H h 4096 _ w c hb).mono ?_
    rintro e w' ⟨rfl, rfl⟩
    rw [if_pos hb]
    exact ⟨rfl, Kept.start hK⟩
  · rw [if_neg hb]
    have TK := Lib.hid (take_13 N K n k w hN hK hne)
    clear hN hK
    go_enter Try.func24, Try.ntmps24
    go_wp2_with fail
    refine TK.out.mono ?_
    rintro e w' ⟨rfl, kp⟩
    go_wp2_with fail
    go_end0
    exact ⟨rfl, kp⟩
set_option maxHeartbeats 1000000 in
theorem only_14 (N K H : Nat) (n k : Nd) (h : Int) (w : World) (hN : NdAt w N n) (hK : NdAt w K k) (hne : N ≠ K) (c : w.cell? ⟨H, 0, none⟩ = some (.int .i64 h)) :
    Calls Try.prog 24 #[.int .i64 8192, .func (.func 38) #[] #[.pointer (some ⟨N, 0, none⟩), .pointer (some ⟨K, 0, none⟩)], .pointer (some ⟨H, 0, none⟩)] w fun e w' => e = .returned (.tuple #[]) ∧ Kept w w' K (keep14 h n k) := by
  unfold keep14
  by_cases hb : bits .and .i64 h 8192 = 0
  · refine (only_no H h 8192 _ w c hb).mono ?_
    rintro e w' ⟨rfl, rfl⟩
    rw [if_pos hb]
    exact ⟨rfl, Kept.start hK⟩
  · rw [if_neg hb]
    have TK := Lib.hid (take_14 N K n k w hN hK hne)
    clear hN hK
    go_enter Try.func24, Try.ntmps24
    go_wp2_with fail
    refine TK.out.mono ?_
    rintro e w' ⟨rfl, kp⟩
    go_wp2_with fail
    go_end0
    exact ⟨rfl, kp⟩
end Go.Proofs.Ytekdcfepfieleaa
