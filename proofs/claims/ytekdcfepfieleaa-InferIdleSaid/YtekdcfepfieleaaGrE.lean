/- Plain: what bare leaves of a node, and when that is the node itself. -/
import Derived.Test.YtekdcfepfieleaaGrC
namespace Go.Proofs.Ytekdcfepfieleaa
open Go Go.RowKit
set_option linter.unusedVariables false

theorem bit_1 {o : Int} (h : 1 ≤ o ∧ o ≤ 14) : bits .and .i64 (hasV o) 1 = 0 ↔ hA o = false := by
  rcases ops14 h with rfl | rfl | rfl | rfl | rfl | rfl | rfl | rfl | rfl | rfl | rfl | rfl | rfl | rfl <;> decide
theorem bit_2 {o : Int} (h : 1 ≤ o ∧ o ≤ 14) : bits .and .i64 (hasV o) 2 = 0 ↔ hB o = false := by
  rcases ops14 h with rfl | rfl | rfl | rfl | rfl | rfl | rfl | rfl | rfl | rfl | rfl | rfl | rfl | rfl <;> decide
theorem bit_3 {o : Int} (h : 1 ≤ o ∧ o ≤ 14) : bits .and .i64 (hasV o) 4 = 0 ↔ hWin o = false := by
  rcases ops14 h with rfl | rfl | rfl | rfl | rfl | rfl | rfl | rfl | rfl | rfl | rfl | rfl | rfl | rfl <;> decide
theorem bit_4 {o : Int} (h : 1 ≤ o ∧ o ≤ 14) : bits .and .i64 (hasV o) 8 = 0 ↔ hPad o = false := by
  rcases ops14 h with rfl | rfl | rfl | rfl | rfl | rfl | rfl | rfl | rfl | rfl | rfl | rfl | rfl | rfl <;> decide
theorem bit_5 {o : Int} (h : 1 ≤ o ∧ o ≤ 14) : bits .and .i64 (hasV o) 16 = 0 ↔ hZa o = false := by
  rcases ops14 h with rfl | rfl | rfl | rfl | rfl | rfl | rfl | rfl | rfl | rfl | rfl | rfl | rfl | rfl <;> decide
theorem bit_6 {o : Int} (h : 1 ≤ o ∧ o ≤ 14) : bits .and .i64 (hasV o) 32 = 0 ↔ hZb o = false := by
  rcases ops14 h with rfl | rfl | rfl | rfl | rfl | rfl | rfl | rfl | rfl | rfl | rfl | rfl | rfl | rfl <;> decide
theorem bit_7 {o : Int} (h : 1 ≤ o ∧ o ≤ 14) : bits .and .i64 (hasV o) 64 = 0 ↔ hZo o = false := by
  rcases ops14 h with rfl | rfl | rfl | rfl | rfl | rfl | rfl | rfl | rfl | rfl | rfl | rfl | rfl | rfl <;> decide
theorem bit_8 {o : Int} (h : 1 ≤ o ∧ o ≤ 14) : bits .and .i64 (hasV o) 128 = 0 ↔ hM o = false := by
  rcases ops14 h with rfl | rfl | rfl | rfl | rfl | rfl | rfl | rfl | rfl | rfl | rfl | rfl | rfl | rfl <;> decide
theorem bit_9 {o : Int} (h : 1 ≤ o ∧ o ≤ 14) : bits .and .i64 (hasV o) 256 = 0 ↔ hN o = false := by
  rcases ops14 h with rfl | rfl | rfl | rfl | rfl | rfl | rfl | rfl | rfl | rfl | rfl | rfl | rfl | rfl <;> decide
theorem bit_10 {o : Int} (h : 1 ≤ o ∧ o ≤ 14) : bits .and .i64 (hasV o) 512 = 0 ↔ hL o = false := by
  rcases ops14 h with rfl | rfl | rfl | rfl | rfl | rfl | rfl | rfl | rfl | rfl | rfl | rfl | rfl | rfl <;> decide
theorem bit_11 {o : Int} (h : 1 ≤ o ∧ o ≤ 14) : bits .and .i64 (hasV o) 1024 = 0 ↔ hW o = false := by
  rcases ops14 h with rfl | rfl | rfl | rfl | rfl | rfl | rfl | rfl | rfl | rfl | rfl | rfl | rfl | rfl <;> decide
theorem bit_12 {o : Int} (h : 1 ≤ o ∧ o ≤ 14) : bits .and .i64 (hasV o) 2048 = 0 ↔ hI o = false := by
  rcases ops14 h with rfl | rfl | rfl | rfl | rfl | rfl | rfl | rfl | rfl | rfl | rfl | rfl | rfl | rfl <;> decide
theorem bit_13 {o : Int} (h : 1 ≤ o ∧ o ≤ 14) : bits .and .i64 (hasV o) 4096 = 0 ↔ hC o = false := by
  rcases ops14 h with rfl | rfl | rfl | rfl | rfl | rfl | rfl | rfl | rfl | rfl | rfl | rfl | rfl | rfl <;> decide
theorem bit_14 {o : Int} (h : 1 ≤ o ∧ o ≤ 14) : bits .and .i64 (hasV o) 8192 = 0 ↔ hS o = false := by
  rcases ops14 h with rfl | rfl | rfl | rfl | rfl | rfl | rfl | rfl | rfl | rfl | rfl | rfl | rfl | rfl <;> decide
/-- step by step, as the program does it -/
def bare1 (n k : Nd) : Nd := keep1 (hasV n.op) n k
def bare2 (n k : Nd) : Nd := keep2 (hasV n.op) n k
def bare3 (n k : Nd) : Nd := keep3 (hasV n.op) n k
def bare4 (n k : Nd) : Nd := keep4 (hasV n.op) n k
def bare5 (n k : Nd) : Nd := keep5 (hasV n.op) n k
def bare6 (n k : Nd) : Nd := keep6 (hasV n.op) n k
def bare7 (n k : Nd) : Nd := keep7 (hasV n.op) n k
def bare8 (n k : Nd) : Nd := keep8 (hasV n.op) n k
def bare9 (n k : Nd) : Nd := keep9 (hasV n.op) n k
def bare10 (n k : Nd) : Nd := keep10 (hasV n.op) n k
def bare11 (n k : Nd) : Nd := keep11 (hasV n.op) n k
def bare12 (n k : Nd) : Nd := keep12 (hasV n.op) n k
def bare13 (n k : Nd) : Nd := keep13 (hasV n.op) n k
def bare14 (n k : Nd) : Nd := keep14 (hasV n.op) n k
def bare0 (n : Nd) : Nd := ⟨n.op, 0, 0, 0, 0, 0, 0, 0, 0, 0, 0, 0, 0, 0, 0, 0, 0, 0, 0, 0, 0, 0, 0, 0, 0, 0⟩
def bareN (n : Nd) : Nd := (bare14 n (bare13 n (bare12 n (bare11 n (bare10 n (bare9 n (bare8 n (bare7 n (bare6 n (bare5 n (bare4 n (bare3 n (bare2 n (bare1 n (bare0 n)))))))))))))))
def bareM (n : Nd) : Nd := ⟨n.op, bif hA n.op then n.a else 0, bif hB n.op then n.b else 0, bif hWin n.op then n.k0 else 0, bif hWin n.op then n.k1 else 0, bif hWin n.op then n.s0 else 0, bif hWin n.op then n.s1 else 0, bif hPad n.op then n.p0 else 0, bif hPad n.op then n.p1 else 0, bif hPad n.op then n.p2 else 0, bif hPad n.op then n.p3 else 0, bif hZa n.op then n.za else 0, bif hZb n.op then n.zb else 0, bif hZo n.op then n.zo else 0, bif hM n.op then n.m1 else 0, bif hN n.op then n.m2 else 0, bif hM n.op then n.t1 else 0, bif hN n.op then n.t2 else 0, bif hL n.op then n.lo else 0, bif hL n.op then n.hi else 0, bif hW n.op then n.w else 0, bif hI n.op then n.bias else 0, bif hC n.op then n.chans else 0, bif hS n.op then n.h0 else 0, bif hS n.op then n.h1 else 0, bif hS n.op then n.h2 else 0⟩
theorem bareM_1 {n : Nd} (h : 1 ≤ n.op ∧ n.op ≤ 14) (k : Nd) : bare1 n k = { k with a := bif hA n.op then n.a else k.a } := by
  unfold bare1 keep1
  cases e : hA n.op
  · rw [if_pos ((bit_1 h).2 e)]; rfl
  · rw [if_neg (fun g => by rw [(bit_1 h).1 g] at e; cases e)]; rfl
theorem bareM_2 {n : Nd} (h : 1 ≤ n.op ∧ n.op ≤ 14) (k : Nd) : bare2 n k = { k with b := bif hB n.op then n.b else k.b } := by
  unfold bare2 keep2
  cases e : hB n.op
  · rw [if_pos ((bit_2 h).2 e)]; rfl
  · rw [if_neg (fun g => by rw [(bit_2 h).1 g] at e; cases e)]; rfl
theorem bareM_3 {n : Nd} (h : 1 ≤ n.op ∧ n.op ≤ 14) (k : Nd) : bare3 n k = { k with k0 := bif hWin n.op then n.k0 else k.k0, k1 := bif hWin n.op then n.k1 else k.k1, s0 := bif hWin n.op then n.s0 else k.s0, s1 := bif hWin n.op then n.s1 else k.s1 } := by
  unfold bare3 keep3
  cases e : hWin n.op
  · rw [if_pos ((bit_3 h).2 e)]; rfl
  · rw [if_neg (fun g => by rw [(bit_3 h).1 g] at e; cases e)]; rfl
theorem bareM_4 {n : Nd} (h : 1 ≤ n.op ∧ n.op ≤ 14) (k : Nd) : bare4 n k = { k with p0 := bif hPad n.op then n.p0 else k.p0, p1 := bif hPad n.op then n.p1 else k.p1, p2 := bif hPad n.op then n.p2 else k.p2, p3 := bif hPad n.op then n.p3 else k.p3 } := by
  unfold bare4 keep4
  cases e : hPad n.op
  · rw [if_pos ((bit_4 h).2 e)]; rfl
  · rw [if_neg (fun g => by rw [(bit_4 h).1 g] at e; cases e)]; rfl
theorem bareM_5 {n : Nd} (h : 1 ≤ n.op ∧ n.op ≤ 14) (k : Nd) : bare5 n k = { k with za := bif hZa n.op then n.za else k.za } := by
  unfold bare5 keep5
  cases e : hZa n.op
  · rw [if_pos ((bit_5 h).2 e)]; rfl
  · rw [if_neg (fun g => by rw [(bit_5 h).1 g] at e; cases e)]; rfl
theorem bareM_6 {n : Nd} (h : 1 ≤ n.op ∧ n.op ≤ 14) (k : Nd) : bare6 n k = { k with zb := bif hZb n.op then n.zb else k.zb } := by
  unfold bare6 keep6
  cases e : hZb n.op
  · rw [if_pos ((bit_6 h).2 e)]; rfl
  · rw [if_neg (fun g => by rw [(bit_6 h).1 g] at e; cases e)]; rfl
theorem bareM_7 {n : Nd} (h : 1 ≤ n.op ∧ n.op ≤ 14) (k : Nd) : bare7 n k = { k with zo := bif hZo n.op then n.zo else k.zo } := by
  unfold bare7 keep7
  cases e : hZo n.op
  · rw [if_pos ((bit_7 h).2 e)]; rfl
  · rw [if_neg (fun g => by rw [(bit_7 h).1 g] at e; cases e)]; rfl
theorem bareM_8 {n : Nd} (h : 1 ≤ n.op ∧ n.op ≤ 14) (k : Nd) : bare8 n k = { k with m1 := bif hM n.op then n.m1 else k.m1, t1 := bif hM n.op then n.t1 else k.t1 } := by
  unfold bare8 keep8
  cases e : hM n.op
  · rw [if_pos ((bit_8 h).2 e)]; rfl
  · rw [if_neg (fun g => by rw [(bit_8 h).1 g] at e; cases e)]; rfl
theorem bareM_9 {n : Nd} (h : 1 ≤ n.op ∧ n.op ≤ 14) (k : Nd) : bare9 n k = { k with m2 := bif hN n.op then n.m2 else k.m2, t2 := bif hN n.op then n.t2 else k.t2 } := by
  unfold bare9 keep9
  cases e : hN n.op
  · rw [if_pos ((bit_9 h).2 e)]; rfl
  · rw [if_neg (fun g => by rw [(bit_9 h).1 g] at e; cases e)]; rfl
theorem bareM_10 {n : Nd} (h : 1 ≤ n.op ∧ n.op ≤ 14) (k : Nd) : bare10 n k = { k with lo := bif hL n.op then n.lo else k.lo, hi := bif hL n.op then n.hi else k.hi } := by
  unfold bare10 keep10
  cases e : hL n.op
  · rw [if_pos ((bit_10 h).2 e)]; rfl
  · rw [if_neg (fun g => by rw [(bit_10 h).1 g] at e; cases e)]; rfl
theorem bareM_11 {n : Nd} (h : 1 ≤ n.op ∧ n.op ≤ 14) (k : Nd) : bare11 n k = { k with w := bif hW n.op then n.w else k.w } := by
  unfold bare11 keep11
  cases e : hW n.op
  · rw [if_pos ((bit_11 h).2 e)]; rfl
  · rw [if_neg (fun g => by rw [(bit_11 h).1 g] at e; cases e)]; rfl
theorem bareM_12 {n : Nd} (h : 1 ≤ n.op ∧ n.op ≤ 14) (k : Nd) : bare12 n k = { k with bias := bif hI n.op then n.bias else k.bias } := by
  unfold bare12 keep12
  cases e : hI n.op
  · rw [if_pos ((bit_12 h).2 e)]; rfl
  · rw [if_neg (fun g => by rw [(bit_12 h).1 g] at e; cases e)]; rfl
theorem bareM_13 {n : Nd} (h : 1 ≤ n.op ∧ n.op ≤ 14) (k : Nd) : bare13 n k = { k with chans := bif hC n.op then n.chans else k.chans } := by
  unfold bare13 keep13
  cases e : hC n.op
  · rw [if_pos ((bit_13 h).2 e)]; rfl
  · rw [if_neg (fun g => by rw [(bit_13 h).1 g] at e; cases e)]; rfl
theorem bareM_14 {n : Nd} (h : 1 ≤ n.op ∧ n.op ≤ 14) (k : Nd) : bare14 n k = { k with h0 := bif hS n.op then n.h0 else k.h0, h1 := bif hS n.op then n.h1 else k.h1, h2 := bif hS n.op then n.h2 else k.h2 } := by
  unfold bare14 keep14
  cases e : hS n.op
  · rw [if_pos ((bit_14 h).2 e)]; rfl
  · rw [if_neg (fun g => by rw [(bit_14 h).1 g] at e; cases e)]; rfl
theorem bareN_eq {n : Nd} (h : 1 ≤ n.op ∧ n.op ≤ 14) : bareN n = bareM n := by
  unfold bareN
  rw [bareM_1 h, bareM_2 h, bareM_3 h, bareM_4 h, bareM_5 h, bareM_6 h, bareM_7 h, bareM_8 h, bareM_9 h, bareM_10 h, bareM_11 h, bareM_12 h, bareM_13 h, bareM_14 h]
  rfl
theorem bif_eq {b : Bool} {x : Int} : (bif b then x else 0) = x ↔ (b || x == 0) = true := by
  cases b
  · show (0 : Int) = x ↔ (x == 0) = true
    rw [beq_iff_eq]; exact eq_comm
  · exact ⟨fun _ => rfl, fun _ => rfl⟩
theorem bare_same {n : Nd} (h : 1 ≤ n.op ∧ n.op ≤ 14) : bareN n = n ↔ idleN n = true := by
  rw [bareN_eq h]
  have e : bareM n = n ↔ (bif hA n.op then n.a else 0) = n.a ∧ (bif hB n.op then n.b else 0) = n.b ∧ (bif hWin n.op then n.k0 else 0) = n.k0 ∧ (bif hWin n.op then n.k1 else 0) = n.k1 ∧ (bif hWin n.op then n.s0 else 0) = n.s0 ∧ (bif hWin n.op then n.s1 else 0) = n.s1 ∧ (bif hPad n.op then n.p0 else 0) = n.p0 ∧ (bif hPad n.op then n.p1 else 0) = n.p1 ∧ (bif hPad n.op then n.p2 else 0) = n.p2 ∧ (bif hPad n.op then n.p3 else 0) = n.p3 ∧ (bif hZa n.op then n.za else 0) = n.za ∧ (bif hZb n.op then n.zb else 0) = n.zb ∧ (bif hZo n.op then n.zo else 0) = n.zo ∧ (bif hM n.op then n.m1 else 0) = n.m1 ∧ (bif hN n.op then n.m2 else 0) = n.m2 ∧ (bif hM n.op then n.t1 else 0) = n.t1 ∧ (bif hN n.op then n.t2 else 0) = n.t2 ∧ (bif hL n.op then n.lo else 0) = n.lo ∧ (bif hL n.op then n.hi else 0) = n.hi ∧ (bif hW n.op then n.w else 0) = n.w ∧ (bif hI n.op then n.bias else 0) = n.bias ∧ (bif hC n.op then n.chans else 0) = n.chans ∧ (bif hS n.op then n.h0 else 0) = n.h0 ∧ (bif hS n.op then n.h1 else 0) = n.h1 ∧ (bif hS n.op then n.h2 else 0) = n.h2 := by
    constructor
    · intro g
      exact ⟨congrArg Nd.a g, congrArg Nd.b g, congrArg Nd.k0 g, congrArg Nd.k1 g, congrArg Nd.s0 g, congrArg Nd.s1 g, congrArg Nd.p0 g, congrArg Nd.p1 g, congrArg Nd.p2 g, congrArg Nd.p3 g, congrArg Nd.za g, congrArg Nd.zb g, congrArg Nd.zo g, congrArg Nd.m1 g, congrArg Nd.m2 g, congrArg Nd.t1 g, congrArg Nd.t2 g, congrArg Nd.lo g, congrArg Nd.hi g, congrArg Nd.w g, congrArg Nd.bias g, congrArg Nd.chans g, congrArg Nd.h0 g, congrArg Nd.h1 g, congrArg Nd.h2 g⟩
    · rintro ⟨e0, e1, e2, e3, e4, e5, e6, e7, e8, e9, e10, e11, e12, e13, e14, e15, e16, e17, e18, e19, e20, e21, e22, e23, e24⟩
      show Nd.mk n.op (bif hA n.op then n.a else 0) (bif hB n.op then n.b else 0) (bif hWin n.op then n.k0 else 0) (bif hWin n.op then n.k1 else 0) (bif hWin n.op then n.s0 else 0) (bif hWin n.op then n.s1 else 0) (bif hPad n.op then n.p0 else 0) (bif hPad n.op then n.p1 else 0) (bif hPad n.op then n.p2 else 0) (bif hPad n.op then n.p3 else 0) (bif hZa n.op then n.za else 0) (bif hZb n.op then n.zb else 0) (bif hZo n.op then n.zo else 0) (bif hM n.op then n.m1 else 0) (bif hN n.op then n.m2 else 0) (bif hM n.op then n.t1 else 0) (bif hN n.op then n.t2 else 0) (bif hL n.op then n.lo else 0) (bif hL n.op then n.hi else 0) (bif hW n.op then n.w else 0) (bif hI n.op then n.bias else 0) (bif hC n.op then n.chans else 0) (bif hS n.op then n.h0 else 0) (bif hS n.op then n.h1 else 0) (bif hS n.op then n.h2 else 0) = Nd.mk n.op n.a n.b n.k0 n.k1 n.s0 n.s1 n.p0 n.p1 n.p2 n.p3 n.za n.zb n.zo n.m1 n.m2 n.t1 n.t2 n.lo n.hi n.w n.bias n.chans n.h0 n.h1 n.h2
      rw [e0, e1, e2, e3, e4, e5, e6, e7, e8, e9, e10, e11, e12, e13, e14, e15, e16, e17, e18, e19, e20, e21, e22, e23, e24]
  rw [e]
  unfold idleN
  clear e
  simp only [bif_eq, Bool.and_eq_true, Bool.or_eq_true, or_and_left, and_assoc]
  constructor
  · rintro ⟨x_a, x_b, x_k0, x_k1, x_s0, x_s1, x_p0, x_p1, x_p2, x_p3, x_za, x_zb, x_zo, x_m1, x_m2, x_t1, x_t2, x_lo, x_hi, x_w, x_bias, x_chans, x_h0, x_h1, x_h2⟩
    exact ⟨x_a, x_b, x_k0, x_k1, x_s0, x_s1, x_p0, x_p1, x_p2, x_p3, x_za, x_zb, x_zo, x_m1, x_t1, x_m2, x_t2, x_lo, x_hi, x_w, x_bias, x_chans, x_h0, x_h1, x_h2⟩
  · rintro ⟨x_a, x_b, x_k0, x_k1, x_s0, x_s1, x_p0, x_p1, x_p2, x_p3, x_za, x_zb, x_zo, x_m1, x_t1, x_m2, x_t2, x_lo, x_hi, x_w, x_bias, x_chans, x_h0, x_h1, x_h2⟩
    exact ⟨x_a, x_b, x_k0, x_k1, x_s0, x_s1, x_p0, x_p1, x_p2, x_p3, x_za, x_zb, x_zo, x_m1, x_m2, x_t1, x_t2, x_lo, x_hi, x_w, x_bias, x_chans, x_h0, x_h1, x_h2⟩
end Go.Proofs.Ytekdcfepfieleaa
