/- Contract of pintleref17.times. -/
import Derived.Test.YtolohbegdjnjnaaAwW
namespace Go.Proofs.Ytolohbegdjnjnaa
open Go Go.RowKit
set_option linter.unusedVariables false

def tqN (O : List Nat) (i k : Nat) (x : Q5) : Nat := 8 ^ deepS O i (min k (i + 1)) x
theorem tq_0 (O : List Nat) (i : Nat) (x : Q5) : tqN O i 0 x = 1 := by unfold tqN; rw [Nat.zero_min, deep_0]
theorem tq_end {l : List Q5} {P Pi : List Int} {i : Nat} {O : List Nat} {x : Q5} (h : InvM l P i Pi O) (hi : i < l.length) : tqN O i l.length x = 8 ^ dIn x O.length := by
  unfold tqN
  rw [Nat.min_eq_right (by omega), deep_end (fun b hb => (h.2.1 b hb).1)]
  unfold dIn
  split <;> rfl
theorem tq_next {l : List Q5} {P Pi : List Int} {i k : Nat} {O : List Nat} {x y : Q5} {z : Int} (h : InvM l P i Pi O) (hx : l[i]? = some x) (hi : i < l.length) (hy : l[k]? = some y) (hz : P[k]? = some z) :
    tqN O i (k + 1) x = if y.o = 23 ∧ k ≤ i ∧ (i : Int) ≤ z then tqN O i k x * 8 else tqN O i k x := by
  have hOl : ∀ b ∈ O, b < i := fun b hb => (h.2.1 b hb).1
  unfold tqN
  rcases Nat.lt_trichotomy k i with hk | hk | hk
  · rw [Nat.min_eq_left (show k + 1 ≤ i + 1 by omega), Nat.min_eq_left (show k ≤ i + 1 by omega), deep_lt h.2.2.1 hk]
    by_cases h23 : y.o = 23
    · obtain ⟨z', hz', hiff⟩ := inv_open h (by omega) k y hk hy h23
      rw [hz] at hz'
      obtain rfl : z = z' := Option.some.inj hz'
      by_cases hq : (i : Int) ≤ z
      · rw [if_pos (hiff.2 hq), if_pos ⟨h23, by omega, hq⟩, Nat.pow_succ]
      · rw [if_neg (fun g => hq (hiff.1 g)), if_neg (fun g => hq g.2.2), Nat.add_zero]
    · have hkO : k ∉ O := by
        intro g
        obtain ⟨_, y', h1, h2⟩ := h.2.1 k g
        rw [hy] at h1
        obtain rfl := Option.some.inj h1
        exact h23 h2
      rw [if_neg hkO, if_neg (fun g => h23 g.1), Nat.add_zero]
  · subst hk
    rw [hx] at hy
    obtain rfl := Option.some.inj hy
    rw [Nat.min_eq_left (Nat.le_refl _), Nat.min_eq_left (show k ≤ k + 1 by omega), deep_i h.2.2.1 hOl]
    by_cases h23 : x.o = 23
    · obtain ⟨z', hz', hzi⟩ := inv_self h hx h23
      rw [hz] at hz'
      obtain rfl : z = z' := Option.some.inj hz'
      rw [if_pos h23, if_pos ⟨h23, Nat.le_refl _, hzi⟩, Nat.pow_succ]
    · rw [if_neg h23, if_neg (fun g => h23 g.1), Nat.add_zero]
  · rw [Nat.min_eq_right (by omega), Nat.min_eq_right (by omega), if_neg (fun g => by omega)]
theorem tq_le {O : List Nat} {i k : Nat} {x : Q5} (h : O.length ≤ 10) : tqN O i k x ≤ 8589934592 := by
  unfold tqN
  have h1 := deep_le O i (min k (i + 1)) x
  have h2 := Nat.pow_le_pow_right (n := 8) (by omega) (show deepS O i (min k (i + 1)) x ≤ 11 by omega)
  simpa using h2

set_option maxRecDepth 100000 in
set_option maxHeartbeats 3000000 in
theorem times_any (a a2 : Option Addr) (c c2 : Nat) (l : List Q5) (P : List Int) (i d : Nat) (x : Q5) (w : World) (hl : L5 w a l) (hpl : P.length = l.length) (hP : P = [] ∨ ∃ g, a2 = some ⟨g, 0, none⟩ ∧ g < w.heap.size ∧ ∀ k x, P[k]? = some x → w.cell? ⟨g, k, none⟩ = some (.int .i64 x)) (hi : i < l.length) (hx : l[i]? = some x) (hst : StW l P i d) :
    Calls Try.prog 52 #[.slice a l.length c, .slice a2 P.length c2, .int .i64 i] w (fun e w' => e = .returned (.int .i64 ((8 ^ dIn x d : Nat) : Int)) ∧ w = w') := by
  obtain ⟨Pi, O, hinv, rfl, h10, _⟩ := hst
  obtain ⟨hlen, hnil | ⟨bb, off, rfl, hbb, hc⟩⟩ := hl
  · rw [hnil] at hi; simp at hi
  rcases hP with hnil | ⟨g, rfl, hg, hcp⟩
  · rw [hnil] at hpl; simp at hpl; omega
  obtain ⟨N, hNN⟩ : ∃ N : Nat, N = 8 ^ dIn x O.length := ⟨_, rfl⟩
  rw [← hNN]
  have CL := Lib.hid hc
  have CP := Lib.hid hcp
  have TN := Lib.hid (fun k y z => tq_next (k := k) (y := y) (z := z) hinv hx hi)
  have TE := Lib.hid ((tq_end (x := x) hinv hi).trans hNN.symm)
  have T0 := Lib.hid (tq_0 O i x)
  have TL := Lib.hid (fun k => tq_le (i := i) (k := k) (x := x) h10)
  have HPL := Lib.hid hpl
  clear hc hcp hinv hx hNN
  go_enter Try.func52, Try.ntmps52
  go_wp2_with fail
  go_loop [7, 8] (fun v7 kk => ∃ k n : Nat, k ≤ l.length ∧ kk = .int .i64 k ∧ v7 = .int .i64 n ∧ n = tqN O i k x) (fun _ kk => l.length - (intOf kk).toNat)
  case atStart => exact ⟨0, 1, Nat.zero_le _, rfl, rfl, T0.out.symm⟩
  case round =>
    obtain ⟨k, n, hk, rfl, rfl, hn⟩ := hrel
    have hnb : n ≤ 8589934592 := by rw [hn]; exact TL.out k
    have HN := Lib.hid hn
    clear hn
    by_cases hlt : k < l.length
    · obtain ⟨y, hy⟩ := lookup hlt
      obtain ⟨z, hz⟩ := lookup (l := P) (k := k) (by rw [HPL.out]; exact hlt)
      have hkP : k < P.length := by rw [HPL.out]; exact hlt
      have T := Lib.hid (TN.out k y z hy hz)
      obtain ⟨yo, yd, ya, yb, yi⟩ := y
      have p0 := (CL.out k _ hy).1
      have cz := CP.out k z hz
      clear hy hz
      by_cases h23 : yo = 23
      · have t23 : (yo == 23) = true := by simp [h23]
        have H23 := Lib.hid h23
        clear h23
        by_cases hki : k ≤ i
        · have tki : decide (k ≤ i) = true := by simpa using hki
          by_cases hiz : (i : Int) ≤ z
          · have tiz : decide ((i : Int) ≤ z) = true := by simpa using hiz
            obtain ⟨n2, hn2⟩ : ∃ n2 : Nat, n2 = n * 8 := ⟨_, rfl⟩
            have e8 : (n : Int) * 8 = (n2 : Int) := by omega
            have HN2 := Lib.hid hn2
            have HC := Lib.hid (And.intro hki hiz)
            clear hn2 hiz
            go_wp2_with fail
            refine ⟨⟨k + 1, n2, by omega, rfl, rfl, ?_⟩, by simp [intOf]; omega⟩
            rw [T.out, if_pos ⟨H23.out, HC.out⟩, HN2.out, HN.out]
          · have tiz : decide ((i : Int) ≤ z) = false := by simpa using hiz
            have HC := Lib.hid hiz
            clear hiz
            go_wp2_with fail
            refine ⟨⟨k + 1, n, by omega, rfl, rfl, ?_⟩, by simp [intOf]; omega⟩
            rw [T.out, if_neg (fun g => HC.out g.2.2), HN.out]
        · have tki : decide (k ≤ i) = false := by simpa using hki
          have HC := Lib.hid hki
          clear hki
          go_wp2_with fail
          refine ⟨⟨k + 1, n, by omega, rfl, rfl, ?_⟩, by simp [intOf]; omega⟩
          rw [T.out, if_neg (fun g => HC.out g.2.1), HN.out]
      · have t23 : (yo == 23) = false := by simp [h23]
        have HC := Lib.hid h23
        clear h23
        go_wp2_with fail
        refine ⟨⟨k + 1, n, by omega, rfl, rfl, ?_⟩, by simp [intOf]; omega⟩
        rw [T.out, if_neg (fun g => HC.out g.1), HN.out]
    · obtain rfl : k = l.length := by omega
      obtain rfl : n = N := HN.out.trans TE.out
      go_wp2_with fail
      go_ret
      exact ⟨rfl, rfl⟩
end Go.Proofs.Ytolohbegdjnjnaa
