/- Contracts of the document's blocks: which one is ahead, and which is next. -/
import Derived.Test.YtmmhoemddfncmaaArE
namespace Go.Proofs.Ytmmhoemddfncmaa
open Go Go.RowKit
set_option linter.unusedVariables false

theorem aheadQ_val (l : List Q3) (i k : Int) : aheadQ l i k = if (qAt l i).s ≠ (qAt l k).s then decide ((qAt l k).s < (qAt l i).s) else if (qAt l i).f ≠ (qAt l k).f then decide ((qAt l i).f < (qAt l k).f) else decide (i < k) := rfl
set_option maxRecDepth 100000 in
set_option maxHeartbeats 2000000 in
theorem rahead_any (a : Option Addr) (c : Nat) (l : List Q3) (w : World) (hl : B3 w a l) (i k : Int) (hi : InL l i) (hk : InL l k) :
    Calls Try.prog 31 #[.slice a l.length c, .int .i64 i, .int .i64 k] w fun e w' => e = .returned (.bool (aheadQ l i k)) ∧ Below w.heap.size w w' := by
  have hlen := hl.1
  obtain ⟨ni, b, off, ei, hni, rfl, hb, x0, x1, x2⟩ := b3_at hl hi
  obtain ⟨nk, b', off', ek, hnk, e', _, y0, y1, y2⟩ := b3_at hl hk
  obtain ⟨rfl, rfl⟩ : b = b' ∧ off = off' := by simpa using e'
  rw [aheadQ_val]
  obtain ⟨sx, hsx⟩ : ∃ z, z = (qAt l i).s := ⟨_, rfl⟩
  obtain ⟨fx, hfx⟩ : ∃ z, z = (qAt l i).f := ⟨_, rfl⟩
  obtain ⟨sy, hsy⟩ : ∃ z, z = (qAt l k).s := ⟨_, rfl⟩
  obtain ⟨fy, hfy⟩ : ∃ z, z = (qAt l k).f := ⟨_, rfl⟩
  rw [← hsx, ← hfx, ← hsy, ← hfy]
  rw [← hsx] at x0
  rw [← hfx] at x1
  rw [← hsy] at y0
  rw [← hfy] at y1
  clear hsx hfx hsy hfy x2 y2 e' hl hi hk
  subst ei ek
  have q0 : (0 : Int) ≤ (ni : Int) := by omega
  have q1 : (ni : Int) < (l.length : Int) := by omega
  have q2 : (0 : Int) ≤ (nk : Int) := by omega
  have q3 : (nk : Int) < (l.length : Int) := by omega
  by_cases h1 : sx = sy
  · subst h1
    rw [if_neg (by simp)]
    have t1 : (sx != sx) = false := by simp
    by_cases h2 : fx = fy
    · subst h2
      rw [if_neg (by simp)]
      have t2 : (fx != fx) = false := by simp
      go_enter Try.func31, Try.ntmps31
      go_wp2_with fail
      go_quiet (fail)
      go_wp2_with fail
      go_quiet (fail)
      go_wp2_with fail
      go_ret
      exact ⟨ret_b (by first | rfl | (rw [decide_eq_decide]; omega)), by repeat (first | exact Below.refl _ _ | refine below_dN ?_ ())⟩
    · rw [if_pos h2]
      have t2 : (fx != fy) = true := by simpa using h2
      clear h2
      go_enter Try.func31, Try.ntmps31
      go_wp2_with fail
      go_quiet (fail)
      go_wp2_with fail
      go_quiet (fail)
      go_wp2_with fail
      go_quiet (fail)
      go_wp2_with fail
      go_ret
      exact ⟨rfl, by repeat (first | exact Below.refl _ _ | refine below_dN ?_ ())⟩
  · rw [if_pos h1]
    have t1 : (sx != sy) = true := by simpa using h1
    clear h1
    go_enter Try.func31, Try.ntmps31
    go_wp2_with fail
    go_quiet (fail)
    go_wp2_with fail
    go_quiet (fail)
    go_wp2_with fail
    go_ret
    exact ⟨rfl, by repeat (first | exact Below.refl _ _ | refine below_dN ?_ ())⟩

/-! ### the next one -/
def nxt (l : List Q3) (A : List Int) (k : Nat) : Int := (rangeI k).foldl (nextT l A) (-1)
theorem rangeI_next (k : Nat) : rangeI (k + 1) = rangeI k ++ [(k : Int)] := by simp [rangeI, List.range_succ]
theorem nxt_next (l : List Q3) (A : List Int) (k : Nat) : nxt l A (k + 1) = nextT l A (nxt l A k) (k : Int) := by
  unfold nxt
  rw [rangeI_next, List.foldl_append]
  rfl
theorem nxt_in (l : List Q3) (A : List Int) : ∀ k, nxt l A k = -1 ∨ (0 ≤ nxt l A k ∧ nxt l A k < k)
  | 0 => .inl rfl
  | k + 1 => by
    rw [nxt_next]
    unfold nextT
    split
    · right; omega
    · rcases nxt_in l A k with h | h
      · exact .inl h
      · right; omega
/-- numbers at a place -/
def NAt (w : World) (a : Option Addr) (A : List Int) (n : Nat) : Prop := A.length = n ∧ (n = 0 ∨ ∃ g o, a = some ⟨g, o, none⟩ ∧ g < w.heap.size ∧ ∀ k : Nat, k < n → w.cell? ⟨g, o + k, none⟩ = some (.int .i64 (wA A (k : Int))))
theorem NAt.later {w w' : World} {a : Option Addr} {A : List Int} {n : Nat} (h : NAt w a A n) (hb : Below w.heap.size w w') : NAt w' a A n := by
  obtain ⟨h1, h | ⟨g, o, e, hg, hc⟩⟩ := h
  · exact ⟨h1, .inl h⟩
  · exact ⟨h1, .inr ⟨g, o, e, Nat.lt_of_lt_of_le hg hb.size, fun k hk => (hb.cell hg).trans (hc k hk)⟩⟩

set_option maxRecDepth 100000 in
set_option maxHeartbeats 2000000 in
theorem rnext_any (a : Option Addr) (c : Nat) (l : List Q3) (a2 : Option Addr) (c2 : Nat) (A : List Int) (w : World) (hl : B3 w a l) (hA : NAt w a2 A l.length) :
    Calls Try.prog 21 #[.slice a l.length c, .slice a2 l.length c2] w fun e w' => e = .returned (.int .i64 (nextR l A)) ∧ Below w.heap.size w w' := by
  have hlen := hl.1
  have HL := Lib.hid hl
  have HA := Lib.hid hA
  obtain ⟨n, hn⟩ : ∃ n, n = l.length := ⟨_, rfl⟩
  have HN := Lib.hid hn
  have ER := Lib.hid (show nextR l A = nxt l A n by rw [hn]; rfl)
  obtain ⟨res, hres⟩ : ∃ r, r = nextR l A := ⟨_, rfl⟩
  rw [← hres, ← hn]
  rw [← hres] at ER
  rw [← hn] at HA
  have hn2 : n ≤ 1000000000000 := by omega
  clear hl hA hn hres hlen
  go_enter Try.func21, Try.ntmps21
  go_wp2_with fail
  go_loopw [5, 6] (fun b i wr => ∃ k : Nat, k ≤ n ∧ b = .int .i64 (nxt l A k) ∧ i = .int .i64 k ∧ Below w.heap.size w wr) (fun _ i _ => n - (intOf i).toNat)
  case atStart => exact ⟨0, Nat.zero_le _, rfl, rfl, Below.refl _ _⟩
  case round =>
    obtain ⟨k, hk, rfl, rfl, hb⟩ := hrel
    have HB := Lib.hid hb
    have hws := hb.size
    obtain ⟨b, hbb⟩ : ∃ b, b = nxt l A k := ⟨_, rfl⟩
    have NX := Lib.hid (nxt_next l A k)
    have bin := nxt_in l A k
    rw [← hbb] at NX bin ⊢
    clear hb
    by_cases hlt : k < n
    · obtain ⟨_, h0 | ⟨g, o, rfl, hg, hc⟩⟩ := HA.out
      · omega
      have ck := (HB.out.cell (p := ⟨g, o + k, none⟩) hg).trans (hc k hlt)
      obtain ⟨v, hv⟩ : ∃ v, v = wA A (k : Int) := ⟨_, rfl⟩
      have HV := Lib.hid hv
      rw [← hv] at ck
      have hgr : g < wr.heap.size := by omega
      have k0 : (0 : Int) ≤ (k : Int) := by omega
      have kn : (k : Int) < (n : Int) := by omega
      have L1 := Lib.hid (HL.out.later HB.out)
      clear hbb hc hv
      by_cases hv0 : v < 0
      · have t1 : decide (v < 0) = true := by simpa using hv0
        by_cases hb0 : b < 0
        · have t2 : decide (b < 0) = true := by simpa using hb0
          have E := NX.out
          unfold nextT at E
          rw [← HV.out, if_pos ⟨hv0, .inl hb0⟩] at E
          have E := Lib.hid E
          clear NX hv0 hb0 bin
          go_wp2_with fail
          refine ⟨⟨k + 1, by omega, by rw [E.out], by simp, HB.out⟩, by simp [intOf]; omega⟩
        · have t2 : decide (b < 0) = false := by simpa using hb0
          have AH := Lib.hid (rahead_any a c l wr L1.out (k : Int) b ⟨by omega, by have := HN.out; omega⟩ ⟨by omega, by have := HN.out; omega⟩)
          rw [← HN.out] at AH
          cases ha : aheadQ l (k : Int) b with
          | true =>
            have E := NX.out
            unfold nextT at E
            rw [← HV.out, if_pos ⟨hv0, .inr ha⟩] at E
            have E := Lib.hid E
            rw [ha] at AH
            clear NX hv0 hb0 bin ha
            go_wp2_with fail
            refine AH.out.mono ?_
            rintro e w5 ⟨rfl, h5⟩
            have B5 := Lib.hid (HB.out.trans (h5.mono hws))
            clear h5
            go_wp2_with fail
            refine ⟨⟨k + 1, by omega, by rw [E.out], by simp, B5.out⟩, by simp [intOf]; omega⟩
          | false =>
            have E := NX.out
            unfold nextT at E
            rw [← HV.out, if_neg (by rw [ha]; simp; omega)] at E
            have E := Lib.hid E
            rw [ha] at AH
            clear NX hv0 hb0 bin ha
            go_wp2_with fail
            refine AH.out.mono ?_
            rintro e w5 ⟨rfl, h5⟩
            have B5 := Lib.hid (HB.out.trans (h5.mono hws))
            clear h5
            go_wp2_with fail
            refine ⟨⟨k + 1, by omega, by rw [E.out], by simp, B5.out⟩, by simp [intOf]; omega⟩
      · have t1 : decide (v < 0) = false := by simpa using hv0
        have E := NX.out
        unfold nextT at E
        rw [← HV.out, if_neg (fun h => hv0 h.1)] at E
        have E := Lib.hid E
        clear NX hv0 bin
        go_wp2_with fail
        refine ⟨⟨k + 1, by omega, by rw [E.out], by simp, HB.out⟩, by simp [intOf]; omega⟩
    · have hk2 : k = n := by omega
      have R := Lib.hid (show res = b by rw [hbb, hk2]; exact ER.out)
      clear hbb NX bin
      go_wp2_with fail
      go_ret
      exact ⟨by rw [R.out]; rfl, HB.out⟩
end Go.Proofs.Ytmmhoemddfncmaa
