/- Contracts of the program's Taps where there is nothing to tell, and of the document's Same. -/
import Derived.Test.YtgemajmimjkgcaaWinP
import Derived.Test.YtgemajmimjkgcaaWinH
namespace Go.Proofs.Ytgemajmimjkgcaa
open Go Go.RowKit Pl
set_option linter.unusedVariables false

set_option maxHeartbeats 2000000 in
theorem taps_bad (n0 n1 k0 k1 s0 s1 p0 p1 q0 q1 y x : Int) (w : World) (hg : (gdW n0 k0 s0 p0 q0 && gdW n1 k1 s1 p1 q1) = false) :
    Calls Try.prog 15 #[.agg #[.int .i64 n0, .int .i64 n1], .agg #[.int .i64 k0, .int .i64 k1], .agg #[.int .i64 s0, .int .i64 s1], .agg #[.int .i64 p0, .int .i64 p1, .int .i64 q0, .int .i64 q1], .int .i64 y, .int .i64 x] w fun e w' => e = .returned (.tuple #[.slice none 0 0, .bool false]) ∧ Below w.heap.size w w' := by
  have OA := Lib.hid (out_any n0 n1 k0 k1 s0 s1 p0 p1 q0 q1)
  have HG := Lib.hid hg
  clear hg
  go_enter Try.func15, Try.ntmps15
  go_wp2_with fail
  refine (OA.out _).mono ?_
  rintro e w1 ⟨rfl, b1⟩
  rw [HG.out]
  simp only [Bool.false_eq_true, if_false]
  have B1 := Lib.hid (show Below w.heap.size w (w1.alloc (.cells #[.int .i64 0, .int .i64 0] 22)) from (Below.trans (show Below w.heap.size w ((((w.alloc (.cells #[.int .i64 n0, .int .i64 n1] 22)).alloc (.cells #[.int .i64 k0, .int .i64 k1] 22)).alloc (.cells #[.int .i64 s0, .int .i64 s1] 22)).alloc (.cells #[.int .i64 p0, .int .i64 p1, .int .i64 q0, .int .i64 q1] 23)) by go_grown) (b1.mono (by simp; omega))).alloc (by have := b1.size; simp at this; omega) _)
  clear b1
  go_wp2_with fail
  refine bodyPost_ret (v := .tuple #[.slice none 0 0, .bool false]) (by simp [results, Try.results15, go_sem]) rfl ⟨rfl, ?_⟩
  exact B1.out
set_option maxHeartbeats 2000000 in
theorem taps_out (n0 n1 k0 k1 s0 s1 p0 p1 q0 q1 y x : Int) (w : World) (g0 : gdW n0 k0 s0 p0 q0 = true) (g1 : gdW n1 k1 s1 p1 q1 = true) (h : (inB y 0 (odW n0 k0 s0 p0 q0 - 1) && inB x 0 (odW n1 k1 s1 p1 q1 - 1)) = false) :
    Calls Try.prog 15 #[.agg #[.int .i64 n0, .int .i64 n1], .agg #[.int .i64 k0, .int .i64 k1], .agg #[.int .i64 s0, .int .i64 s1], .agg #[.int .i64 p0, .int .i64 p1, .int .i64 q0, .int .i64 q1], .int .i64 y, .int .i64 x] w fun e w' => e = .returned (.tuple #[.slice none 0 0, .bool false]) ∧ Below w.heap.size w w' := by
  have OA := Lib.hid (out_any n0 n1 k0 k1 s0 s1 p0 p1 q0 q1)
  have HG := Lib.hid (show (gdW n0 k0 s0 p0 q0 && gdW n1 k1 s1 p1 q1) = true by rw [g0, g1]; rfl)
  have x0 := od_bd g0
  have x1 := od_bd g1
  obtain ⟨D0, hD0⟩ : ∃ D, odW n0 k0 s0 p0 q0 = D := ⟨_, rfl⟩
  obtain ⟨D1, hD1⟩ : ∃ D, odW n1 k1 s1 p1 q1 = D := ⟨_, rfl⟩
  rw [hD0] at OA x0 h
  rw [hD1] at OA x1 h
  clear g0 g1 hD0 hD1
  have e1 := IntWalk.i64_in (D0 - 1) (by omega)
  have e2 := IntWalk.i64_in (D1 - 1) (by omega)
  have HH := Lib.hid h
  clear h
  go_enter Try.func15, Try.ntmps15
  go_wp2_with fail
  refine (OA.out _).mono ?_
  rintro e w1 ⟨rfl, b1⟩
  rw [HG.out]
  simp only [if_true]
  have B1 := Lib.hid (show Below w.heap.size w (w1.alloc (.cells #[.int .i64 D0, .int .i64 D1] 22)) from (Below.trans (show Below w.heap.size w ((((w.alloc (.cells #[.int .i64 n0, .int .i64 n1] 22)).alloc (.cells #[.int .i64 k0, .int .i64 k1] 22)).alloc (.cells #[.int .i64 s0, .int .i64 s1] 22)).alloc (.cells #[.int .i64 p0, .int .i64 p1, .int .i64 q0, .int .i64 q1] 23)) by go_grown) (b1.mono (by simp; omega))).alloc (by have := b1.size; simp at this; omega) _)
  clear b1
  go_wp2_with fail
  refine (within_any _ _ _ _).mono ?_
  rintro e w9 ⟨rfl, rfl⟩
  cases hy : inB y 0 (D0 - 1)
  · go_wp2_with fail
    refine bodyPost_ret (v := .tuple #[.slice none 0 0, .bool false]) (by simp [results, Try.results15, go_sem]) rfl ⟨rfl, ?_⟩
    exact B1.out
  · have hx : inB x 0 (D1 - 1) = false := by have := HH.out; rw [hy] at this; simpa using this
    go_wp2_with fail
    refine (within_any _ _ _ _).mono ?_
    rintro e w9 ⟨rfl, rfl⟩
    rw [hx]
    go_wp2_with fail
    refine bodyPost_ret (v := .tuple #[.slice none 0 0, .bool false]) (by simp [results, Try.results15, go_sem]) rfl ⟨rfl, ?_⟩
    exact B1.out

/-- a slice of pairs that is read -/
def Pairs (v : Value) (n : Nat) (xs : List Value) (w : World) : Prop := ∃ (g cap : Nat), v = .slice (some ⟨g, 0, none⟩) n cap ∧ g < w.heap.size ∧ ∀ j u, xs[j]? = some u → w.cell? ⟨g, j, none⟩ = some u
theorem Pairs.later {v : Value} {n : Nat} {xs : List Value} {w w' : World} (h : Pairs v n xs w) (hb : Below w.heap.size w w') : Pairs v n xs w' := by
  obtain ⟨g, cap, hv, hg, hc⟩ := h
  exact ⟨g, cap, hv, Nat.lt_of_lt_of_le hg hb.size, fun j u hj => (hb.cell (by exact hg)).trans (hc j u hj)⟩
theorem pairs_own {w : World} {base n : Nat} {e : TypeId} {v : Value} {xs : List Value} (h : w.ownsRow base e 2 v n xs) (hn : 1 ≤ n) : Pairs v n xs w := by
  have hlt := h.lt
  have h' := h
  obtain ⟨hl, ⟨hv, hz⟩ | ⟨g, cap, cur, hv, hg, hh, hc, hcm, hs, hx⟩⟩ := h
  · omega
  · refine ⟨g, cap, hv, (hlt g (by rw [hv]; rfl)).2, fun j u hj => ?_⟩
    rw [hv] at h'
    obtain ⟨hjl, _⟩ := List.getElem?_eq_some_iff.1 hj
    rw [h'.cellAt j (by omega)]
    exact hj
set_option maxHeartbeats 2000000 in
theorem same_any (u v : Value) (n : Nat) (xs : List Value) (w : World) (hn : n ≤ 64) (hx : ∀ i, i < n → ∃ x y, xs[2 * i]? = some (.int .i64 x) ∧ xs[2 * i + 1]? = some (.int .i64 y)) (hu : Pairs u n xs w) (hv : Pairs v n xs w) :
    Calls Try.prog 19 #[u, v] w fun e w' => e = .returned (.bool true) ∧ Below w.heap.size w w' := by
  obtain ⟨g, cap, rfl, hg, hc⟩ := hu
  obtain ⟨g2, cap2, rfl, hg2, hc2⟩ := hv
  have HC := Lib.hid hc
  have HC2 := Lib.hid hc2
  have HX := Lib.hid hx
  clear hc hc2 hx
  go_enter Try.func19, Try.ntmps19
  have eq2 := fun (x y a b : Int) (w : World) => eqA2 Try.underlying22 Try.underlying3 infoW cellsW x y a b w
  go_wp2_with fail
  go_loopw [5] (fun i wr => ∃ (m : Nat), m ≤ n ∧ i = .int .i64 m ∧ Below w.heap.size w wr) (fun i _ => n - (intOf i).toNat)
  case atStart => exact ⟨0, by omega, rfl, Below.refl _ _⟩
  case round =>
    obtain ⟨m, hm, rfl, hb⟩ := hrel
    by_cases hlm : m < n
    · obtain ⟨x, y, hx, hy⟩ := HX.out m hlm
      rw [Nat.mul_comm] at hx hy
      have c0 := (hb.cell (p := ⟨g, m * 2, none⟩) hg).trans (HC.out _ _ hx)
      have c1 := (hb.cell (p := ⟨g, m * 2 + 1, none⟩) hg).trans (HC.out _ _ hy)
      have d0 := (hb.cell (p := ⟨g2, m * 2, none⟩) hg2).trans (HC2.out _ _ hx)
      have d1 := (hb.cell (p := ⟨g2, m * 2 + 1, none⟩) hg2).trans (HC2.out _ _ hy)
      have u1 := IntWalk.i64_in ((m : Int) + 1) (by omega)
      have t1 : decide ((m : Int) < (n : Int)) = true := by simp; omega
      have HB := Lib.hid hb
      have HX2 := Lib.hid (And.intro hx hy)
      clear hb hx hy
      go_wp2_with fail
      go_region
      all_goals (have HB3 := Lib.hid (show Below w.heap.size w wr.drew from HB.out.drew))
      go_wp2_with fail
      exact ⟨⟨m + 1, by omega, rfl, HB3.out⟩, by simp [intOf]; omega⟩
    · obtain rfl : n = m := by omega
      have t1 : decide ((n : Int) < (n : Int)) = false := by simp
      have HB := Lib.hid hb
      clear hb
      go_wp2_with fail
      go_ret
      exact ⟨rfl, HB.out⟩
end Go.Proofs.Ytgemajmimjkgcaa
