/- Contract of the document's Taps of windows: how many places of a kernel lie over the input. -/
import Derived.Test.YtgemajmimjkgcaaOpen
import Derived.Test.YtgemajmimjkgcaaTapsP
import Derived.Test.YtgemajmimjkgcaaTapsR
import Derived.Test.YtgemajmimjkgcaaProg
import Derived.WalkSpells
import Derived.WalkSmall
import Derived.Handy
import Derived.Lib.Hide
import Derived.BigQuiet
import Derived.Laws.StructEq
import Derived.Deep.QuietTactic
import Derived.OwnWalk
import Derived.Deep.OwnRows
import Derived.Deep.LoopGhost

namespace Go.Proofs.Ytgemajmimjkgcaa
open Go Go.RowKit Pl
set_option linter.unusedVariables false

theorem mul_bdT {x s : Int} (h0 : 0 ≤ x) (h1 : x ≤ 1001) (g0 : 1 ≤ s) (g1 : s ≤ 8) : 0 ≤ x * s ∧ x * s ≤ 8008 := by
  refine ⟨Int.mul_nonneg h0 (by omega), ?_⟩
  have := Int.mul_le_mul h1 g1 (by omega) (by omega)
  omega
theorem kk_bd {k0 k1 : Int} (h : 1 ≤ k0 ∧ k0 ≤ 8) (g : 1 ≤ k1 ∧ k1 ≤ 8) : 1 ≤ k0 * k1 ∧ k0 * k1 ≤ 64 := by
  have a := Int.mul_le_mul h.1 g.1 (by omega) (by omega)
  have b := Int.mul_le_mul h.2 g.2 (by omega) (by omega)
  omega
theorem dm_bd {n k : Int} (hn : 0 ≤ n ∧ n ≤ 64) (hk : 1 ≤ k ∧ k ≤ 8) : (0 ≤ n / k ∧ n / k ≤ 64) ∧ (0 ≤ n % k ∧ n % k < k) := by
  have q0 : 0 ≤ n / k := Int.ediv_nonneg (by omega) (by omega)
  have q1 : n / k ≤ n := Int.ediv_le_self _ hn.1
  exact ⟨⟨q0, by omega⟩, Int.emod_nonneg _ (by omega), Int.emod_lt_of_pos _ (by omega)⟩
/-- the four arrays -/
structure InT (B : Nat) (n0 n1 k0 k1 s0 s1 p0 p1 q0 q1 : Int) (w : World) : Prop where
  n0 : w.cell? ⟨B, 0, none⟩ = some (.int .i64 n0)
  n1 : w.cell? ⟨B, 1, none⟩ = some (.int .i64 n1)
  k0 : w.cell? ⟨B + 1, 0, none⟩ = some (.int .i64 k0)
  k1 : w.cell? ⟨B + 1, 1, none⟩ = some (.int .i64 k1)
  s0 : w.cell? ⟨B + 1 + 1, 0, none⟩ = some (.int .i64 s0)
  s1 : w.cell? ⟨B + 1 + 1, 1, none⟩ = some (.int .i64 s1)
  p0 : w.cell? ⟨B + 1 + 1 + 1, 0, none⟩ = some (.int .i64 p0)
  p1 : w.cell? ⟨B + 1 + 1 + 1, 1, none⟩ = some (.int .i64 p1)
  lt : B + 1 + 1 + 1 < w.heap.size
theorem own_formT {w : World} {base n : Nat} {e : TypeId} {v : Value} {xs : List Value} (h : w.ownsRow base e 2 v n xs) : ∃ a c, v = .slice a n c := by
  obtain ⟨_, ⟨hv, hn⟩ | ⟨g, cap, cur, hv, hg, hh, hc, hcm, _⟩⟩ := h
  · subst hn; exact ⟨none, 0, hv⟩
  · exact ⟨_, cap, hv⟩
theorem own_laterT {w w1 : World} {base n size : Nat} {e : TypeId} {v : Value} {xs : List Value} (h : w.ownsRow base e size v n xs) (hb : Below w.heap.size w w1) : w1.ownsRow base e size v n xs :=
  h.kept (show w.grownBy w1 none from ⟨hb.os, hb.tape, hb.output, hb.size, fun i hi _ => hb.block i hi⟩) (by cases v.ownBlock <;> simp)
theorem below_grownT {m : Nat} {w w1 w' : World} {v : Value} (h : Below m w w1) (hg : w1.grownBy w' v.ownBlock) (hm : m ≤ w1.heap.size) (hv : ∀ k, v.ownBlock = some k → m ≤ k) : Below m w w' :=
  h.grown hg hm hv
theorem cnt_yes {f : Nat → Bool} {n : Nat} (h : f n = true) : cntB f (n + 1) = cntB f n + 1 := by show cntB f n + (if f n then 1 else 0) = _; rw [h]; rfl
theorem cnt_no {f : Nat → Bool} {n : Nat} (h : f n = false) : cntB f (n + 1) = cntB f n := by show cntB f n + (if f n then 1 else 0) = _; rw [h]; rfl
theorem own_emptyT (w : World) (b : Nat) (hb : w.heap.size = b) : (w.alloc (.cells #[] 22)).ownsRow b 22 2 (.slice (some ⟨b, 0, none⟩) 0 0) 0 [] := by
  subst hb
  exact World.ownsRow_lit w #[] 0 (Nat.le_refl _) (by decide) rfl
theorem info_2i : (Try.prog.info? 22).map (fun i => (i.zero, i.size, i.bytes)) = some (some (.agg #[.int .i64 0, .int .i64 0]), 2, 16) := by kernel_rfl
theorem news_2 (w : World) (x y : Int) (H : Nat) (hH : w.heap.size = H) : ∀ j u, [Value.int .i64 x, Value.int .i64 y][j]? = some u → (w.alloc (.cells #[.int .i64 x, .int .i64 y] 22)).cell? ((⟨H, 0, none⟩ : Addr).add j) = some u := by
  subst hH
  intro j u hj
  match j, hj with
  | 0, hj => cases hj; go_simp
  | 1, hj => cases hj; go_simp
theorem two_one (x y : Int) : ∀ u ∈ [Value.int .i64 x, Value.int .i64 y], u.oneCell' = true := by
  intro u hu
  rcases List.mem_cons.1 hu with rfl | hu
  · rfl
  · rcases List.mem_cons.1 hu with rfl | hu
    · rfl
    · cases hu

theorem inT_new (n0 n1 k0 k1 s0 s1 p0 p1 q0 q1 : Int) (w w' : World) (hb : Below (w.heap.size + 1 + 1 + 1 + 1) ((((w.alloc (.cells #[.int .i64 n0, .int .i64 n1] 22)).alloc (.cells #[.int .i64 k0, .int .i64 k1] 22)).alloc (.cells #[.int .i64 s0, .int .i64 s1] 22)).alloc (.cells #[.int .i64 p0, .int .i64 p1, .int .i64 q0, .int .i64 q1] 23)) w') : InT w.heap.size n0 n1 k0 k1 s0 s1 p0 p1 q0 q1 w' := by
  have hs := hb.size
  simp at hs
  refine ⟨?_, ?_, ?_, ?_, ?_, ?_, ?_, ?_, by omega⟩
  · exact (hb.cell (p := ⟨w.heap.size, 0, none⟩) (by first | (simp; done) | (simp; omega))).trans (by go_simp)
  · exact (hb.cell (p := ⟨w.heap.size, 1, none⟩) (by first | (simp; done) | (simp; omega))).trans (by go_simp)
  · exact (hb.cell (p := ⟨w.heap.size + 1, 0, none⟩) (by first | (simp; done) | (simp; omega))).trans (by go_simp)
  · exact (hb.cell (p := ⟨w.heap.size + 1, 1, none⟩) (by first | (simp; done) | (simp; omega))).trans (by go_simp)
  · exact (hb.cell (p := ⟨w.heap.size + 1 + 1, 0, none⟩) (by first | (simp; done) | (simp; omega))).trans (by go_simp)
  · exact (hb.cell (p := ⟨w.heap.size + 1 + 1, 1, none⟩) (by first | (simp; done) | (simp; omega))).trans (by go_simp)
  · exact (hb.cell (p := ⟨w.heap.size + 1 + 1 + 1, 0, none⟩) (by first | (simp; done) | (simp; omega))).trans (by go_simp)
  · exact (hb.cell (p := ⟨w.heap.size + 1 + 1 + 1, 1, none⟩) (by first | (simp; done) | (simp; omega))).trans (by go_simp)
theorem own_baseT {w : World} {b b' n size : Nat} {e : TypeId} {v : Value} {xs : List Value} (h : w.ownsRow b e size v n xs) (hb : b' ≤ b) : w.ownsRow b' e size v n xs := by
  obtain ⟨hl, hh⟩ := h
  refine ⟨hl, ?_⟩
  rcases hh with hn | ⟨g, cap, cur, hv, hg, rest⟩
  · exact .inl hn
  · exact .inr ⟨g, cap, cur, hv, by omega, rest⟩
set_option maxRecDepth 100000 in
set_option maxHeartbeats 4000000 in
theorem rtaps_full (n0 n1 k0 k1 s0 s1 p0 p1 q0 q1 y x : Int) (w : World) (hk0 : 1 ≤ k0 ∧ k0 ≤ 8) (hk1 : 1 ≤ k1 ∧ k1 ≤ 8) (hs0 : 1 ≤ s0 ∧ s0 ≤ 8) (hs1 : 1 ≤ s1 ∧ s1 ≤ 8) (hp0 : 0 ≤ p0 ∧ p0 ≤ 7) (hp1 : 0 ≤ p1 ∧ p1 ≤ 7) (hy : 0 ≤ y ∧ y ≤ 1001) (hx : 0 ≤ x ∧ x ≤ 1001) :
    Calls Try.prog 20 #[.agg #[.int .i64 n0, .int .i64 n1], .agg #[.int .i64 k0, .int .i64 k1], .agg #[.int .i64 s0, .int .i64 s1], .agg #[.int .i64 p0, .int .i64 p1, .int .i64 q0, .int .i64 q1], .int .i64 y, .int .i64 x] w fun e w' => (∃ v, e = .returned v ∧ w'.ownsRow w.heap.size 22 2 v (cntB (tapB n0 n1 k1 s0 s1 p0 p1 y x) (k0 * k1).toNat) (tapL k1 (tapB n0 n1 k1 s0 s1 p0 p1 y x) (k0 * k1).toNat)) ∧ Below w.heap.size w w' := by
  obtain ⟨i0, hi, hz0, hz1, hz2⟩ := info_parts info_2i
  have NEW := Lib.hid (fun w' => inT_new n0 n1 k0 k1 s0 s1 p0 p1 q0 q1 w w')
  have KB := kk_bd hk0 hk1
  obtain ⟨K, hK⟩ : ∃ K : Nat, k0 * k1 = K := ⟨(k0 * k1).toNat, by omega⟩
  have HK := Lib.hid hK
  have hKb : 1 ≤ K ∧ K ≤ 64 := by omega
  have uK := IntWalk.i64_in (k0 * k1) (by omega)
  have YB := mul_bdT hy.1 hy.2 hs0.1 hs0.2
  have XB := mul_bdT hx.1 hx.2 hs1.1 hs1.2
  have hn1 : (k1 == 0) = false := by simp; omega
  have B0 := Lib.hid (show Below w.heap.size w ((((w.alloc (.cells #[.int .i64 n0, .int .i64 n1] 22)).alloc (.cells #[.int .i64 k0, .int .i64 k1] 22)).alloc (.cells #[.int .i64 s0, .int .i64 s1] 22)).alloc (.cells #[.int .i64 p0, .int .i64 p1, .int .i64 q0, .int .i64 q1] 23)) by go_grown)
  have OWN0 := Lib.hid (own_emptyT ((((w.alloc (.cells #[.int .i64 n0, .int .i64 n1] 22)).alloc (.cells #[.int .i64 k0, .int .i64 k1] 22)).alloc (.cells #[.int .i64 s0, .int .i64 s1] 22)).alloc (.cells #[.int .i64 p0, .int .i64 p1, .int .i64 q0, .int .i64 q1] 23)) (w.heap.size + 1 + 1 + 1 + 1) (by simp))
  have BEL0 := Lib.hid (show Below (w.heap.size + 1 + 1 + 1 + 1) ((((w.alloc (.cells #[.int .i64 n0, .int .i64 n1] 22)).alloc (.cells #[.int .i64 k0, .int .i64 k1] 22)).alloc (.cells #[.int .i64 s0, .int .i64 s1] 22)).alloc (.cells #[.int .i64 p0, .int .i64 p1, .int .i64 q0, .int .i64 q1] 23)) (((((w.alloc (.cells #[.int .i64 n0, .int .i64 n1] 22)).alloc (.cells #[.int .i64 k0, .int .i64 k1] 22)).alloc (.cells #[.int .i64 s0, .int .i64 s1] 22)).alloc (.cells #[.int .i64 p0, .int .i64 p1, .int .i64 q0, .int .i64 q1] 23)).alloc (.cells #[] 22)) from (Below.refl _ _).alloc (by simp) _)
  clear hK
  go_enter Try.func20, Try.ntmps20
  go_wp2_with fail
  go_loopw [13, 14] (fun v i wr => ∃ (n : Nat), n ≤ K ∧ i = .int .i64 n ∧ wr.ownsRow (w.heap.size + 1 + 1 + 1 + 1) 22 2 v (cntB (tapB n0 n1 k1 s0 s1 p0 p1 y x) n) (tapL k1 (tapB n0 n1 k1 s0 s1 p0 p1 y x) n) ∧ Below (w.heap.size + 1 + 1 + 1 + 1) ((((w.alloc (.cells #[.int .i64 n0, .int .i64 n1] 22)).alloc (.cells #[.int .i64 k0, .int .i64 k1] 22)).alloc (.cells #[.int .i64 s0, .int .i64 s1] 22)).alloc (.cells #[.int .i64 p0, .int .i64 p1, .int .i64 q0, .int .i64 q1] 23)) wr) (fun _ i _ => K - (intOf i).toNat)

  case atStart => exact ⟨0, by omega, rfl, OWN0.out, BEL0.out⟩
  case round =>
    obtain ⟨n, hn, rfl, own, hb⟩ := hrel
    obtain ⟨c_n0, c_n1, c_k0, c_k1, c_s0, c_s1, c_p0, c_p1, c_lt⟩ := NEW.out wr hb
    by_cases hlt : n < K
    · have t0 : decide ((n : Int) < k0 * k1) = true := by rw [HK.out]; simp; omega
      have D := dm_bd (n := (n : Int)) (k := k1) (by omega) hk1
      have u1 := IntWalk.i64_in (y * s0) (by omega)
      have u2 := IntWalk.i64_in (y * s0 + (n : Int) / k1) (by omega)
      have u3 := IntWalk.i64_in (y * s0 + (n : Int) / k1 - p0) (by omega)
      have u4 := IntWalk.i64_in (x * s1) (by omega)
      have u5 := IntWalk.i64_in (x * s1 + (n : Int) % k1) (by omega)
      have u6 := IntWalk.i64_in (x * s1 + (n : Int) % k1 - p1) (by omega)
      have u7 := IntWalk.i64_in ((n : Int) / k1) (by omega)
      have u8 := IntWalk.i64_in ((n : Int) % k1) (by omega)
      have u9 := IntWalk.i64_in ((n : Int) + 1) (by omega)
      have CL := cnt_le (tapB n0 n1 k1 s0 s1 p0 p1 y x) n
      have E1 := Lib.hid (show cntB (tapB n0 n1 k1 s0 s1 p0 p1 y x) n + 1 ≤ maxLen by simp only [maxLen]; omega)
      have E2 := Lib.hid (show (cntB (tapB n0 n1 k1 s0 s1 p0 p1 y x) n + 1) * 16 ≤ 140737488355328 by omega)
      have VO := Lib.hid own.lt
      have HSZ := Lib.hid (show w.heap.size + 1 + 1 + 1 + 1 ≤ wr.heap.size by omega)
      have TB := Lib.hid (show tapB n0 n1 k1 s0 s1 p0 p1 y x n = (decide (0 ≤ y * s0 + (n : Int) / k1 - p0) && (decide (y * s0 + (n : Int) / k1 - p0 < n0) && (decide (0 ≤ x * s1 + (n : Int) % k1 - p1) && decide (x * s1 + (n : Int) % k1 - p1 < n1)))) by unfold tapB; simp [Bool.decide_and])
      have H9 := Lib.hid own
      have HB2 := Lib.hid hb
      clear own hb CL

      cases ha0 : decide (0 ≤ y * s0 + (n : Int) / k1 - p0)
      · have hq0 : decide (p0 ≤ y * s0 + (n : Int) / k1) = false := by simp at ha0 ⊢; omega
        have CF := Lib.hid (And.intro (cnt_no (f := tapB n0 n1 k1 s0 s1 p0 p1 y x) (n := n) (by rw [TB.out, ha0]; rfl)) (tapL_no (k1 := k1) (f := tapB n0 n1 k1 s0 s1 p0 p1 y x) (n := n) (by rw [TB.out, ha0]; rfl)))
        go_wp2_with fail
        go_quiet (fail)
        revert nq; intro na
        go_wp2_with fail
        go_quiet (fail)
        have H8 := Lib.hid (own_laterT H9.out (below_drewN (Below.refl _ _) (na + nq)))
        go_wp2_with fail
        refine ⟨⟨n + 1, by omega, rfl, ?_, below_drewN HB2.out (na + nq)⟩, by simp [intOf]; omega⟩
        rw [CF.out.1, CF.out.2]; exact H8.out
      · have hq0 : decide (p0 ≤ y * s0 + (n : Int) / k1) = true := by simp at ha0 ⊢; omega
        cases ha1 : decide (y * s0 + (n : Int) / k1 - p0 < n0)
        · skip
          have CF := Lib.hid (And.intro (cnt_no (f := tapB n0 n1 k1 s0 s1 p0 p1 y x) (n := n) (by rw [TB.out, ha0, ha1]; rfl)) (tapL_no (k1 := k1) (f := tapB n0 n1 k1 s0 s1 p0 p1 y x) (n := n) (by rw [TB.out, ha0, ha1]; rfl)))
          go_wp2_with fail
          go_quiet (fail)
          revert nq; intro na
          go_wp2_with fail
          go_quiet (fail)
          have H8 := Lib.hid (own_laterT H9.out (below_drewN (Below.refl _ _) (na + nq)))
          go_wp2_with fail
          refine ⟨⟨n + 1, by omega, rfl, ?_, below_drewN HB2.out (na + nq)⟩, by simp [intOf]; omega⟩
          rw [CF.out.1, CF.out.2]; exact H8.out
        · skip
          cases ha2 : decide (0 ≤ x * s1 + (n : Int) % k1 - p1)
          · have hq2 : decide (p1 ≤ x * s1 + (n : Int) % k1) = false := by simp at ha2 ⊢; omega
            have CF := Lib.hid (And.intro (cnt_no (f := tapB n0 n1 k1 s0 s1 p0 p1 y x) (n := n) (by rw [TB.out, ha0, ha1, ha2]; rfl)) (tapL_no (k1 := k1) (f := tapB n0 n1 k1 s0 s1 p0 p1 y x) (n := n) (by rw [TB.out, ha0, ha1, ha2]; rfl)))
            go_wp2_with fail
            go_quiet (fail)
            revert nq; intro na
            go_wp2_with fail
            go_quiet (fail)
            have H8 := Lib.hid (own_laterT H9.out (below_drewN (Below.refl _ _) (na + nq)))
            go_wp2_with fail
            refine ⟨⟨n + 1, by omega, rfl, ?_, below_drewN HB2.out (na + nq)⟩, by simp [intOf]; omega⟩
            rw [CF.out.1, CF.out.2]; exact H8.out
          · have hq2 : decide (p1 ≤ x * s1 + (n : Int) % k1) = true := by simp at ha2 ⊢; omega
            cases ha3 : decide (x * s1 + (n : Int) % k1 - p1 < n1)
            · skip
              have CF := Lib.hid (And.intro (cnt_no (f := tapB n0 n1 k1 s0 s1 p0 p1 y x) (n := n) (by rw [TB.out, ha0, ha1, ha2, ha3]; rfl)) (tapL_no (k1 := k1) (f := tapB n0 n1 k1 s0 s1 p0 p1 y x) (n := n) (by rw [TB.out, ha0, ha1, ha2, ha3]; rfl)))
              go_wp2_with fail
              go_quiet (fail)
              revert nq; intro na
              go_wp2_with fail
              go_quiet (fail)
              have H8 := Lib.hid (own_laterT H9.out (below_drewN (Below.refl _ _) (na + nq)))
              go_wp2_with fail
              refine ⟨⟨n + 1, by omega, rfl, ?_, below_drewN HB2.out (na + nq)⟩, by simp [intOf]; omega⟩
              rw [CF.out.1, CF.out.2]; exact H8.out
            · skip
              have CF := Lib.hid (And.intro (cnt_yes (f := tapB n0 n1 k1 s0 s1 p0 p1 y x) (n := n) (by rw [TB.out, ha0, ha1, ha2, ha3]; rfl)) (tapL_yes (k1 := k1) (f := tapB n0 n1 k1 s0 s1 p0 p1 y x) (n := n) (by rw [TB.out, ha0, ha1, ha2, ha3]; rfl)))
              go_wp2_with fail
              go_quiet (fail)
              revert nq; intro na
              go_wp2_with fail
              go_quiet (fail)
              have H8 := Lib.hid (own_laterT H9.out (below_drewN (Below.refl _ _) (na + nq)))
              have NW2 := fun W => news_2 W ((n : Int) / k1) ((n : Int) % k1) _ rfl
              go_wp2_with ((at_builtin; refine wpList_append_own _ rfl (.tmp 73) (.tmp 77) 26 rfl (w.heap.size + 1 + 1 + 1 + 1) 22 i0 (.agg #[.int .i64 0, .int .i64 0]) 2 16 Try.underlying26 hi hz0 hz1 hz2 rfl (by decide) _ _ _ rfl (H8.out.alloc _) ⟨_, 0, none⟩ 1 1 [.int .i64 ((n : Int) / k1), .int .i64 ((n : Int) % k1)] rfl rfl (NW2 _) (two_one _ _) E1.out E2.out (by simp; omega) ?_; intro v1 w2 hown hg hn))
              refine ⟨⟨n + 1, by omega, rfl, ?_, ?_⟩, by simp [intOf]; omega⟩
              · rw [CF.out.1, CF.out.2]; exact hown
              · exact below_grownT ((below_drewN HB2.out (na + nq)).alloc (by simpa using HSZ.out) _) hg (by have := HSZ.out; simp; omega) (fun q hq => (VO.out q hq).1)
    · obtain rfl : K = n := by omega
      have t0 : decide ((K : Int) < k0 * k1) = false := by rw [HK.out]; simp
      have HB2 := Lib.hid (B0.out.trans (hb.mono (by omega)))
      have OWN := Lib.hid (own_baseT own (show w.heap.size ≤ w.heap.size + 1 + 1 + 1 + 1 by omega))
      have KT := Lib.hid (show (k0 * k1).toNat = K by rw [HK.out]; simp)
      clear own hb
      go_wp2_with fail
      go_ret
      refine ⟨⟨_, rfl, ?_⟩, HB2.out⟩
      rw [KT.out]
      exact OWN.out
theorem rtaps_any (n0 n1 k0 k1 s0 s1 p0 p1 q0 q1 y x : Int) (w : World) (hk0 : 1 ≤ k0 ∧ k0 ≤ 8) (hk1 : 1 ≤ k1 ∧ k1 ≤ 8) (hs0 : 1 ≤ s0 ∧ s0 ≤ 8) (hs1 : 1 ≤ s1 ∧ s1 ≤ 8) (hp0 : 0 ≤ p0 ∧ p0 ≤ 7) (hp1 : 0 ≤ p1 ∧ p1 ≤ 7) (hy : 0 ≤ y ∧ y ≤ 1001) (hx : 0 ≤ x ∧ x ≤ 1001) :
    Calls Try.prog 20 #[.agg #[.int .i64 n0, .int .i64 n1], .agg #[.int .i64 k0, .int .i64 k1], .agg #[.int .i64 s0, .int .i64 s1], .agg #[.int .i64 p0, .int .i64 p1, .int .i64 q0, .int .i64 q1], .int .i64 y, .int .i64 x] w fun e w' => (∃ a c, e = .returned (.slice a (cntB (tapB n0 n1 k1 s0 s1 p0 p1 y x) (k0 * k1).toNat) c)) ∧ Below w.heap.size w w' := by
  refine (rtaps_full n0 n1 k0 k1 s0 s1 p0 p1 q0 q1 y x w hk0 hk1 hs0 hs1 hp0 hp1 hy hx).mono ?_
  rintro e w' ⟨⟨v, rfl, own⟩, hb⟩
  obtain ⟨a, c, rfl⟩ := own_formT own
  exact ⟨⟨a, c, rfl⟩, hb⟩
end Go.Proofs.Ytgemajmimjkgcaa
