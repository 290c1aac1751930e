/- The statement of layer 30 on blocks none of which meet, and blocks all of which meet: it returns true for all inputs. -/
import Derived.Test.YtmmhoemddfncmaaBkIn
import Derived.Test.YtmmhoemddfncmaaArO
import Derived.Test.YtmmhoemddfncmaaByt
namespace Go.Proofs.Ytmmhoemddfncmaa
open Go Go.RowKit Go.ChangeShapes Go.WideShapes Go.ChangeAt
set_option linter.unusedVariables false

theorem news_b3 (w : World) (s f t : Int) (H : Nat) (hH : w.heap.size = H) : ∀ j u, [Value.int .i64 s, .int .i64 f, .int .i64 t][j]? = some u → (w.alloc (.cells #[.int .i64 s, .int .i64 f, .int .i64 t] 33)).cell? ((⟨H, 0, none⟩ : Addr).add j) = some u := by
  subst hH
  intro j u h
  rw [add_at, Nat.zero_add, World.cell?_alloc_new]
  simpa using h
/-- a row of blocks at a block of its own -/
def RowB (w : World) (base g c n : Nat) (l : List Q3) : Prop := n = l.length ∧ w.ownsRow base 33 3 (.slice (some ⟨g, 0, none⟩) n c) n (flat3 l)
theorem RowB.kept {w w' : World} {base g c n : Nat} {l : List Q3} {r : Option Nat} (h : RowB w base g c n l) (hg : w.grownBy w' r) (hne : some g ≠ r) : RowB w' base g c n l :=
  ⟨h.1, h.2.kept hg (.inr hne)⟩
theorem RowB.b3 {w : World} {base g c n : Nat} {l : List Q3} (h : RowB w base g c n l) (hn : n ≤ 100) : B3 w (some ⟨g, 0, none⟩) l := by
  obtain ⟨rfl, h⟩ := h
  obtain ⟨a, c', e, h1, _⟩ := b3_own h rfl (by omega)
  have : a = some ⟨g, 0, none⟩ := by injection e with e1 _ _; exact e1.symm
  rw [← this]
  exact h1

set_option maxRecDepth 100000 in
set_option maxHeartbeats 4000000 in
theorem one_few (w : World) (a0 : Option Addr) (c0 : Nat) (l0 : List Nat) (w0 : SliceIn w a0 l0 c0) (hfew : l0.length ≤ 40) :
    Calls Try.prog 6 #[.slice a0 l0.length c0] w fun e w' => e = .returned (.bool true) ∧ Below w.heap.size w w' := by
  have h256 := Lib.hid w0.1
  have hlen := Nat.le_trans w0.2.1 w0.2.2.1
  have W0 := Lib.hid w0
  obtain ⟨i0, hi0, hz0, hz1, hz2⟩ := info_parts info_bk
  obtain ⟨N, hN⟩ : ∃ N, N = min l0.length 40 := ⟨_, rfl⟩
  have hN2 : N ≤ 40 := by omega
  have HN := Lib.hid hN
  have OA : RowB (w.alloc (.cells #[] 33)) w.heap.size w.heap.size 0 0 [] := ⟨rfl, own_emptyB w⟩
  have OB : RowB ((w.alloc (.cells #[] 33)).alloc (.cells #[] 33)) w.heap.size (w.heap.size + 1) 0 0 [] := by
    have h := own_emptyB (w.alloc (.cells #[] 33))
    have e : (w.alloc (.cells #[] 33)).heap.size = w.heap.size + 1 := by simp
    rw [e] at h
    exact ⟨rfl, own_lower h (by omega)⟩
  have OA2 : RowB ((w.alloc (.cells #[] 33)).alloc (.cells #[] 33)) w.heap.size w.heap.size 0 0 [] := ⟨rfl, OA.2.alloc _⟩
  have BB : Below w.heap.size w ((w.alloc (.cells #[] 33)).alloc (.cells #[] 33)) := ((Below.refl _ _).alloc (Nat.le_refl _) _).alloc (by simp) _
  have OA0 := Lib.hid OA2
  have OB0 := Lib.hid OB
  have HB0 := Lib.hid BB
  clear w0 hN OA OB OA2 BB
  go_enter Try.func6, Try.ntmps6
  go_wp2_with fail
  generalize (w.alloc (.cells #[] 33)).alloc (.cells #[] 33) = w1 at OA0 OB0 HB0 ⊢
  go_loopw [3, 4, 5, 6, 7] (fun va vb s m i wr => ∃ (k ga ca gb cb : Nat), k ≤ N ∧ va = .slice (some ⟨ga, 0, none⟩) k ca ∧ vb = .slice (some ⟨gb, 0, none⟩) k cb ∧ s = .int .i64 (sumK l0 k) ∧ m = .int .i64 (mostK l0 k) ∧ i = .int .i64 k ∧ RowB wr w.heap.size ga ca k (listK (apart1 l0) k) ∧ RowB wr w.heap.size gb cb k (listK (alike1 l0) k) ∧ ga ≠ gb ∧ Below w.heap.size w wr) (fun _ _ _ _ i _ => N - (intOf i).toNat)
  case atStart => exact ⟨0, w.heap.size, 0, w.heap.size + 1, 0, Nat.zero_le _, rfl, rfl, rfl, rfl, rfl, OA0.out, OB0.out, by omega, HB0.out⟩
  case round =>
    obtain ⟨k, ga, ca, gb, cb, hk, rfl, rfl, rfl, rfl, rfl, ra, rb, hne, hb⟩ := hrel
    have HB := Lib.hid hb
    have RA := Lib.hid ra
    have RB := Lib.hid rb
    have hws := hb.size
    have la := ra.2.lt ga rfl
    have lb := rb.2.lt gb rfl
    have sb := sumK_bd l0 h256.out k
    have mb := mostK_bd l0 h256.out k
    have ub := up_bd l0 h256.out k
    have zb := szB_bd l0 h256.out k
    clear ra rb hb
    by_cases hlt : k < N
    · have hk1 : k < l0.length := by have := HN.out; omega
      have hk2 : k < 40 := by omega
      obtain ⟨_, _, _, ⟨_, hnil, _⟩ | ⟨_, hnil⟩ | ⟨b, off, rfl, hbb, hc⟩⟩ := W0.out
      · rw [hnil] at hk1; simp at hk1
      · rw [hnil] at hk1; simp at hk1
      have cz := (HB.out.cell (p := ⟨b, off + k, none⟩) hbb).trans (hc k hk1)
      have SU := Lib.hid (show sumK l0 (k + 1) = sumK l0 k + upI (szB l0 k) from rfl)
      have MU := Lib.hid (show mostK l0 (k + 1) = if mostK l0 k < upI (szB l0 k) then upI (szB l0 k) else mostK l0 k from rfl)
      have LA := Lib.hid (listK_next (apart1 l0) k)
      have LB := Lib.hid (listK_next (alike1 l0) k)
      have EA : apart1 l0 k = ⟨szB l0 k, 2 * (k : Int), 2 * (k : Int) + 1⟩ := rfl
      have EB : alike1 l0 k = ⟨szB l0 k, -(k : Int), (k : Int)⟩ := rfl
      rw [EA] at LA
      rw [EB] at LB
      obtain ⟨q, hq⟩ : ∃ q, q = l0.getD k 0 := ⟨_, rfl⟩
      have hz : szB l0 k = 1 + (q : Int) := by unfold szB; rw [hq]
      rw [← hq] at cz
      obtain ⟨sz, hsz⟩ : ∃ z, z = szB l0 k := ⟨_, rfl⟩
      rw [← hsz] at SU MU LA LB ub zb hz
      obtain ⟨up, hup⟩ : ∃ z, z = upI sz := ⟨_, rfl⟩
      have RU := Lib.hid (fun W => rup_any sz W zb.1 (by omega))
      rw [← hup] at SU MU ub RU
      obtain ⟨sm, hsm⟩ : ∃ z, z = sumK l0 k := ⟨_, rfl⟩
      obtain ⟨ms, hms⟩ : ∃ z, z = mostK l0 k := ⟨_, rfl⟩
      rw [← hsm] at SU sb ⊢
      rw [← hms] at MU mb ⊢
      have hbr : b < wr.heap.size := by omega
      have k0 : (0 : Int) ≤ (k : Int) := by omega
      have kn : (k : Int) < (l0.length : Int) := by omega
      have t40 : decide ((k : Int) < 40) = true := by simp; omega
      have ez : 1 + (q : Int) = sz := hz.symm
      clear hc hq hsz hup hsm hms EA EB hz hbb
      have ONE := Lib.hid (show ∀ (x y z : Int), ∀ u ∈ [Value.int .i64 x, Value.int .i64 y, Value.int .i64 z], u.oneCell' = true from fun x y z u hu => by simp at hu; rcases hu with rfl | rfl | rfl <;> rfl)
      have E1 := Lib.hid (show k + 1 ≤ maxLen by simp only [maxLen]; omega)
      have E2 := Lib.hid (show (k + 1) * 24 ≤ 140737488355328 by omega)
      have F1 := Lib.hid (show ∀ (w9 w8 : World) (g : Nat), w9.grownBy w8 (some ga) → wr.alloc (.cells #[.int .i64 sz, .int .i64 (2 * (k : Int)), .int .i64 (2 * (k : Int) + 1)] 33) = w9 → RowB w8 w.heap.size gb cb k (listK (alike1 l0) k) ∧ Below w.heap.size w w8 ∧ w.heap.size ≤ w8.heap.size from fun w9 w8 g hg e => by
        subst e
        refine ⟨(show RowB (wr.alloc _) w.heap.size gb cb k (listK (alike1 l0) k) from ⟨RB.out.1, RB.out.2.alloc _⟩).kept hg (by simp; omega), ?_, ?_⟩
        · exact (HB.out.alloc (by omega) _).grown hg (by simp; omega) (fun j hj => by cases hj; exact la.1)
        · have := hg.size
          simp at this
          omega)
      by_cases hmx : ms < up
      · have t1 : decide (ms < up) = true := by simpa using hmx
        have EM := MU.out
        rw [if_pos hmx] at EM
        have EM := Lib.hid EM
        clear MU hmx
        go_wp2_with (first
          | (at_builtin; refine wpList_append_lies _ rfl (.tmp 34) (.tmp 42) 22 rfl w.heap.size 33 i0 _ 3 24 Try.underlying22 hi0 hz0 hz1 hz2 rfl (by decide) (.slice (some ⟨ga, 0, none⟩) k ca) k (flat3 (listK (apart1 l0) k)) rfl (RA.out.2.alloc _) ⟨_, 0, none⟩ 1 1 [.int .i64 sz, .int .i64 (2 * (k : Int)), .int .i64 (2 * (k : Int) + 1)] rfl rfl (news_b3 _ _ _ _ _ rfl) (ONE.out _ _ _) (by decide) E1.out E2.out (by simp; omega) (wr.heap.size + 1) (by simp) ?_; intro g1 c1 w2 hown hg hat hlt2; have Z := Lib.hid (F1.out _ _ g1 hg rfl); have G1 := Lib.hid (show g1 ≠ gb by rcases hat with h | h; (· have hgg : ga = g1 := (by simpa [Value.ownBlock] using h); omega); (· omega)); have ROW1 := Lib.hid hown; clear hown hg hat)
          | (at_builtin; refine wpList_append_lies _ rfl (.tmp 44) (.tmp 50) 22 rfl w.heap.size 33 i0 _ 3 24 Try.underlying22 hi0 hz0 hz1 hz2 rfl (by decide) (.slice (some ⟨gb, 0, none⟩) k cb) k (flat3 (listK (alike1 l0) k)) rfl (Z.out.1.2.alloc _) ⟨_, 0, none⟩ 1 1 [.int .i64 sz, .int .i64 (-(k : Int)), .int .i64 (k : Int)] rfl rfl (news_b3 _ _ _ _ _ rfl) (ONE.out _ _ _) (by decide) E1.out E2.out (by have := Z.out.2.2; simp; omega) (w2.heap.size + 1) (by simp) ?_; intro g2 c2 w3 hown hg hat hlt3; have HGB := Lib.hid hg; have HAT := Lib.hid hat; have ROW2 := Lib.hid hown; clear hown hg hat)
          | (go_at_call 14; (with_reducible refine (RU.out _).mono ?_); rintro e w' ⟨rfl, rfl⟩))
        have FIN : RowB w' w.heap.size g1 c1 (k + 1) (listK (apart1 l0) (k + 1)) ∧ RowB w' w.heap.size g2 c2 (k + 1) (listK (alike1 l0) (k + 1)) ∧ g1 ≠ g2 ∧ Below w.heap.size w w' := by
          refine ⟨?_, ?_, ?_, ?_⟩
          · refine ⟨by rw [listK_len], ?_⟩
            rw [LA.out, flat3_app]
            exact (ROW1.out.alloc _).kept HGB.out (.inr (by have := G1.out; simp [Value.ownBlock]; omega))
          · refine ⟨by rw [listK_len], ?_⟩
            rw [LB.out, flat3_app]
            exact ROW2.out
          · have := G1.out
            rcases HAT.out with h | h
            · have hgg : gb = g2 := by simpa [Value.ownBlock] using h
              omega
            · omega
          · exact (Z.out.2.1.alloc Z.out.2.2 _).grown HGB.out (by have := Z.out.2.2; simp; omega) (fun j hj => by cases hj; exact lb.1)
        exact ⟨⟨k + 1, g1, c1, g2, c2, by omega, rfl, rfl, by rw [SU.out], by rw [EM.out], by simp, FIN.1, FIN.2.1, FIN.2.2.1, FIN.2.2.2⟩, by simp [intOf]; omega⟩
      · have t1 : decide (ms < up) = false := by simpa using hmx
        have EM := MU.out
        rw [if_neg hmx] at EM
        have EM := Lib.hid EM
        clear MU hmx
        go_wp2_with (first
          | (at_builtin; refine wpList_append_lies _ rfl (.tmp 34) (.tmp 42) 22 rfl w.heap.size 33 i0 _ 3 24 Try.underlying22 hi0 hz0 hz1 hz2 rfl (by decide) (.slice (some ⟨ga, 0, none⟩) k ca) k (flat3 (listK (apart1 l0) k)) rfl (RA.out.2.alloc _) ⟨_, 0, none⟩ 1 1 [.int .i64 sz, .int .i64 (2 * (k : Int)), .int .i64 (2 * (k : Int) + 1)] rfl rfl (news_b3 _ _ _ _ _ rfl) (ONE.out _ _ _) (by decide) E1.out E2.out (by simp; omega) (wr.heap.size + 1) (by simp) ?_; intro g1 c1 w2 hown hg hat hlt2; have Z := Lib.hid (F1.out _ _ g1 hg rfl); have G1 := Lib.hid (show g1 ≠ gb by rcases hat with h | h; (· have hgg : ga = g1 := (by simpa [Value.ownBlock] using h); omega); (· omega)); have ROW1 := Lib.hid hown; clear hown hg hat)
          | (at_builtin; refine wpList_append_lies _ rfl (.tmp 44) (.tmp 50) 22 rfl w.heap.size 33 i0 _ 3 24 Try.underlying22 hi0 hz0 hz1 hz2 rfl (by decide) (.slice (some ⟨gb, 0, none⟩) k cb) k (flat3 (listK (alike1 l0) k)) rfl (Z.out.1.2.alloc _) ⟨_, 0, none⟩ 1 1 [.int .i64 sz, .int .i64 (-(k : Int)), .int .i64 (k : Int)] rfl rfl (news_b3 _ _ _ _ _ rfl) (ONE.out _ _ _) (by decide) E1.out E2.out (by have := Z.out.2.2; simp; omega) (w2.heap.size + 1) (by simp) ?_; intro g2 c2 w3 hown hg hat hlt3; have HGB := Lib.hid hg; have HAT := Lib.hid hat; have ROW2 := Lib.hid hown; clear hown hg hat)
          | (go_at_call 14; (with_reducible refine (RU.out _).mono ?_); rintro e w' ⟨rfl, rfl⟩))
        have FIN : RowB w' w.heap.size g1 c1 (k + 1) (listK (apart1 l0) (k + 1)) ∧ RowB w' w.heap.size g2 c2 (k + 1) (listK (alike1 l0) (k + 1)) ∧ g1 ≠ g2 ∧ Below w.heap.size w w' := by
          refine ⟨?_, ?_, ?_, ?_⟩
          · refine ⟨by rw [listK_len], ?_⟩
            rw [LA.out, flat3_app]
            exact (ROW1.out.alloc _).kept HGB.out (.inr (by have := G1.out; simp [Value.ownBlock]; omega))
          · refine ⟨by rw [listK_len], ?_⟩
            rw [LB.out, flat3_app]
            exact ROW2.out
          · have := G1.out
            rcases HAT.out with h | h
            · have hgg : gb = g2 := by simpa [Value.ownBlock] using h
              omega
            · omega
          · exact (Z.out.2.1.alloc Z.out.2.2 _).grown HGB.out (by have := Z.out.2.2; simp; omega) (fun j hj => by cases hj; exact lb.1)
        exact ⟨⟨k + 1, g1, c1, g2, c2, by omega, rfl, rfl, by rw [SU.out], by rw [EM.out], by simp, FIN.1, FIN.2.1, FIN.2.2.1, FIN.2.2.2⟩, by simp [intOf]; omega⟩
    · have hk2 : k = N := by omega
      have hend : ¬ (k < l0.length ∧ k < 40) := by have := HN.out; omega
      have BA := Lib.hid (RA.out.b3 (by omega))
      have BBr := Lib.hid (RB.out.b3 (by omega))
      have MA := apart_may l0 h256.out (show k ≤ 40 by omega)
      have MB := alike_may l0 h256.out (show k ≤ 40 by omega)
      have OA := one_apart l0 h256.out (show k ≤ 40 by omega)
      have OB := one_alike l0 h256.out (show k ≤ 40 by omega)
      have FA := Lib.hid (fun W h => fit_yes (some ⟨ga, 0, none⟩) ca (listK (apart1 l0) k) W h MA)
      have FB := Lib.hid (fun W h => fit_yes (some ⟨gb, 0, none⟩) cb (listK (alike1 l0) k) W h MB)
      unfold FitPost at FA FB
      rw [OA.1, OA.2, listK_len] at FA
      rw [OB, listK_len] at FB
      generalize (fitP (listK (alike1 l0) k)).1 = WB at FB
      obtain ⟨sm, hsm⟩ : ∃ z, z = sumK l0 k := ⟨_, rfl⟩
      obtain ⟨ms, hms⟩ : ∃ z, z = mostK l0 k := ⟨_, rfl⟩
      rw [← hsm] at FB ⊢
      rw [← hms] at FA ⊢
      generalize listK (apart1 l0) k = LLA at BA FA
      generalize listK (alike1 l0) k = LLB at BBr FB
      clear MA MB OA OB hsm hms RA RB
      have h1 : ¬ k < l0.length := by omega
      have k40 : k ≤ 40 := by omega
      have u1 : decide ((k : Int) < (l0.length : Int)) = false := by simp; omega
      clear hk2 hend hlt hk sb mb ub zb HN
      go_wp2_with fail
      refine (FA.out _ BA.out).mono ?_
      rintro e w2 ⟨g, rfl, row, b2⟩
      have B2 := Lib.hid (bt HB.out b2)
      have L2 := Lib.hid (BBr.out.later b2)
      have R2 := Lib.hid row
      clear b2 row
      go_wp2_with fail
      refine (FB.out _ L2.out).mono ?_
      rintro e w3 ⟨g3, rfl, _, b3⟩
      have B3 := Lib.hid (bt B2.out b3)
      have R3 := Lib.hid (srow_later R2.out b3)
      clear b3
      go_wp2_with fail
      go_loopw [15] (fun i wi => ∃ j : Nat, j ≤ k ∧ i = .int .i64 j ∧ wi = w3) (fun i _ => k - (intOf i).toNat)
      case atStart => exact ⟨0, Nat.zero_le _, rfl, rfl⟩
      case round =>
        obtain ⟨j, hj, rfl, rfl⟩ := hrel
        by_cases hjk : j < k
        · obtain ⟨cj, _, gj⟩ := R3.out.at hjk
          rw [List.getD_eq_getElem?_getD, List.getElem?_replicate, if_pos hjk] at cj
          simp only [Option.getD_some] at cj
          go_wp2_with fail
          refine ⟨⟨j + 1, by omega, by simp, by first | rfl | trivial⟩, by simp [intOf]; omega⟩
        · obtain rfl : j = k := by omega
          go_wp2_with fail
          refine (lives30 wr).mono ?_
          rintro e w4 ⟨rfl, b4⟩
          have B4 := Lib.hid (bt B3.out b4)
          clear b4
          go_wp2_with fail
          go_ret
          exact ⟨rfl, B4.out⟩

set_option maxRecDepth 100000 in
set_option maxHeartbeats 4000000 in
theorem one_many (w : World) (a0 : Option Addr) (c0 : Nat) (l0 : List Nat) (w0 : SliceIn w a0 l0 c0) (hmany : 40 < l0.length) :
    Calls Try.prog 6 #[.slice a0 l0.length c0] w fun e w' => e = .returned (.bool true) ∧ Below w.heap.size w w' := by
  have h256 := Lib.hid w0.1
  have hlen := Nat.le_trans w0.2.1 w0.2.2.1
  have W0 := Lib.hid w0
  obtain ⟨i0, hi0, hz0, hz1, hz2⟩ := info_parts info_bk
  obtain ⟨N, hN⟩ : ∃ N, N = min l0.length 40 := ⟨_, rfl⟩
  have hN2 : N ≤ 40 := by omega
  have HN := Lib.hid hN
  have OA : RowB (w.alloc (.cells #[] 33)) w.heap.size w.heap.size 0 0 [] := ⟨rfl, own_emptyB w⟩
  have OB : RowB ((w.alloc (.cells #[] 33)).alloc (.cells #[] 33)) w.heap.size (w.heap.size + 1) 0 0 [] := by
    have h := own_emptyB (w.alloc (.cells #[] 33))
    have e : (w.alloc (.cells #[] 33)).heap.size = w.heap.size + 1 := by simp
    rw [e] at h
    exact ⟨rfl, own_lower h (by omega)⟩
  have OA2 : RowB ((w.alloc (.cells #[] 33)).alloc (.cells #[] 33)) w.heap.size w.heap.size 0 0 [] := ⟨rfl, OA.2.alloc _⟩
  have BB : Below w.heap.size w ((w.alloc (.cells #[] 33)).alloc (.cells #[] 33)) := ((Below.refl _ _).alloc (Nat.le_refl _) _).alloc (by simp) _
  have OA0 := Lib.hid OA2
  have OB0 := Lib.hid OB
  have HB0 := Lib.hid BB
  clear w0 hN OA OB OA2 BB
  go_enter Try.func6, Try.ntmps6
  go_wp2_with fail
  generalize (w.alloc (.cells #[] 33)).alloc (.cells #[] 33) = w1 at OA0 OB0 HB0 ⊢
  go_loopw [3, 4, 5, 6, 7] (fun va vb s m i wr => ∃ (k ga ca gb cb : Nat), k ≤ N ∧ va = .slice (some ⟨ga, 0, none⟩) k ca ∧ vb = .slice (some ⟨gb, 0, none⟩) k cb ∧ s = .int .i64 (sumK l0 k) ∧ m = .int .i64 (mostK l0 k) ∧ i = .int .i64 k ∧ RowB wr w.heap.size ga ca k (listK (apart1 l0) k) ∧ RowB wr w.heap.size gb cb k (listK (alike1 l0) k) ∧ ga ≠ gb ∧ Below w.heap.size w wr) (fun _ _ _ _ i _ => N - (intOf i).toNat)
  case atStart => exact ⟨0, w.heap.size, 0, w.heap.size + 1, 0, Nat.zero_le _, rfl, rfl, rfl, rfl, rfl, OA0.out, OB0.out, by omega, HB0.out⟩
  case round =>
    obtain ⟨k, ga, ca, gb, cb, hk, rfl, rfl, rfl, rfl, rfl, ra, rb, hne, hb⟩ := hrel
    have HB := Lib.hid hb
    have RA := Lib.hid ra
    have RB := Lib.hid rb
    have hws := hb.size
    have la := ra.2.lt ga rfl
    have lb := rb.2.lt gb rfl
    have sb := sumK_bd l0 h256.out k
    have mb := mostK_bd l0 h256.out k
    have ub := up_bd l0 h256.out k
    have zb := szB_bd l0 h256.out k
    clear ra rb hb
    by_cases hlt : k < N
    · have hk1 : k < l0.length := by have := HN.out; omega
      have hk2 : k < 40 := by omega
      obtain ⟨_, _, _, ⟨_, hnil, _⟩ | ⟨_, hnil⟩ | ⟨b, off, rfl, hbb, hc⟩⟩ := W0.out
      · rw [hnil] at hk1; simp at hk1
      · rw [hnil] at hk1; simp at hk1
      have cz := (HB.out.cell (p := ⟨b, off + k, none⟩) hbb).trans (hc k hk1)
      have SU := Lib.hid (show sumK l0 (k + 1) = sumK l0 k + upI (szB l0 k) from rfl)
      have MU := Lib.hid (show mostK l0 (k + 1) = if mostK l0 k < upI (szB l0 k) then upI (szB l0 k) else mostK l0 k from rfl)
      have LA := Lib.hid (listK_next (apart1 l0) k)
      have LB := Lib.hid (listK_next (alike1 l0) k)
      have EA : apart1 l0 k = ⟨szB l0 k, 2 * (k : Int), 2 * (k : Int) + 1⟩ := rfl
      have EB : alike1 l0 k = ⟨szB l0 k, -(k : Int), (k : Int)⟩ := rfl
      rw [EA] at LA
      rw [EB] at LB
      obtain ⟨q, hq⟩ : ∃ q, q = l0.getD k 0 := ⟨_, rfl⟩
      have hz : szB l0 k = 1 + (q : Int) := by unfold szB; rw [hq]
      rw [← hq] at cz
      obtain ⟨sz, hsz⟩ : ∃ z, z = szB l0 k := ⟨_, rfl⟩
      rw [← hsz] at SU MU LA LB ub zb hz
      obtain ⟨up, hup⟩ : ∃ z, z = upI sz := ⟨_, rfl⟩
      have RU := Lib.hid (fun W => rup_any sz W zb.1 (by omega))
      rw [← hup] at SU MU ub RU
      obtain ⟨sm, hsm⟩ : ∃ z, z = sumK l0 k := ⟨_, rfl⟩
      obtain ⟨ms, hms⟩ : ∃ z, z = mostK l0 k := ⟨_, rfl⟩
      rw [← hsm] at SU sb ⊢
      rw [← hms] at MU mb ⊢
      have hbr : b < wr.heap.size := by omega
      have k0 : (0 : Int) ≤ (k : Int) := by omega
      have kn : (k : Int) < (l0.length : Int) := by omega
      have t40 : decide ((k : Int) < 40) = true := by simp; omega
      have ez : 1 + (q : Int) = sz := hz.symm
      clear hc hq hsz hup hsm hms EA EB hz hbb
      have ONE := Lib.hid (show ∀ (x y z : Int), ∀ u ∈ [Value.int .i64 x, Value.int .i64 y, Value.int .i64 z], u.oneCell' = true from fun x y z u hu => by simp at hu; rcases hu with rfl | rfl | rfl <;> rfl)
      have E1 := Lib.hid (show k + 1 ≤ maxLen by simp only [maxLen]; omega)
      have E2 := Lib.hid (show (k + 1) * 24 ≤ 140737488355328 by omega)
      have F1 := Lib.hid (show ∀ (w9 w8 : World) (g : Nat), w9.grownBy w8 (some ga) → wr.alloc (.cells #[.int .i64 sz, .int .i64 (2 * (k : Int)), .int .i64 (2 * (k : Int) + 1)] 33) = w9 → RowB w8 w.heap.size gb cb k (listK (alike1 l0) k) ∧ Below w.heap.size w w8 ∧ w.heap.size ≤ w8.heap.size from fun w9 w8 g hg e => by
        subst e
        refine ⟨(show RowB (wr.alloc _) w.heap.size gb cb k (listK (alike1 l0) k) from ⟨RB.out.1, RB.out.2.alloc _⟩).kept hg (by simp; omega), ?_, ?_⟩
        · exact (HB.out.alloc (by omega) _).grown hg (by simp; omega) (fun j hj => by cases hj; exact la.1)
        · have := hg.size
          simp at this
          omega)
      by_cases hmx : ms < up
      · have t1 : decide (ms < up) = true := by simpa using hmx
        have EM := MU.out
        rw [if_pos hmx] at EM
        have EM := Lib.hid EM
        clear MU hmx
        go_wp2_with (first
          | (at_builtin; refine wpList_append_lies _ rfl (.tmp 34) (.tmp 42) 22 rfl w.heap.size 33 i0 _ 3 24 Try.underlying22 hi0 hz0 hz1 hz2 rfl (by decide) (.slice (some ⟨ga, 0, none⟩) k ca) k (flat3 (listK (apart1 l0) k)) rfl (RA.out.2.alloc _) ⟨_, 0, none⟩ 1 1 [.int .i64 sz, .int .i64 (2 * (k : Int)), .int .i64 (2 * (k : Int) + 1)] rfl rfl (news_b3 _ _ _ _ _ rfl) (ONE.out _ _ _) (by decide) E1.out E2.out (by simp; omega) (wr.heap.size + 1) (by simp) ?_; intro g1 c1 w2 hown hg hat hlt2; have Z := Lib.hid (F1.out _ _ g1 hg rfl); have G1 := Lib.hid (show g1 ≠ gb by rcases hat with h | h; (· have hgg : ga = g1 := (by simpa [Value.ownBlock] using h); omega); (· omega)); have ROW1 := Lib.hid hown; clear hown hg hat)
          | (at_builtin; refine wpList_append_lies _ rfl (.tmp 44) (.tmp 50) 22 rfl w.heap.size 33 i0 _ 3 24 Try.underlying22 hi0 hz0 hz1 hz2 rfl (by decide) (.slice (some ⟨gb, 0, none⟩) k cb) k (flat3 (listK (alike1 l0) k)) rfl (Z.out.1.2.alloc _) ⟨_, 0, none⟩ 1 1 [.int .i64 sz, .int .i64 (-(k : Int)), .int .i64 (k : Int)] rfl rfl (news_b3 _ _ _ _ _ rfl) (ONE.out _ _ _) (by decide) E1.out E2.out (by have := Z.out.2.2; simp; omega) (w2.heap.size + 1) (by simp) ?_; intro g2 c2 w3 hown hg hat hlt3; have HGB := Lib.hid hg; have HAT := Lib.hid hat; have ROW2 := Lib.hid hown; clear hown hg hat)
          | (go_at_call 14; (with_reducible refine (RU.out _).mono ?_); rintro e w' ⟨rfl, rfl⟩))
        have FIN : RowB w' w.heap.size g1 c1 (k + 1) (listK (apart1 l0) (k + 1)) ∧ RowB w' w.heap.size g2 c2 (k + 1) (listK (alike1 l0) (k + 1)) ∧ g1 ≠ g2 ∧ Below w.heap.size w w' := by
          refine ⟨?_, ?_, ?_, ?_⟩
          · refine ⟨by rw [listK_len], ?_⟩
            rw [LA.out, flat3_app]
            exact (ROW1.out.alloc _).kept HGB.out (.inr (by have := G1.out; simp [Value.ownBlock]; omega))
          · refine ⟨by rw [listK_len], ?_⟩
            rw [LB.out, flat3_app]
            exact ROW2.out
          · have := G1.out
            rcases HAT.out with h | h
            · have hgg : gb = g2 := by simpa [Value.ownBlock] using h
              omega
            · omega
          · exact (Z.out.2.1.alloc Z.out.2.2 _).grown HGB.out (by have := Z.out.2.2; simp; omega) (fun j hj => by cases hj; exact lb.1)
        exact ⟨⟨k + 1, g1, c1, g2, c2, by omega, rfl, rfl, by rw [SU.out], by rw [EM.out], by simp, FIN.1, FIN.2.1, FIN.2.2.1, FIN.2.2.2⟩, by simp [intOf]; omega⟩
      · have t1 : decide (ms < up) = false := by simpa using hmx
        have EM := MU.out
        rw [if_neg hmx] at EM
        have EM := Lib.hid EM
        clear MU hmx
        go_wp2_with (first
          | (at_builtin; refine wpList_append_lies _ rfl (.tmp 34) (.tmp 42) 22 rfl w.heap.size 33 i0 _ 3 24 Try.underlying22 hi0 hz0 hz1 hz2 rfl (by decide) (.slice (some ⟨ga, 0, none⟩) k ca) k (flat3 (listK (apart1 l0) k)) rfl (RA.out.2.alloc _) ⟨_, 0, none⟩ 1 1 [.int .i64 sz, .int .i64 (2 * (k : Int)), .int .i64 (2 * (k : Int) + 1)] rfl rfl (news_b3 _ _ _ _ _ rfl) (ONE.out _ _ _) (by decide) E1.out E2.out (by simp; omega) (wr.heap.size + 1) (by simp) ?_; intro g1 c1 w2 hown hg hat hlt2; have Z := Lib.hid (F1.out _ _ g1 hg rfl); have G1 := Lib.hid (show g1 ≠ gb by rcases hat with h | h; (· have hgg : ga = g1 := (by simpa [Value.ownBlock] using h); omega); (· omega)); have ROW1 := Lib.hid hown; clear hown hg hat)
          | (at_builtin; refine wpList_append_lies _ rfl (.tmp 44) (.tmp 50) 22 rfl w.heap.size 33 i0 _ 3 24 Try.underlying22 hi0 hz0 hz1 hz2 rfl (by decide) (.slice (some ⟨gb, 0, none⟩) k cb) k (flat3 (listK (alike1 l0) k)) rfl (Z.out.1.2.alloc _) ⟨_, 0, none⟩ 1 1 [.int .i64 sz, .int .i64 (-(k : Int)), .int .i64 (k : Int)] rfl rfl (news_b3 _ _ _ _ _ rfl) (ONE.out _ _ _) (by decide) E1.out E2.out (by have := Z.out.2.2; simp; omega) (w2.heap.size + 1) (by simp) ?_; intro g2 c2 w3 hown hg hat hlt3; have HGB := Lib.hid hg; have HAT := Lib.hid hat; have ROW2 := Lib.hid hown; clear hown hg hat)
          | (go_at_call 14; (with_reducible refine (RU.out _).mono ?_); rintro e w' ⟨rfl, rfl⟩))
        have FIN : RowB w' w.heap.size g1 c1 (k + 1) (listK (apart1 l0) (k + 1)) ∧ RowB w' w.heap.size g2 c2 (k + 1) (listK (alike1 l0) (k + 1)) ∧ g1 ≠ g2 ∧ Below w.heap.size w w' := by
          refine ⟨?_, ?_, ?_, ?_⟩
          · refine ⟨by rw [listK_len], ?_⟩
            rw [LA.out, flat3_app]
            exact (ROW1.out.alloc _).kept HGB.out (.inr (by have := G1.out; simp [Value.ownBlock]; omega))
          · refine ⟨by rw [listK_len], ?_⟩
            rw [LB.out, flat3_app]
            exact ROW2.out
          · have := G1.out
            rcases HAT.out with h | h
            · have hgg : gb = g2 := by simpa [Value.ownBlock] using h
              omega
            · omega
          · exact (Z.out.2.1.alloc Z.out.2.2 _).grown HGB.out (by have := Z.out.2.2; simp; omega) (fun j hj => by cases hj; exact lb.1)
        exact ⟨⟨k + 1, g1, c1, g2, c2, by omega, rfl, rfl, by rw [SU.out], by rw [EM.out], by simp, FIN.1, FIN.2.1, FIN.2.2.1, FIN.2.2.2⟩, by simp [intOf]; omega⟩
    · have hk2 : k = N := by omega
      have hend : ¬ (k < l0.length ∧ k < 40) := by have := HN.out; omega
      have BA := Lib.hid (RA.out.b3 (by omega))
      have BBr := Lib.hid (RB.out.b3 (by omega))
      have MA := apart_may l0 h256.out (show k ≤ 40 by omega)
      have MB := alike_may l0 h256.out (show k ≤ 40 by omega)
      have OA := one_apart l0 h256.out (show k ≤ 40 by omega)
      have OB := one_alike l0 h256.out (show k ≤ 40 by omega)
      have FA := Lib.hid (fun W h => fit_yes (some ⟨ga, 0, none⟩) ca (listK (apart1 l0) k) W h MA)
      have FB := Lib.hid (fun W h => fit_yes (some ⟨gb, 0, none⟩) cb (listK (alike1 l0) k) W h MB)
      unfold FitPost at FA FB
      rw [OA.1, OA.2, listK_len] at FA
      rw [OB, listK_len] at FB
      generalize (fitP (listK (alike1 l0) k)).1 = WB at FB
      obtain ⟨sm, hsm⟩ : ∃ z, z = sumK l0 k := ⟨_, rfl⟩
      obtain ⟨ms, hms⟩ : ∃ z, z = mostK l0 k := ⟨_, rfl⟩
      rw [← hsm] at FB ⊢
      rw [← hms] at FA ⊢
      generalize listK (apart1 l0) k = LLA at BA FA
      generalize listK (alike1 l0) k = LLB at BBr FB
      clear MA MB OA OB hsm hms RA RB
      have h1 : k < l0.length := by omega
      have k40 : k ≤ 40 := by omega
      have u1 : decide ((k : Int) < (l0.length : Int)) = true := by simp; omega
      have u2 : decide ((k : Int) < 40) = false := by simp; omega
      have u3 : ¬ (k : Int) < 40 := by omega
      clear hk2 hend hlt hk sb mb ub zb HN
      go_wp2_with fail
      refine (FA.out _ BA.out).mono ?_
      rintro e w2 ⟨g, rfl, row, b2⟩
      have B2 := Lib.hid (bt HB.out b2)
      have L2 := Lib.hid (BBr.out.later b2)
      have R2 := Lib.hid row
      clear b2 row
      go_wp2_with fail
      refine (FB.out _ L2.out).mono ?_
      rintro e w3 ⟨g3, rfl, _, b3⟩
      have B3 := Lib.hid (bt B2.out b3)
      have R3 := Lib.hid (srow_later R2.out b3)
      clear b3
      go_wp2_with fail
      go_loopw [15] (fun i wi => ∃ j : Nat, j ≤ k ∧ i = .int .i64 j ∧ wi = w3) (fun i _ => k - (intOf i).toNat)
      case atStart => exact ⟨0, Nat.zero_le _, rfl, rfl⟩
      case round =>
        obtain ⟨j, hj, rfl, rfl⟩ := hrel
        by_cases hjk : j < k
        · obtain ⟨cj, _, gj⟩ := R3.out.at hjk
          rw [List.getD_eq_getElem?_getD, List.getElem?_replicate, if_pos hjk] at cj
          simp only [Option.getD_some] at cj
          go_wp2_with fail
          refine ⟨⟨j + 1, by omega, by simp, by first | rfl | trivial⟩, by simp [intOf]; omega⟩
        · obtain rfl : j = k := by omega
          go_wp2_with fail
          refine (lives30 wr).mono ?_
          rintro e w4 ⟨rfl, b4⟩
          have B4 := Lib.hid (bt B3.out b4)
          clear b4
          go_wp2_with fail
          go_ret
          exact ⟨rfl, B4.out⟩

theorem walk_ArenaOne (w : World) (a0 : Option Addr) (c0 : Nat) (l0 : List Nat) (w0 : SliceIn w a0 l0 c0) :
    Calls Try.prog 6 #[.slice a0 l0.length c0] w fun e w' => e = .returned (.bool true) ∧ Below w.heap.size w w' := by
  by_cases h : l0.length ≤ 40
  · exact one_few w a0 c0 l0 w0 h
  · exact one_many w a0 c0 l0 w0 (by omega)

theorem own : ownKnob Try.prog.godebug = none := by kernel_rfl
theorem laidOut : laidOutB Try.prog = true := by kernel_rfl
set_option maxRecDepth 100000 in
theorem lifted_ArenaOne (os : Os) (started : os.Started) (H : Type) (enc : TypeId × Value → H) :
    ReturnsInHanded {} Try.checked os 6 .any (Rows.arenaOneSpec.pre6 enc Try.prog Try.f6 Rows.arenaOneRow.domain false) (Rows.arenaOneSpec.post enc Try.prog Try.f6 false true false false) := by
  refine returnsInHanded_of_change (C := Try.checked) own started (by kernel_rfl) Try.func6
    (ChangeSpec.witness6 (enc := enc) (C := Try.checked) false ⟨#[], #[.slice none 0 0], []⟩ 8 (by kernel_rfl) (by kernel_rfl) (by kernel_rfl) (by kernel_rfl)) ?_
  intro W base args ds gs before hval0 hW hcnd _
  have hval : ∀ (j : Nat) t v, Try.f6.params[j]? = some t → args[j]? = some v → Value.okWide Try.prog W .any base t v := hval0
  have hW' := hW
  obtain ⟨p, q, hA0, hV, rfl, hfz, hnd⟩ := hW
  have hA : DataW.TrodAll enc Try.prog W 0 (fun _ => true) true Try.f6.params.toList args.toList ds p := hA0
  rw [Try.params6] at hA hval
  obtain ⟨v0, vs0, d0, ds0, p0, q0, hargs, rfl, rfl, h0, r0⟩ := trodAll_cons hA
  obtain ⟨rfl, rfl, rfl⟩ := trodAll_nil r0
  obtain rfl : args = #[v0] := by cases args; simp_all
  obtain ⟨rfl, rfl⟩ := trodVars_none hV
  have k0 := h0
  have lt0 : ∀ x ∈ p0, x.block < W.heap.size := by obtain ⟨m, hm⟩ := k0; exact DataW.trod_lt m _ _ _ hm
  obtain ⟨a0, c0, l0, rfl, w0⟩ := bytes_in Try.underlying37 Try.underlying5 (by kernel_rfl) (hval 0 37 v0 rfl rfl) h0
  clear hA0 hval0
  refine (walk_ArenaOne W a0 c0 l0 w0).mono fun e W' ⟨he, bel⟩ => ?_
  subst he
  exact ⟨_, rfl, _, _, _, [], _, [], hW', trodAll_mk1 (shut_bool Try.underlying4 _), (trodAll_cons_mk (Below.trod laidOut (by kernel_rfl) (of_decide_eq_true (by kernel_rfl)) k0 bel lt0) trodAll_mk0), rfl, bel.frame _, fun h => by cases h⟩

theorem holds_ArenaOne : Rows.ArenaOneSaid :=
  OpenClaim.holds_of_wide 6 Try.f6 rfl rfl rfl rfl rfl rfl rfl ⟨rfl, rfl, rfl, rfl, rfl⟩ rfl rfl rfl rfl rfl (by kernel_rfl) Try.func6 (by kernel_rfl)
    (of_decide_eq_true (by kernel_rfl)) (by unfold Func.isWrapper; first | (rw [if_pos (by decide +kernel)]; kernel_rfl) | (rw [if_neg (by decide +kernel)]; exact ⟨rfl, rfl⟩))
    (fun os started H enc _ => lifted_ArenaOne os started H enc)

end Go.Proofs.Ytmmhoemddfncmaa
