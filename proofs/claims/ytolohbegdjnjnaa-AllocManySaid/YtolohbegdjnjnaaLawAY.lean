/- The statement AllocMany of layer 17: it returns true for all inputs. -/
import Derived.Test.YtolohbegdjnjnaaRows
import Derived.Test.YtolohbegdjnjnaaLawAO
import Derived.Test.YtolohbegdjnjnaaAmP
-- theorem own and theorem laidOut stand in LawAW
namespace Go.Proofs.Ytolohbegdjnjnaa
open Go Go.RowKit Go.ChangeShapes Go.WideShapes Go.ChangeAt
set_option linter.unusedVariables false

theorem new_set {W : World} {B : Nat} {cs : Array Value} (h : ∀ j u, cs[j]? = some u → W.cell? ⟨B, j, none⟩ = some u) (l : List Value) (hl : l = cs.toList) : ∀ j u, l[j]? = some u → W.cell? ((⟨B, 0, none⟩ : Addr).add j) = some u := by
  subst hl
  intro j u hj
  rw [add_at, Nat.zero_add]
  exact h j u (by simpa using hj)
theorem flat_snoc (l : List Q5) (x : Q5) : flat (l ++ [x]) = flat l ++ x.cells := by simp [flat]

set_option maxRecDepth 100000 in
set_option maxHeartbeats 4000000 in
theorem amany (w : World) (a b : Int) (n big : Nat) (ha : 0 ≤ a ∧ a < 256) (hb : 0 ≤ b ∧ b < 256) (hn : a % 64 + 1 = (n : Int)) (hg : b % 64 = (big : Int)) :
    Calls Try.prog 9 #[.int .u8 a, .int .u8 b] w fun e w' => e = .returned (.bool true) ∧ Below w.heap.size w w' := by
  have hn1 : 1 ≤ n := by omega
  have hn64 : n ≤ 64 := by omega
  have hb64 : big < 64 := by omega
  obtain ⟨i0, hi0, hz0, hz1, hz2⟩ := info_parts info_lopF
  obtain ⟨m1, hm1⟩ : ∃ m1, m1 = a % 64 := ⟨_, rfl⟩
  have ta : Int.tmod a 64 = m1 := by rw [Int.tmod_eq_emod_of_nonneg ha.1]; omega
  have ta2 : a % 64 = m1 := hm1.symm
  have tb2 : b % 64 = (big : Int) := hg
  have e1 : m1 + 1 = (n : Int) := by omega
  have m10 : 0 ≤ m1 := by omega
  have m11 : m1 < 64 := by omega
  have tb : Int.tmod b 64 = (big : Int) := by rw [Int.tmod_eq_emod_of_nonneg hb.1]; omega
  have OWN0 := Lib.hid (own_emptyL w)
  have BL0 := Lib.hid ((Below.refl w.heap.size w).alloc (Nat.le_refl _) (.cells #[] 45))
  have HN := Lib.hid hn
  have HG := Lib.hid hg
  clear hn hg hm1
  go_enter Try.func9, Try.ntmps9
  go_wp2_with fail
  go_loopw [7, 8] (fun v i wr => ∃ (k : Nat), k ≤ n ∧ i = .int .i64 k ∧ wr.ownsRow w.heap.size 45 5 v k (flat (setsQ 0 k)) ∧ Below w.heap.size w wr) (fun _ i _ => n - (intOf i).toNat)
  case atStart => exact ⟨0, Nat.zero_le _, rfl, OWN0.out, BL0.out⟩
  case round =>
    obtain ⟨k, hk, rfl, own, hb⟩ := hrel
    have OWN := Lib.hid own
    have HB := Lib.hid hb
    have VO := Lib.hid own.lt
    have hsz := hb.size
    by_cases hlt : k < n
    · have tl : decide ((k : Int) < (n : Int)) = true := by simp; omega
      have E1 := Lib.hid (show k + 1 ≤ maxLen by simp only [maxLen]; omega)
      have E2 := Lib.hid (show (k + 1) * 40 ≤ 140737488355328 by omega)
      have NEW := Lib.hid (fun W : World => show ∀ j u, [Value.int .i64 1, .int .i64 (k : Int), .int .i64 0, .int .i64 0, .int .i32 0][j]? = some u → (W.alloc (.cells #[.int .i64 1, .int .i64 (k : Int), .int .i64 0, .int .i64 0, .int .i32 0] 45)).cell? ((⟨W.heap.size, 0, none⟩ : Addr).add j) = some u from new_set (fun j u hj => by rw [World.cell?_alloc_new]; exact hj) _ rfl)
      clear own hb
      go_wp2_with (at_builtin; refine wpList_append_own _ rfl (.tmp 26) (.tmp 29) 22 rfl w.heap.size 45 i0 (.agg #[.int .i64 0, .int .i64 0, .int .i64 0, .int .i64 0, .int .i32 0]) 5 40 Try.underlying22 hi0 hz0 hz1 hz2 rfl (by decide) _ _ _ rfl (OWN.out.alloc _) ⟨_, 0, none⟩ 1 1 [.int .i64 1, .int .i64 (k : Int), .int .i64 0, .int .i64 0, .int .i32 0] rfl rfl (NEW.out _) (by simp [Value.oneCell']) E1.out E2.out (by simp; omega) ?_; intro v1 w4 hown hg hn)
      have HB4 := Lib.hid ((HB.out.alloc (by omega) (.cells #[.int .i64 1, .int .i64 (k : Int), .int .i64 0, .int .i64 0, .int .i32 0] 45)).grown hg (by simp; omega) (fun q hq => (VO.out q hq).1))
      have OWN4 := Lib.hid (show w4.ownsRow w.heap.size 45 5 v1 (k + 1) (flat (setsQ 0 (k + 1))) by
        rw [setsQ_snoc, flat_snoc, Nat.zero_add]
        exact hown)
      clear hown hg hn
      go_wp2_with fail
      refine ⟨⟨k + 1, by omega, by simp, OWN4.out, HB4.out⟩, by simp [intOf]; omega⟩
    · obtain rfl : k = n := by omega
      have tl : decide ((k : Int) < (k : Int)) = false := by simp
      have E1 := Lib.hid (show k + 1 ≤ maxLen by simp only [maxLen]; omega)
      have E2 := Lib.hid (show (k + 1) * 40 ≤ 140737488355328 by omega)
      have NEW := Lib.hid (fun W : World => show ∀ j u, [Value.int .i64 2, .int .i64 (big : Int), .int .i64 (big : Int), .int .i64 0, .int .i32 0][j]? = some u → (W.alloc (.cells #[.int .i64 2, .int .i64 (big : Int), .int .i64 (big : Int), .int .i64 0, .int .i32 0] 45)).cell? ((⟨W.heap.size, 0, none⟩ : Addr).add j) = some u from new_set (fun j u hj => by rw [World.cell?_alloc_new]; exact hj) _ rfl)
      clear own hb
      go_wp2_with (at_builtin; refine wpList_append_own _ rfl (.tmp 31) (.tmp 35) 22 rfl w.heap.size 45 i0 (.agg #[.int .i64 0, .int .i64 0, .int .i64 0, .int .i64 0, .int .i32 0]) 5 40 Try.underlying22 hi0 hz0 hz1 hz2 rfl (by decide) _ _ _ rfl (OWN.out.alloc _) ⟨_, 0, none⟩ 1 1 [.int .i64 2, .int .i64 (big : Int), .int .i64 (big : Int), .int .i64 0, .int .i32 0] rfl rfl (NEW.out _) (by simp [Value.oneCell']) E1.out E2.out (by simp; omega) ?_; intro v1 w4 hown hg hn)
      have HB4 := Lib.hid ((HB.out.alloc (by omega) (.cells #[.int .i64 2, .int .i64 (big : Int), .int .i64 (big : Int), .int .i64 0, .int .i32 0] 45)).grown hg (by simp; omega) (fun q hq => (VO.out q hq).1))
      have lq : (amQ k big).length = k + 1 := by simp [amQ, setsQ_len]
      obtain ⟨g4, c4, rfl, hg4, hL4⟩ := l5_put (t := amQ k big) (by rw [Nat.zero_add, List.nil_append, lq]; unfold amQ; rw [flat_snoc]; exact hown) (by intro h; rw [h] at lq; simp at lq) (by omega)
      have L4 := Lib.hid hL4
      clear hown hg hn hL4 NEW E1 E2 OWN VO
      go_wp2_with fail
      refine (homes_any _ c4 (amQ k big) w4 L4.out (am_check hn64 hb64).1).mono ?_
      rintro e w8 ⟨g8, rfl, r8, b8⟩
      have R8 := Lib.hid r8
      have B8 := Lib.hid (bt17 HB4.out b8)
      have HA := home_at (amQ k big) hb64 (am_in hn64 hb64)
      rw [am_first hn64 hb64 (fun v hv => varsS_in _ v hv)] at HA
      have hx : (homesS (amQ k big)).getD (big * 2) 0 = 5 := by
        rcases HA with ⟨_, h, _⟩ | ⟨h, _⟩
        · rw [h]; rfl
        · omega
      obtain ⟨p0, _, pl⟩ := r8.at (j := big * 2) (by omega)
      rw [hx] at p0
      rw [am_many hn64 hb64]
      generalize homesS (amQ k big) = H at *
      clear r8 b8 HA hx lq
      by_cases hbk : k ≤ big
      · rw [if_pos hbk]
        have tk : decide ((k : Int) ≤ (big : Int)) = true := by simp; omega
        by_cases h20 : k + 1 < 20
        · rw [show k + 1 - 20 = 0 by omega]
          have t2 : decide ((k : Int) + 1 - 20 < 0) = true := by simp; omega
          go_wp2_with fail
          refine (lives17 _).mono ?_
          rintro e wb ⟨rfl, bb⟩
          have BB := Lib.hid (bt17 B8.out bb)
          clear bb
          go_wp2_with fail
          go_ret
          exact ⟨rfl, BB.out⟩
        · obtain ⟨ns, hns⟩ : ∃ ns, ns = k + 1 - 20 := ⟨_, rfl⟩
          rw [← hns]
          have ens : (k : Int) + 1 - 20 = (ns : Int) := by omega
          have t2 : decide ((ns : Int) < 0) = false := by simp
          clear hns
          go_wp2_with fail
          refine (lives17 _).mono ?_
          rintro e wb ⟨rfl, bb⟩
          have BB := Lib.hid (bt17 B8.out bb)
          clear bb
          go_wp2_with fail
          go_ret
          exact ⟨rfl, BB.out⟩
      · rw [if_neg hbk]
        have tk : decide ((k : Int) ≤ (big : Int)) = false := by simp; omega
        by_cases h20 : k + 0 < 20
        · rw [show k + 0 - 20 = 0 by omega]
          have t2 : decide ((k : Int) - 20 < 0) = true := by simp; omega
          go_wp2_with fail
          refine (lives17 _).mono ?_
          rintro e wb ⟨rfl, bb⟩
          have BB := Lib.hid (bt17 B8.out bb)
          clear bb
          go_wp2_with fail
          go_ret
          exact ⟨rfl, BB.out⟩
        · obtain ⟨ns, hns⟩ : ∃ ns, ns = k + 0 - 20 := ⟨_, rfl⟩
          rw [← hns]
          have ens : (k : Int) - 20 = (ns : Int) := by omega
          have t2 : decide ((ns : Int) < 0) = false := by simp
          clear hns
          go_wp2_with fail
          refine (lives17 _).mono ?_
          rintro e wb ⟨rfl, bb⟩
          have BB := Lib.hid (bt17 B8.out bb)
          clear bb
          go_wp2_with fail
          go_ret
          exact ⟨rfl, BB.out⟩

theorem walk_AllocMany (a b : Int) (w0 : (Lit.int .u8 a).wf = true) (w1 : (Lit.int .u8 b).wf = true) (w : World) :
    Calls Try.prog 9 #[.int .u8 a, .int .u8 b] w fun e w' => e = .returned (.bool true) ∧ Below w.heap.size w w' := by
  have ha : 0 ≤ a ∧ a ≤ 255 := by simpa [Lit.wf, IntKind.min, IntKind.max, IntKind.signed, IntKind.bits] using w0
  have hb : 0 ≤ b ∧ b ≤ 255 := by simpa [Lit.wf, IntKind.min, IntKind.max, IntKind.signed, IntKind.bits] using w1
  exact amany w a b (a % 64 + 1).toNat (b % 64).toNat (by omega) (by omega) (by omega) (by omega)

set_option maxRecDepth 100000 in
theorem lifted_AllocMany (os : Os) (started : os.Started) (H : Type) (enc : TypeId × Value → H) :
    ReturnsInHanded {} Try.checked os 9 .any (Rows.allocManySpec.pre6 enc Try.prog Try.f9 Rows.allocManyRow.domain false) (Rows.allocManySpec.post enc Try.prog Try.f9 false true false false) := by
  refine returnsInHanded_of_change (C := Try.checked) own started (by kernel_rfl) Try.func9
    (ChangeSpec.witness6 (enc := enc) (C := Try.checked) false ⟨#[], #[.int .u8 0, .int .u8 0], []⟩ 8 (by kernel_rfl) (by kernel_rfl) (by kernel_rfl) (by kernel_rfl)) ?_
  intro W base args ds gs before hval0 hW hcnd _
  have hval : ∀ (j : Nat) t v, Try.f9.params[j]? = some t → args[j]? = some v → Value.okWide Try.prog W .any base t v := hval0
  have hW' := hW
  obtain ⟨p, q, hA0, hV, rfl, hfz, hnd⟩ := hW
  have hA : DataW.TrodAll enc Try.prog W 0 (fun _ => true) true Try.f9.params.toList args.toList ds p := hA0
  rw [Try.params9] at hA hval
  obtain ⟨v0, vs0, d0, ds0, p0, q0, hargs, rfl, rfl, h0, r0⟩ := trodAll_cons hA
  obtain ⟨v1, vs1, d1, ds1, p1, q1, rfl, rfl, rfl, h1, r1⟩ := trodAll_cons r0
  obtain ⟨rfl, rfl, rfl⟩ := trodAll_nil r1
  obtain rfl : args = #[v0, v1] := by cases args; simp_all
  obtain ⟨rfl, rfl⟩ := trodVars_none hV
  obtain ⟨a0, rfl, rfl, rfl, w0⟩ := open_int Try.underlying5 (hval 0 5 v0 rfl rfl) h0
  obtain ⟨a1, rfl, rfl, rfl, w1⟩ := open_int Try.underlying5 (hval 1 5 v1 rfl rfl) h1
  clear hA0 hval0
  refine (walk_AllocMany a0 a1 w0 w1 W).mono fun e W' ⟨he, bel⟩ => ?_
  subst he
  exact ⟨_, rfl, _, _, _, [], _, [], hW', trodAll_mk1 (shut_bool Try.underlying4 _), (trodAll_cons_mk (shut_int Try.underlying5 w0) (trodAll_cons_mk (shut_int Try.underlying5 w1) trodAll_mk0)), rfl, bel.frame _, fun h => by cases h⟩

theorem holds_AllocMany : Rows.AllocManySaid :=
  OpenClaim.holds_of_wide 9 Try.f9 rfl rfl rfl rfl rfl rfl rfl ⟨rfl, rfl, rfl, rfl, rfl⟩ rfl rfl rfl rfl rfl (by kernel_rfl) Try.func9 (by kernel_rfl)
    (of_decide_eq_true (by kernel_rfl)) (by unfold Func.isWrapper; first | (rw [if_pos (by decide +kernel)]; kernel_rfl) | (rw [if_neg (by decide +kernel)]; exact ⟨rfl, rfl⟩))
    (fun os started H enc _ => lifted_AllocMany os started H enc)

end Go.Proofs.Ytolohbegdjnjnaa
