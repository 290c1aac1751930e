/- Contracts of Go's stable sort: stableCmpFunc, SortStableFunc. -/
import Derived.Test.YtmmhoemddfncmaaStD
namespace Go.Proofs.Ytmmhoemddfncmaa
open Go Go.RowKit
set_option linter.unusedVariables false

theorem blk_next {lt : Int → Int → Bool} {n fu k : Nat} {ys : List Int} (h : k + 20 ≤ n) (hf : n ≤ k + fu) : blkS lt n fu k ys = blkS lt n (fu - 1) (k + 20) (insS lt k (k + 20) ys) := by
  obtain ⟨g, rfl⟩ : ∃ g, fu = g + 1 := ⟨fu - 1, by omega⟩
  rw [blkS, if_pos h]; rfl
theorem blk_end {lt : Int → Int → Bool} {n fu k : Nat} {ys : List Int} (h : ¬ k + 20 ≤ n) (hk : k ≤ n) (hf : n ≤ k + fu) : blkS lt n fu k ys = insS lt k n ys := by
  cases fu with
  | zero =>
    obtain rfl : k = n := by omega
    unfold insS
    rw [show k - (k + 1) = 0 by omega]
    rfl
  | succ g => rw [blkS, if_neg h]
theorem pass_next {lt : Int → Int → Bool} {n s fu k : Nat} {ys : List Int} (hs : 1 ≤ s) (h : k + 2 * s ≤ n) (hf : n ≤ k + fu) : passS lt n s fu k ys = passS lt n s (fu - 1) (k + 2 * s) (symS lt (2 * s) k (k + s) (k + 2 * s) ys) := by
  obtain ⟨g, rfl⟩ : ∃ g, fu = g + 1 := ⟨fu - 1, by omega⟩
  rw [passS, if_pos h]; rfl
theorem pass_last {lt : Int → Int → Bool} {n s fu k : Nat} {ys : List Int} (h : ¬ k + 2 * s ≤ n) (h2 : k + s < n) (hf : n ≤ k + fu) : passS lt n s fu k ys = symS lt (2 * s) k (k + s) n ys := by
  obtain ⟨g, rfl⟩ : ∃ g, fu = g + 1 := ⟨fu - 1, by omega⟩
  rw [passS, if_neg h, if_pos h2]
theorem pass_end {lt : Int → Int → Bool} {n s fu k : Nat} {ys : List Int} (h : ¬ k + 2 * s ≤ n) (h2 : ¬ k + s < n) : passS lt n s fu k ys = ys := by
  cases fu with
  | zero => rfl
  | succ g => rw [passS, if_neg h, if_neg h2]
theorem passes_next {lt : Int → Int → Bool} {n s fu : Nat} {ys : List Int} (h : s < n) (hf : n ≤ s + fu) : passesS lt n fu s ys = passesS lt n (fu - 1) (2 * s) (passS lt n s n 0 ys) := by
  obtain ⟨g, rfl⟩ : ∃ g, fu = g + 1 := ⟨fu - 1, by omega⟩
  rw [passesS, if_pos h]; rfl
theorem passes_end {lt : Int → Int → Bool} {n s fu : Nat} {ys : List Int} (h : ¬ s < n) : passesS lt n fu s ys = ys := by
  cases fu with
  | zero => rfl
  | succ g => rw [passesS, if_neg h]

set_option maxRecDepth 100000 in
set_option maxHeartbeats 2000000 in
theorem stable_any (f : Int → Int → Int) (Ok : Int → Prop) (p : Value) (base G c n : Nat) (xs : List Int) (w : World) (own : SRow w base G c n xs) (hn : n ≤ 4096) (hc : c ≤ maxLen) (hok : AllOk Ok xs) (hcmp : CmpAt f Ok G p w) :
    Calls Try.prog 34 #[.slice (some ⟨G, 0, none⟩) n c, .int .i64 n, .func (.func 26) #[] #[p]] w fun e w' =>
      e = .returned (.tuple #[]) ∧ SRow w' base G c n (stableS (ltF f) xs) ∧ AllOk Ok (stableS (ltF f) xs) ∧ w.grownBy w' (some G) := by
  have hlen := own.1
  obtain ⟨T, hT⟩ : ∃ T, T = blkS (ltF f) n n 0 xs := ⟨_, rfl⟩
  obtain ⟨T2, hT2⟩ : ∃ T2, T2 = passesS (ltF f) n n 20 T := ⟨_, rfl⟩
  have hS : stableS (ltF f) xs = T2 := by unfold stableS; rw [hlen, hT2, hT]
  rw [hS]
  have OW := Lib.hid own
  have AK := Lib.hid hok
  have CM := Lib.hid hcmp
  have HT := Lib.hid hT
  have HT2 := Lib.hid hT2
  clear own hok hcmp hT hT2 hS hlen
  go_enter Try.func34, Try.ntmps34
  go_wp2_with fail
  go_loopw [7, 8] (fun i j wr => ∃ (k fu : Nat) (ys : List Int), k ≤ n ∧ n ≤ k + fu ∧ i = .int .i64 k ∧ j = .int .i64 ((k : Int) + 20) ∧ InW w base G c n ys wr ∧ AllOk Ok ys ∧ blkS (ltF f) n fu k ys = T) (fun i j _ => n - (intOf i).toNat)
  case atStart => exact ⟨0, n, xs, by omega, by omega, by rfl, by rfl, ⟨OW.out, World.grownBy.refl _ _⟩, AK.out, HT.out.symm⟩
  case round =>
    obtain ⟨k, fu, ys, hk, hfu, rfl, rfl, iw, ok, hB⟩ := hrel
    have IW := Lib.hid iw
    have OK := Lib.hid ok
    by_cases hlt : k + 20 ≤ n
    · have tl : decide ((k : Int) + 20 ≤ (n : Int)) = true := by simp; omega
      have E := Lib.hid (blk_next (lt := ltF f) (ys := ys) hlt hfu)
      have HB := Lib.hid hB
      clear iw ok hB
      go_wp2_with fail
      refine (ins_any f Ok p base G c n ys k (k + 20) wr _ _ (by omega) (by omega) IW.out.1 hn hc (by omega) (by omega) OK.out (CM.out.later IW.out.2)).mono ?_
      rintro e w5 ⟨rfl, o5, k5, g5⟩
      have I5 := Lib.hid (InW.mk o5 (IW.out.2.trans g5))
      have K5 := Lib.hid k5
      clear o5 k5 g5
      go_wp2_with fail
      refine ⟨⟨k + 20, fu - 1, _, by omega, by omega, by simp, by simp, I5.out, K5.out, by rw [← E.out]; exact HB.out⟩, by simp [intOf]; omega⟩
    · have tl : decide ((k : Int) + 20 ≤ (n : Int)) = false := by simp; omega
      have e := blk_end (lt := ltF f) (ys := ys) hlt hk hfu
      rw [hB] at e
      have E := Lib.hid e
      clear iw ok hB e
      go_wp2_with fail
      refine (ins_any f Ok p base G c n ys k n wr _ _ (by omega) (by omega) IW.out.1 hn hc (by omega) (by omega) OK.out (CM.out.later IW.out.2)).mono ?_
      rintro e w5 ⟨rfl, o5, k5, g5⟩
      rw [← E.out] at o5 k5
      have I5 := Lib.hid (InW.mk o5 (IW.out.2.trans g5))
      have K5 := Lib.hid k5
      clear o5 k5 g5 tl hlt
      go_wp2_with fail
      go_loopw [6] (fun i wr => ∃ (s fu : Nat) (ys : List Int), 1 ≤ s ∧ s ≤ 2 * n + 20 ∧ n ≤ s + fu ∧ i = .int .i64 s ∧ InW w base G c n ys wr ∧ AllOk Ok ys ∧ passesS (ltF f) n fu s ys = T2) (fun i _ => n - (intOf i).toNat)
      case atStart => exact ⟨20, n, T, by omega, by omega, by omega, rfl, I5.out, K5.out, HT2.out.symm⟩
      case round =>
        obtain ⟨s, fu2, zs, hs1, hs2, hfu2, rfl, iw, ok, hP⟩ := hrel
        have IZ := Lib.hid iw
        have OZ := Lib.hid ok
        by_cases hsn : s < n
        · have tl : decide ((s : Int) < (n : Int)) = true := by simp; omega
          have E2 := Lib.hid (passes_next (lt := ltF f) (ys := zs) hsn hfu2)
          have HP := Lib.hid hP
          obtain ⟨T3, hT3⟩ : ∃ T3, T3 = passS (ltF f) n s n 0 zs := ⟨_, rfl⟩
          have HT3 := Lib.hid hT3
          obtain ⟨wo, rfl⟩ : ∃ wo : World, wo = wr := ⟨_, rfl⟩
          clear iw ok hP hT3
          go_wp2_with fail
          go_loopw [7, 8] (fun i j wr => ∃ (k fu : Nat) (ys : List Int), k ≤ n ∧ n ≤ k + fu ∧ i = .int .i64 k ∧ j = .int .i64 ((k : Int) + 2 * (s : Int)) ∧ InW w base G c n ys wr ∧ AllOk Ok ys ∧ passS (ltF f) n s fu k ys = T3) (fun i j _ => n - (intOf i).toNat)
          case atStart => exact ⟨0, n, zs, by omega, by omega, by rfl, by simp, IZ.out, OZ.out, HT3.out.symm⟩
          case round =>
            obtain ⟨k2, fu3, ys2, hk2, hfu3, rfl, rfl, iw, ok, hQ⟩ := hrel
            have IY := Lib.hid iw
            have OY := Lib.hid ok
            by_cases hlt : k2 + 2 * s ≤ n
            · have tl2 : decide ((k2 : Int) + 2 * (s : Int) ≤ (n : Int)) = true := by simp; omega
              have E := Lib.hid (pass_next (lt := ltF f) (ys := ys2) hs1 hlt hfu3)
              have HQ := Lib.hid hQ
              clear iw ok hQ
              go_wp2_with fail
              refine (sym_any f Ok p base G c n hn hc (2 * s) ys2 k2 (k2 + s) (k2 + 2 * s) wr _ _ _ rfl (by omega) (by omega) IY.out.1 (by omega) (by omega) (by omega) (by omega) OY.out (CM.out.later IY.out.2)).mono ?_
              rintro e w6 ⟨rfl, o6, k6, g6⟩
              have I6 := Lib.hid (InW.mk o6 (IY.out.2.trans g6))
              have K6 := Lib.hid k6
              clear o6 k6 g6
              go_wp2_with fail
              refine ⟨⟨k2 + 2 * s, fu3 - 1, _, by omega, by omega, by simp, by simp, I6.out, K6.out, by rw [← E.out]; exact HQ.out⟩, by simp [intOf]; omega⟩
            · have tl2 : decide ((k2 : Int) + 2 * (s : Int) ≤ (n : Int)) = false := by simp; omega
              by_cases hm : k2 + s < n
              · have tl3 : decide ((k2 : Int) + (s : Int) < (n : Int)) = true := by simp; omega
                have e := pass_last (lt := ltF f) (ys := ys2) hlt hm hfu3
                rw [hQ] at e
                have E := Lib.hid e
                clear iw ok hQ e
                go_wp2_with fail
                refine (sym_any f Ok p base G c n hn hc (2 * s) ys2 k2 (k2 + s) n wr _ _ _ rfl (by omega) (by omega) IY.out.1 (by omega) (by omega) (by omega) (by omega) OY.out (CM.out.later IY.out.2)).mono ?_
                rintro e w6 ⟨rfl, o6, k6, g6⟩
                rw [← E.out] at o6 k6
                have I6 := Lib.hid (InW.mk o6 (IY.out.2.trans g6))
                have K6 := Lib.hid k6
                clear o6 k6 g6
                go_wp2_with fail
                refine ⟨⟨2 * s, fu2 - 1, T3, by omega, by omega, by omega, by first | rfl | (congr 1; omega), I6.out, K6.out, by rw [HT3.out, ← E2.out]; exact HP.out⟩, by simp [intOf]; omega⟩
              · have tl3 : decide ((k2 : Int) + (s : Int) < (n : Int)) = false := by simp; omega
                have e := pass_end (lt := ltF f) (n := n) (fu := fu3) (ys := ys2) hlt hm
                rw [hQ] at e
                subst e
                clear iw ok hQ
                go_wp2_with fail
                refine ⟨⟨2 * s, fu2 - 1, T3, by omega, by omega, by omega, by first | rfl | (congr 1; omega), IY.out, OY.out, by rw [HT3.out, ← E2.out]; exact HP.out⟩, by simp [intOf]; omega⟩
        · have tl : decide ((s : Int) < (n : Int)) = false := by simp; omega
          rw [passes_end hsn] at hP
          subst hP
          clear iw ok
          go_wp2_with fail
          exact Go.Great.bodyPost_end0 (by rfl) (by rfl) ⟨rfl, IZ.out.1, OZ.out, IZ.out.2⟩

set_option maxRecDepth 100000 in
set_option maxHeartbeats 2000000 in
theorem sortStable_any (f : Int → Int → Int) (Ok : Int → Prop) (p : Value) (base G c n : Nat) (xs : List Int) (w : World) (own : SRow w base G c n xs) (hn : n ≤ 4096) (hc : c ≤ maxLen) (hok : AllOk Ok xs) (hcmp : CmpAt f Ok G p w) :
    Calls Try.prog 25 #[.slice (some ⟨G, 0, none⟩) n c, .func (.func 26) #[] #[p]] w fun e w' =>
      e = .returned (.tuple #[]) ∧ SRow w' base G c n (stableS (ltF f) xs) ∧ AllOk Ok (stableS (ltF f) xs) ∧ w.grownBy w' (some G) := by
  have C := Lib.hid (stable_any f Ok p base G c n xs w own hn hc hok hcmp)
  clear own hok hcmp
  go_enter Try.func25, Try.ntmps25
  go_wp2_with fail
  refine C.out.mono ?_
  rintro e w5 ⟨rfl, o5, k5, g5⟩
  have O5 := Lib.hid o5
  have K5 := Lib.hid k5
  have G5 := Lib.hid g5
  clear o5 k5 g5
  go_wp2_with fail
  exact Go.Great.bodyPost_end0 (by rfl) (by rfl) ⟨rfl, O5.out, K5.out, G5.out⟩

set_option maxRecDepth 100000 in
set_option maxHeartbeats 1000000 in
theorem ins_nil (v p : Value) (w : World) :
    Calls Try.prog 38 #[v, .int .i64 0, .int .i64 0, p] w fun e w' => e = .returned (.tuple #[]) ∧ w' = w := by
  go_enter Try.func38, Try.ntmps38
  go_wp2_with fail
  go_loopw [8] (fun i wr => i = .int .i64 1 ∧ wr = w) (fun i _ => 0)
  case atStart => exact ⟨rfl, rfl⟩
  case round =>
    obtain ⟨rfl, rfl⟩ := hrel
    go_wp2_with fail
    exact Go.Great.bodyPost_end0 (by rfl) (by rfl) ⟨rfl, rfl⟩
set_option maxRecDepth 100000 in
set_option maxHeartbeats 1000000 in
theorem stable_nil (v p : Value) (w : World) :
    Calls Try.prog 34 #[v, .int .i64 0, p] w fun e w' => e = .returned (.tuple #[]) ∧ w' = w := by
  go_enter Try.func34, Try.ntmps34
  go_wp2_with fail
  go_loopw [7, 8] (fun i j wr => i = .int .i64 0 ∧ j = .int .i64 20 ∧ wr = w) (fun i _ _ => 0)
  case atStart => exact ⟨rfl, rfl, rfl⟩
  case round =>
    obtain ⟨rfl, rfl, rfl⟩ := hrel
    go_wp2_with fail
    refine (ins_nil v p wr).mono ?_
    rintro e w5 ⟨rfl, rfl⟩
    go_wp2_with fail
    go_loopw [6] (fun i wr => i = .int .i64 20 ∧ wr = w5) (fun i _ => 0)
    case atStart => exact ⟨rfl, rfl⟩
    case round =>
      obtain ⟨rfl, rfl⟩ := hrel
      go_wp2_with fail
      exact Go.Great.bodyPost_end0 (by rfl) (by rfl) ⟨rfl, rfl⟩
set_option maxRecDepth 100000 in
set_option maxHeartbeats 1000000 in
theorem sortStable_nil (a : Option Addr) (c : Nat) (p : Value) (w : World) :
    Calls Try.prog 25 #[.slice a 0 c, p] w fun e w' => e = .returned (.tuple #[]) ∧ w' = w := by
  go_enter Try.func25, Try.ntmps25
  go_wp2_with fail
  refine (stable_nil _ p w).mono ?_
  rintro e w5 ⟨rfl, rfl⟩
  go_wp2_with fail
  exact Go.Great.bodyPost_end0 (by rfl) (by rfl) ⟨rfl, rfl⟩
end Go.Proofs.Ytmmhoemddfncmaa
