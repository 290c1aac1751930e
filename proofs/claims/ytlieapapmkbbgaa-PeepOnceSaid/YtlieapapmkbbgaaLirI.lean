/- Contract of pintleref15.Check. -/
import Derived.Test.YtlieapapmkbbgaaLirH
import Derived.Test.YtlieapapmkbbgaaCntP
namespace Go.Proofs.Ytlieapapmkbbgaa
open Go Go.RowKit
set_option linter.unusedVariables false

theorem runC_fail {l : List Q5} {i : Nat} {x : Q5} {cs : List Int} (hx : l[i]? = some x) (h24 : x.o ≠ 24) (hrun : runC (l.drop i) cs = runC l []) (h : (writesS x ≠ -1 ∧ writesS x ∈ cs) ∨ (x.o = 23 ∧ cs.length = 10)) : countedS l = false := cnt_no hx h24 h hrun
theorem writes_d {x : Q5} (hc : canS x = true) (hd : hasD x.o = true) : writesS x = x.d := by unfold writesS; simp [hc, hd]
theorem writes_m {x : Q5} (hd : hasD x.o = false) : writesS x = -1 := by unfold writesS; simp [hd]
theorem dOf_at {l : List Q5} {k : Nat} {y : Q5} (h : l[k]? = some y) : dOf l k = y.d := by unfold dOf; rw [h]; rfl
/-- nothing is set that counts an open loop -/
def calm (l : List Q5) (x : Q5) (O : List Nat) (k : Nat) : Prop := ∀ b ∈ O, b < k → ¬ (hasD x.o = true ∧ x.d = dOf l b)
theorem calm_all {l : List Q5} {x : Q5} {O : List Nat} {k : Nat} (hc : canS x = true) (h : calm l x O k) (hO : ∀ b ∈ O, b < k) : ¬ (writesS x ≠ -1 ∧ writesS x ∈ O.map (dOf l)) := by
  rintro ⟨h1, h2⟩
  cases hd : hasD x.o
  · exact h1 (writes_m hd)
  · rw [writes_d hc hd] at h2
    obtain ⟨b, hb, e⟩ := List.mem_map.1 h2
    exact h b hb (hO b hb) ⟨hd, e.symm⟩
theorem calm_next {l : List Q5} {x : Q5} {O : List Nat} {k : Nat} (h : calm l x O k) (hk : k ∈ O → ¬ (hasD x.o = true ∧ x.d = dOf l k)) : calm l x O (k + 1) := by
  intro b hb hlt
  by_cases e : b = k
  · subst e; exact hk hb
  · exact h b hb (by omega)
def deepS (O : List Nat) (i k : Nat) (x : Q5) : Nat := (O.filter fun b => decide (b < k)).length + if k = i + 1 ∧ x.o = 23 then 1 else 0
theorem deep_0 (O : List Nat) (i : Nat) (x : Q5) : deepS O i 0 x = 0 := by
  unfold deepS
  rw [if_neg (by omega)]
  simp
theorem deep_lt {O : List Nat} {i k : Nat} {x : Q5} (hn : O.Nodup) (hk : k < i) : deepS O i (k + 1) x = deepS O i k x + if k ∈ O then 1 else 0 := by
  unfold deepS
  rw [filt_succ O k hn, if_neg (show ¬ (k + 1 = i + 1 ∧ x.o = 23) by omega), if_neg (show ¬ (k = i + 1 ∧ x.o = 23) by omega)]
  omega
theorem deep_i {O : List Nat} {i : Nat} {x : Q5} (hn : O.Nodup) (hO : ∀ b ∈ O, b < i) : deepS O i (i + 1) x = deepS O i i x + if x.o = 23 then 1 else 0 := by
  unfold deepS
  have hni : i ∉ O := fun h => by have := hO i h; omega
  rw [filt_succ O i hn, if_neg hni, if_neg (show ¬ (i = i + 1 ∧ x.o = 23) by omega)]
  by_cases h : x.o = 23
  · rw [if_pos ⟨rfl, h⟩, if_pos h]
  · rw [if_neg (fun g => h g.2), if_neg h]
theorem deep_end {O : List Nat} {i : Nat} {x : Q5} (hO : ∀ b ∈ O, b < i) : deepS O i (i + 1) x = O.length + if x.o = 23 then 1 else 0 := by
  unfold deepS
  rw [filt_all (fun b hb => by have := hO b hb; omega)]
  by_cases h : x.o = 23
  · rw [if_pos ⟨rfl, h⟩, if_pos h]
  · rw [if_neg (fun g => h g.2), if_neg h]
theorem deep_le (O : List Nat) (i k : Nat) (x : Q5) : deepS O i k x ≤ O.length + 1 := by
  unfold deepS
  have := List.length_filter_le (fun b => decide (b < k)) O
  split <;> omega
def ChkRel (w : World) (l : List Q5) (P : List Int) (i : Value) (wr : World) : Prop := ∃ (k : Nat) (Pk : List Int) (O : List Nat), k ≤ l.length ∧ i = .int .i64 k ∧ InvM l P k Pk O ∧ O.length ≤ 10 ∧ runC (l.drop k) (O.map (dOf l)) = runC l [] ∧ Below w.heap.size w wr
theorem chk_next {w w2 : World} {l : List Q5} {P : List Int} {k : Nat} {Pk : List Int} {O : List Nat} {x : Q5} {i : Value} (hx : l[k]? = some x) (hlt : k < l.length) (hi : InvM l P k Pk O) (h10 : O.length ≤ 10) (hr : runC (l.drop k) (O.map (dOf l)) = runC l [])
    (hc : canS x = true) (hq : calm l x O (k + 1)) (hd : ¬ (x.o = 23 ∧ 10 ≤ O.length)) (hb : Below w.heap.size w w2) (hv : i = .int .i64 ((k + 1 : Nat) : Int)) : ChkRel w l P i w2 := by
  have hOl : ∀ b ∈ O, b < k := fun b hb => (hi.2.1 b hb).1
  have hw := calm_all hc hq (fun b hb => by have := hOl b hb; omega)
  rw [runC_step hx] at hr
  by_cases h23 : x.o = 23
  · refine ⟨k + 1, _, _, by omega, hv, inv_23 hi hx h23, by simp; omega, ?_, hb⟩
    rw [← hr, stepC, if_neg (by omega), if_neg hw, if_pos h23, if_neg (by simp; omega)]
    simp [dOf_at hx]
  · by_cases h24 : x.o = 24
    · obtain ⟨hne, Pj', hi'⟩ := inv_24 hi hx h24
      refine ⟨k + 1, _, _, by omega, hv, hi', by rw [List.length_dropLast]; omega, ?_, hb⟩
      rw [← hr, stepC, if_pos h24, List.map_dropLast]
    · refine ⟨k + 1, _, _, by omega, hv, inv_other hi hx h23 h24, h10, ?_, hb⟩
      rw [← hr, stepC, if_neg h24, if_neg hw, if_neg h23]
theorem hasD_not24 {o : Int} (h : hasD o = true) : o ≠ 24 := by
  intro e
  subst e
  revert h
  decide

set_option maxRecDepth 100000 in
set_option maxHeartbeats 2000000 in
theorem rcheck_any (a : Option Addr) (c : Nat) (l : List Q5) (w : World) (hl : L5 w a l) (hwf : ∀ x ∈ l, x.wf) :
    Calls Try.prog 12 #[.slice a l.length c] w fun e w' => e = .returned (.int .i64 (checkS l)) ∧ Below w.heap.size w w' := by
  have hlen := hl.1
  have HL := Lib.hid hl
  have HW := Lib.hid hwf
  clear hl hwf
  by_cases h2 : 20000 < l.length
  · have E := Lib.hid (check_long h2)
    have h2' : decide (20000 < l.length) = true := by simpa using h2
    go_enter Try.func12, Try.ntmps12
    go_wp2_with fail
    go_ret
    exact ⟨ret_i64' E.out.symm, by go_grown⟩
  · have H2 := Lib.hid h2
    have h2' : decide (20000 < l.length) = false := by simpa using h2
    go_enter Try.func12, Try.ntmps12
    go_wp2_with fail
    clear h2'
    go_loopw [3] (fun i wr => ∃ k : Nat, k ≤ l.length ∧ i = .int .i64 k ∧ (∀ x ∈ l.take k, canS x = true) ∧ Below w.heap.size w wr) (fun i _ => l.length - (intOf i).toNat)
    case atStart => exact ⟨0, Nat.zero_le _, rfl, by simp, by go_grown⟩
    case round =>
      obtain ⟨k, hk, rfl, hall, hb⟩ := hrel
      have HA := Lib.hid hall
      clear hall
      by_cases hlt : k < l.length
      · obtain ⟨x, hx⟩ := lookup hlt
        have hxw := HW.out x (List.mem_of_getElem? hx)
        obtain ⟨xo, xd, xa, xb, xi⟩ := x
        have hI : -2147483648 ≤ xi ∧ xi ≤ 2147483647 := by
          have := hxw.2.2.2.2
          simpa [Lit.wf, IntKind.min, IntKind.max, IntKind.signed, IntKind.bits] using this
        have hl2 := HL.out.later hb
        obtain ⟨_, hnil | ⟨bb, off, rfl, hbb, hc⟩⟩ := hl2
        · rw [hnil] at hlt; simp at hlt
        obtain ⟨p0, p1, p2, p3, p4⟩ := hc k _ hx
        have HX := Lib.hid hx
        have HB := Lib.hid hb
        have hz := hb.size
        clear hx hc hb hxw
        cases hcx : canS ⟨xo, xd, xa, xb, xi⟩
        · have E := Lib.hid (check_arg H2.out (List.mem_of_getElem? HX.out) hcx)
          have C := Lib.hid (rcan_is xo xd xa xb xi · hI hcx)
          clear hcx
          go_wp2_with fail
          refine (C.out _).mono ?_
          rintro e w1 ⟨rfl, rfl⟩
          go_wp2_with fail
          go_ret
          exact ⟨ret_i64' E.out.symm, HB.out.alloc (by omega) _⟩
        · have C := Lib.hid (rcan_is xo xd xa xb xi · hI hcx)
          have CX := Lib.hid hcx
          clear hcx
          go_wp2_with fail
          refine (C.out _).mono ?_
          rintro e w1 ⟨rfl, rfl⟩
          go_wp2_with fail
          refine ⟨⟨k + 1, by omega, rfl, ?_, HB.out.alloc (by omega) _⟩, by first | (simp [intOf]; done) | (simp [intOf]; omega)⟩
          intro y hy
          rw [List.take_add_one, HX.out] at hy
          rcases List.mem_append.1 hy with g | g
          · exact HA.out y g
          · simp at g; subst g; exact CX.out
      · obtain rfl : k = l.length := by omega
        clear hlt
        have hall := HA.out
        rw [List.take_length] at hall
        have HC := Lib.hid hall
        have HB := Lib.hid hb
        have L2 := Lib.hid (HL.out.later hb)
        have hz := hb.size
        clear hall hb HA
        go_wp2_with fail
        refine (rends_any a c l wr L2.out).mono ?_
        unfold REndsPost
        cases he : endsS l with
        | none =>
          have E := Lib.hid (check_ends H2.out HC.out he)
          clear he
          rintro e w1 ⟨⟨v, rfl, _⟩, hb1⟩
          have HB1 := Lib.hid (HB.out.trans (hb1.mono hz))
          clear hb1
          go_wp2_with fail
          go_ret
          exact ⟨ret_i64' E.out.symm, HB1.out⟩
        | some P =>
          have E := Lib.hid (check_cnt H2.out HC.out he)
          have EB := Lib.hid (ends_back he)
          have IS := Lib.hid (inv_start he)
          clear he
          rintro e w1 ⟨⟨v, rfl, hown⟩, hb1⟩
          have HB1 := Lib.hid (HB.out.trans (hb1.mono hz))
          have L3 := Lib.hid (L2.out.later hb1)
          obtain ⟨a2, c2, rfl, hI2⟩ := own_i hown (by rw [EB.out.1]; exact hlen)
          have I2 := Lib.hid hI2
          have hPl : P.length = l.length := EB.out.1
          have HPl := Lib.hid hPl
          clear hb1 hown hI2 hPl
          go_wp2_with fail
          go_loopw [6] (fun i wr => ChkRel w1 l P i wr) (fun i _ => l.length - (intOf i).toNat)
          case atStart => exact ⟨0, _, [], Nat.zero_le _, rfl, IS.out, by simp, rfl, Below.refl _ _⟩
          case round =>
            obtain ⟨i, Pi, O, hi, rfl, hinv, h10, hrun, hb⟩ := hrel
            obtain ⟨wo, rfl⟩ : ∃ wo : World, wo = wr := ⟨_, rfl⟩
            have HBo := Lib.hid hb
            have HI := Lib.hid hinv
            have HR := Lib.hid hrun
            by_cases hlt : i < l.length
            · obtain ⟨x, hx⟩ := lookup hlt
              have hcx := HC.out x (List.mem_of_getElem? hx)
              obtain ⟨_, hnil | ⟨bb, off, rfl, hbb, hc⟩⟩ := L3.out.later hb
              · rw [hnil] at hlt; simp at hlt
              obtain ⟨_, hnil | ⟨b2, off2, rfl, hb2, hc2⟩⟩ := I2.out.later hb
              · rw [hnil] at HPl; have := HPl.out; simp at this; omega
              have pi0 := (hc i x hx).1
              have pi1 := (hc i x hx).2.1
              have CELL := Lib.hid hc
              have CELP := Lib.hid hc2
              have HX := Lib.hid hx
              have HCX := Lib.hid hcx
              have HOl := Lib.hid (show ∀ b ∈ O, b < i from fun b hb => (hinv.2.1 b hb).1)
              clear hinv hrun hb hx hcx hc hc2
              go_wp2_with fail
              go_loopw [7, 8] (fun dp kk wr => ∃ k : Nat, k ≤ i + 1 ∧ kk = .int .i64 k ∧ dp = .int .i64 (deepS O i k x : Nat) ∧ calm l x O k ∧ Below wo.heap.size wo wr) (fun _ kk _ => i + 1 - (intOf kk).toNat)
              case atStart => exact ⟨0, by omega, rfl, by rw [deep_0]; rfl, by intro b _ h; omega, Below.refl _ _⟩
              case round =>
                obtain ⟨k, hk, rfl, rfl, hcalm, hbw⟩ := hrel
                have HQ := Lib.hid hcalm
                have dle := deep_le O i k x
                have hwo := HBo.out.size
                have qi0 := (hbw.cell hbb).trans pi0
                have qi1 := (hbw.cell hbb).trans pi1
                have HW2 := Lib.hid hbw
                have HB4 := Lib.hid (HB1.out.trans ((HBo.out.trans (hbw.mono HBo.out.size)).mono HB1.out.size))
                have HB5 := Lib.hid (HBo.out.trans (hbw.mono HBo.out.size))
                clear hcalm hbw
                by_cases hki : k < i + 1
                · obtain ⟨y, hy⟩ := lookup (l := l) (k := k) (by omega)
                  obtain ⟨z, hz2⟩ := lookup (l := P) (k := k) (by rw [HPl.out]; omega)
                  have pk0 := (HW2.out.cell hbb).trans (CELL.out k y hy).1
                  have pk1 := (HW2.out.cell hbb).trans (CELL.out k y hy).2.1
                  have ez := (HW2.out.cell hb2).trans (CELP.out k z hz2)
                  have hkP : k < P.length := by rw [HPl.out]; omega
                  by_cases hy23 : y.o = 23
                  · have ty : (y.o != 23) = false := by simp [hy23]
                    by_cases hlt2 : k < i
                    · obtain ⟨z', hz', hiff⟩ := inv_open HI.out hi k y hlt2 hy hy23
                      rw [hz2] at hz'
                      obtain rfl : z = z' := Option.some.inj hz'
                      have hlt3 : decide (k < i) = true := by simpa using hlt2
                      have DL := Lib.hid (deep_lt (x := x) HI.out.2.2.1 hlt2)
                      have DY := Lib.hid (dOf_at hy)
                      clear hz' hz2 hy
                      by_cases hz3 : (i : Int) ≤ z
                      · have hkO := hiff.2 hz3
                        rw [if_pos hkO] at DL
                        have HKO := Lib.hid hkO
                        clear hiff hkO hy23
                        have DE : deepS O i (k + 1) x = deepS O i k x + 1 := DL.out
                        generalize deepS O i k x = dp0 at *
                        have HDE := Lib.hid DE
                        clear DE
                        go_wp2_with fail
                        refine (lhas_any x.o _).mono ?_
                        unfold HasPost
                        cases hd : hasD x.o
                        · have HDD := Lib.hid hd
                          clear hd
                          rintro e w2 ⟨rfl, rfl⟩
                          go_wp2_with fail
                          go_quiet (fail)
                          go_wp2_with fail
                          refine ⟨⟨k + 1, by omega, by go_num, by rw [HDE.out]; go_num, calm_next HQ.out (fun _ h => by rw [HDD.out] at h; cases h.1), by first | exact HW2.out | exact below_drewN HW2.out _⟩, by first | (simp [intOf]; done) | (simp [intOf]; omega)⟩
                        · have HDD := Lib.hid hd
                          clear hd
                          by_cases hdd : x.d = y.d
                          · have td : (x.d == y.d) = true := by simp [hdd]
                            have HEQ := Lib.hid hdd
                            clear hdd
                            rintro e w2 ⟨rfl, rfl⟩
                            go_wp2_with fail
                            go_quiet (fail)
                            go_wp2_with fail
                            go_ret
                            refine ⟨ret_i64' ?_, by first | exact HB4.out | exact below_drewN HB4.out _⟩
                            rw [E.out, runC_fail HX.out (hasD_not24 HDD.out) HR.out (Or.inl ⟨?_, ?_⟩)]
                            · rfl
                            · rw [writes_d HCX.out HDD.out]; have := can_d HCX.out; omega
                            · rw [writes_d HCX.out HDD.out, HEQ.out, ← DY.out]; exact List.mem_map.2 ⟨k, HKO.out, rfl⟩
                          · have td : (x.d == y.d) = false := by simp [hdd]
                            have HEQ := Lib.hid hdd
                            clear hdd
                            rintro e w2 ⟨rfl, rfl⟩
                            go_wp2_with fail
                            go_quiet (fail)
                            go_wp2_with fail
                            refine ⟨⟨k + 1, by omega, by go_num, by rw [HDE.out]; go_num, calm_next HQ.out (fun _ h => HEQ.out (by rw [h.2, DY.out])), by first | exact HW2.out | exact below_drewN HW2.out _⟩, by first | (simp [intOf]; done) | (simp [intOf]; omega)⟩
                      · have hkO : k ∉ O := fun h => hz3 (hiff.1 h)
                        rw [if_neg hkO] at DL
                        have HKO := Lib.hid hkO
                        clear hiff hkO hy23
                        go_wp2_with fail
                        refine ⟨⟨k + 1, by omega, by go_num, by rw [DL.out]; rfl, calm_next HQ.out (fun h => absurd h HKO.out), by first | exact HW2.out | exact below_drewN HW2.out _⟩, by first | (simp [intOf]; done) | (simp [intOf]; omega)⟩
                    · obtain rfl : k = i := by omega
                      rw [HX.out] at hy
                      obtain rfl : x = y := Option.some.inj hy
                      obtain ⟨z', hz', hzi⟩ := inv_self HI.out HX.out hy23
                      rw [hz2] at hz'
                      obtain rfl : z = z' := Option.some.inj hz'
                      have hlt3 : decide (k < k) = false := by simp
                      have DL := deep_i (x := x) HI.out.2.2.1 HOl.out
                      rw [if_pos hy23] at DL
                      have DLH := Lib.hid DL
                      have HNO := Lib.hid (show k ∉ O from fun h => by have := HOl.out k h; omega)
                      clear hz' hz2 hy DL hy23
                      generalize deepS O k k x = dp0 at *
                      go_wp2_with fail
                      refine (lhas_any x.o _).mono ?_
                      unfold HasPost
                      rintro e w2 ⟨rfl, rfl⟩
                      go_wp2_with fail
                      go_quiet (fail)
                      go_wp2_with fail
                      refine ⟨⟨k + 1, by omega, by go_num, by rw [DLH.out]; go_num, calm_next HQ.out (fun h => absurd h HNO.out), by first | exact HW2.out | exact below_drewN HW2.out _⟩, by first | (simp [intOf]; done) | (simp [intOf]; omega)⟩
                  · have ty : (y.o != 23) = true := by simp [hy23]
                    have hkO : k ∉ O := fun h => by
                      obtain ⟨_, y', hy', ho'⟩ := HI.out.2.1 k h
                      rw [hy] at hy'
                      cases hy'
                      exact hy23 ho'
                    have DL : deepS O i (k + 1) x = deepS O i k x := by
                      by_cases hlt2 : k < i
                      · rw [deep_lt HI.out.2.2.1 hlt2, if_neg hkO]; rfl
                      · obtain rfl : k = i := by omega
                        rw [HX.out] at hy
                        cases hy
                        rw [deep_i HI.out.2.2.1 HOl.out, if_neg hy23]; rfl
                    have DLH := Lib.hid DL
                    have HKO := Lib.hid hkO
                    clear DL hkO hy hz2 hy23
                    go_wp2_with fail
                    refine ⟨⟨k + 1, by omega, by go_num, by rw [DLH.out], calm_next HQ.out (fun h => absurd h HKO.out), by first | exact HW2.out | exact below_drewN HW2.out _⟩, by first | (simp [intOf]; done) | (simp [intOf]; omega)⟩
                · obtain rfl : k = i + 1 := by omega
                  have DE := deep_end (x := x) HOl.out
                  by_cases h23 : x.o = 23
                  · have t23 : (x.o == 23) = true := by simp [h23]
                    rw [if_pos h23] at DE
                    rw [DE] at dle ⊢
                    have H23 := Lib.hid h23
                    clear DE h23
                    by_cases h11 : 10 ≤ O.length
                    · have H11 := Lib.hid h11
                      go_wp2_with fail
                      go_ret
                      refine ⟨ret_i64' ?_, by first | exact HB4.out | exact below_drewN HB4.out _⟩
                      rw [E.out, runC_fail HX.out (by rw [H23.out]; decide) HR.out (Or.inr ⟨H23.out, by rw [List.length_map]; omega⟩)]
                      rfl
                    · go_wp2_with fail
                      exact ⟨chk_next HX.out hlt HI.out h10 HR.out HCX.out HQ.out (fun h => h11 h.2) HB5.out rfl, by first | (simp [intOf]; done) | (simp [intOf]; omega)⟩
                  · have t23 : (x.o == 23) = false := by simp [h23]
                    have H23 := Lib.hid h23
                    clear DE h23
                    go_wp2_with fail
                    exact ⟨chk_next HX.out hlt HI.out h10 HR.out HCX.out HQ.out (fun h => H23.out h.1) HB5.out rfl, by first | (simp [intOf]; done) | (simp [intOf]; omega)⟩
            · obtain rfl : i = l.length := by omega
              rw [List.drop_length] at hrun
              have CK := Lib.hid (show countedS l = true by unfold countedS; rw [← hrun]; rfl)
              clear hinv hrun hb hlt HR
              go_wp2_with fail
              go_ret
              refine ⟨ret_i64' ?_, HB1.out.trans (HBo.out.mono HB1.out.size)⟩
              rw [E.out, CK.out]
              rfl
end Go.Proofs.Ytlieapapmkbbgaa
