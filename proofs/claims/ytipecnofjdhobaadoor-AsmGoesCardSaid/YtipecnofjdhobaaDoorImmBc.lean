/- Contracts of imm.Put and of the document's Put. -/
import Derived.Test.YtipecnofjdhobaaDoorImmc
import Derived.Test.YtipecnofjdhobaaDoorInstP
namespace Go.Proofs.YtipecnofjdhobaaDoor
open Go Go.RowKit Pl
set_option linter.unusedVariables false

set_option maxHeartbeats 400000 in
theorem imm_put (form n : Int) (w : World) (h0 : -2147483648 ≤ n) (h1 : n ≤ 2147483647) :
    Calls Tryd.prog 37 #[.int .i64 form, .int .i32 n] w fun e w' => e = .returned (.tuple #[.int .u32 (putR form n), .bool (putOk form n)]) ∧ w = w' := by
  by_cases h : 1 ≤ form ∧ form ≤ 5
  · obtain ⟨f0, f1⟩ := h
    obtain ⟨p0, p1⟩ := put_bd (m := n % 4294967296) f0 f1
    by_cases g : getS form (putW form (n % 4294967296)) = n
    · have e1 : putOk form n = true := decide_eq_true ⟨f0, f1, g⟩
      have e2 : putR form n = putW form (n % 4294967296) := by unfold putR; rw [e1]; rfl
      rw [e1, e2]
      have G := Lib.hid g
      clear g e1 e2
      go_enter Tryd.func37, Tryd.ntmps37
      go_wp2_with (go_at_call 48; refine (imm_spread _ _ _ f0 f1 (by omega) (by omega)).mono ?_; rintro e w' ⟨rfl, rfl⟩)
      refine (imm_get _ _ _ p0 p1).mono ?_
      rw [G.out]
      rintro e w' ⟨rfl, rfl⟩
      go_wp2_with fail
      go_ret2
      exact ⟨rfl, rfl⟩
    · have e1 : putOk form n = false := decide_eq_false (fun h => g h.2.2)
      have e2 : putR form n = 0 := by unfold putR; rw [e1]; rfl
      rw [e1, e2]
      have g' : (getS form (putW form (n % 4294967296)) != n) = true := by simpa using g
      clear g e1 e2
      go_enter Tryd.func37, Tryd.ntmps37
      go_wp2_with (first | (go_at_call 48; refine (imm_spread _ _ _ f0 f1 (by omega) (by omega)).mono ?_; rintro e w' ⟨rfl, rfl⟩) | (go_at_call 49; refine (imm_get _ _ _ p0 p1).mono ?_; rintro e w' ⟨rfl, rfl⟩))
      go_ret2
      exact ⟨rfl, rfl⟩
  · have e1 : putOk form n = false := decide_eq_false (fun g => h ⟨g.1, g.2.1⟩)
    have e2 : putR form n = 0 := by unfold putR; rw [e1]; rfl
    rw [e1, e2]
    obtain h | h : form < 1 ∨ 5 < form := by omega
    all_goals
      clear e1 e2
      go_enter Tryd.func37, Tryd.ntmps37
      go_wp2
      go_ret2
      exact ⟨rfl, rfl⟩

theorem bitsL_none {form : Int} (h : form < 1 ∨ 5 < form) : bitsL form = [] := by
  unfold bitsL; rw [if_neg (by omega), if_neg (by omega), if_neg (by omega), if_neg (by omega), if_neg (by omega)]
theorem bitsL_some {form : Int} (f0 : 1 ≤ form) (f1 : form ≤ 5) : 1 ≤ (bitsL form).length := by
  obtain rfl | rfl | rfl | rfl | rfl : form = 1 ∨ form = 2 ∨ form = 3 ∨ form = 4 ∨ form = 5 := by omega
  all_goals decide

set_option maxHeartbeats 400000 in
theorem ref2_put (form n : Int) (w : World) (h0 : -2147483648 ≤ n) (h1 : n ≤ 2147483647) :
    Calls Tryd.prog 27 #[.int .i64 form, .int .i32 n] w fun e w' => e = .returned (.tuple #[.int .u32 (putR form n), .bool (putOk form n)]) ∧ Below w.heap.size w w' := by
  by_cases h : 1 ≤ form ∧ form ≤ 5
  · obtain ⟨f0, f1⟩ := h
    obtain ⟨lm, lb⟩ := bitsL_ok form
    have lz := bitsL_some f0 f1
    have LB := Lib.hid lb
    clear lb
    obtain ⟨p0, p1⟩ := put_bd (m := n % 4294967296) f0 f1
    have SP := Lib.hid (show sK (n % 4294967296) (bitsL form) (bitsL form).length % 4294967296 = putW form (n % 4294967296) by rw [sum_put f0 f1]; omega)
    have PO : getS form (putW form (n % 4294967296)) = n → putOk form n = true ∧ putR form n = putW form (n % 4294967296) := fun g => by
      have : putOk form n = true := decide_eq_true ⟨f0, f1, g⟩
      exact ⟨this, by unfold putR; rw [this]; rfl⟩
    have PN : getS form (putW form (n % 4294967296)) ≠ n → putOk form n = false ∧ putR form n = 0 := fun g => by
      have : putOk form n = false := decide_eq_false (fun h => g h.2.2)
      exact ⟨this, by unfold putR; rw [this]; rfl⟩
    have POS := Lib.hid PO
    have PNS := Lib.hid PN
    clear PO PN
    go_enter Tryd.func27, Tryd.ntmps27
    go_wp2_with fail
    refine (ref2_bits form _).mono ?_
    rintro e w1 ⟨b, rfl, hc, hb⟩
    generalize hLe : bitsL form = L at *
    have HL := Lib.hid hLe
    clear hLe
    have HC := Lib.hid hc
    clear hc
    go_wp2_with fail
    go_loop [7, 8] (fun n1 i => ∃ k : Nat, k ≤ L.length ∧ i = .int .i64 k ∧ n1 = .int .u32 (sK (n % 4294967296) L k % 4294967296)) (fun _ i => L.length - (intOf i).toNat)
    case atStart => exact ⟨0, Nat.zero_le _, rfl, rfl⟩
    case round =>
      obtain ⟨k, hk, rfl, rfl⟩ := hrel
      by_cases hlt : k < L.length
      · have hc := HC.out k hlt
        have hl := LB.out k hlt
        have KS : sK (n % 4294967296) L (k + 1) = sK (n % 4294967296) L k + (if L.getD k 0 < 0 then 0 else n % 4294967296 / 2 ^ (L.length - 1 - k) % 2 * 2 ^ (L.getD k 0).toNat) := rfl
        have hd := (div_le_self (a := n % 4294967296) (L.length - 1 - k) (by omega)).1
        have tm := IntWalk.rem_in (n % 4294967296 / 2 ^ (L.length - 1 - k)) 2 hd
        generalize L.getD k 0 = p at *
        have hp := pow_bd (y := p.toNat) (by omega)
        have bit : n % 4294967296 / 2 ^ (L.length - 1 - k) % 2 = 0 ∨ n % 4294967296 / 2 ^ (L.length - 1 - k) % 2 = 1 := by omega
        have en : ((L.length : Int) - 1 - (k : Int)).toNat = L.length - 1 - k := by omega
        have FIN := Lib.hid KS
        clear KS
        by_cases hn : 0 ≤ p
        · rcases bit with bit | bit
          · have b1 : (n % 4294967296 / 2 ^ (L.length - 1 - k) % 2 == 1) = false := by rw [bit]; rfl
            have BIT := Lib.hid bit
            clear bit
            go_wp2
            go_round
            case measure => simp [intOf]; omega
            case rel => refine ⟨k + 1, by omega, by go_num, ?_⟩; congr 1; rw [FIN.out, if_neg (by omega), BIT.out]; omega
          · have b1 : (n % 4294967296 / 2 ^ (L.length - 1 - k) % 2 == 1) = true := by rw [bit]; rfl
            have BIT := Lib.hid bit
            clear bit
            go_wp2
            go_round
            case measure => simp [intOf]; omega
            case rel => refine ⟨k + 1, by omega, by go_num, ?_⟩; congr 1; rw [FIN.out, if_neg (by omega), BIT.out]; omega
        · go_wp2
          go_round
          case measure => simp [intOf]; omega
          case rel => refine ⟨k + 1, by omega, by go_num, ?_⟩; congr 1; rw [FIN.out, if_pos (by omega)]; omega
      · obtain rfl : k = L.length := by omega
        have hne : ¬ L = [] := by intro h; subst h; simp at lz
        by_cases g : getS form (putW form (n % 4294967296)) = n
        · have Q := Lib.hid (POS.out g)
          have G := Lib.hid g
          clear g
          go_wp2_with fail
          rw [SP.out]
          refine (ref2_get form _ _ p0 p1).mono ?_
          rw [G.out]
          rintro e w2 ⟨rfl, hb2⟩
          go_wp2_with fail
          go_ret2
          exact ⟨ret_u32b Q.out.2.symm Q.out.1.symm, hb.trans (hb2.mono hb.size)⟩
        · have Q := Lib.hid (PNS.out g)
          have g' : (getS form (putW form (n % 4294967296)) != n) = true := by simpa using g
          clear g
          go_wp2_with fail
          rw [SP.out]
          refine (ref2_get form _ _ p0 p1).mono ?_
          rintro e w2 ⟨rfl, hb2⟩
          go_wp2_with fail
          go_ret2
          exact ⟨ret_u32b Q.out.2.symm Q.out.1.symm, hb.trans (hb2.mono hb.size)⟩
  · have e1 : putOk form n = false := decide_eq_false (fun g => h ⟨g.1, g.2.1⟩)
    have e2 : putR form n = 0 := by unfold putR; rw [e1]; rfl
    rw [e1, e2]
    have hz := bitsL_none (form := form) (by omega)
    clear e1 e2 h
    go_enter Tryd.func27, Tryd.ntmps27
    go_wp2_with fail
    refine (ref2_bits form _).mono ?_
    rw [hz]
    rintro e w1 ⟨b, rfl, hc, hb⟩
    clear hc
    go_wp2_with fail
    go_loop [7, 8] (fun n1 i => n1 = .int .u32 0 ∧ i = .int .i64 0) (fun _ _ => 0)
    case atStart => exact ⟨rfl, rfl⟩
    case round =>
      obtain ⟨rfl, rfl⟩ := hrel
      go_wp2
      go_ret2
      exact ⟨rfl, hb⟩

end Go.Proofs.YtipecnofjdhobaaDoor
