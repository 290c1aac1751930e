/- The statements of layer 2 (numbers within instructions): each law of package pintlelaw02 returns true for all inputs. -/
import Derived.Test.YtiigiobmgajajaaRows
import Derived.Test.YtiigiobmgajajaaImm
import Derived.ProofKit
import Derived.OpenShut
import Derived.WalkSmall
namespace Go.Proofs.Ytiigiobmgajajaa
open Go Go.RowKit Go.ChangeShapes Go.WideShapes Go.ChangeAt Pl
set_option linter.unusedVariables false

theorem own : ownKnob Try.prog.godebug = none := by kernel_rfl

theorem bd_u8 {a : Int} (h : (Lit.int .u8 a).wf = true) : 0 ≤ a ∧ a < 256 := by
  have : 0 ≤ a ∧ a ≤ 255 := by simpa [Lit.wf, IntKind.min, IntKind.max, IntKind.signed, IntKind.bits] using h
  omega
theorem bd_u32 {a : Int} (h : (Lit.int .u32 a).wf = true) : 0 ≤ a ∧ a < 4294967296 := by
  have : 0 ≤ a ∧ a ≤ 4294967295 := by simpa [Lit.wf, IntKind.min, IntKind.max, IntKind.signed, IntKind.bits] using h
  omega
theorem bd_i32 {a : Int} (h : (Lit.int .i32 a).wf = true) : -2147483648 ≤ a ∧ a ≤ 2147483647 := by
  have : -2147483648 ≤ a ∧ a ≤ 2147483647 := by simpa [Lit.wf, IntKind.min, IntKind.max, IntKind.signed, IntKind.bits] using h
  omega

/-- whether a number has a word -/
def putOk (form n : Int) : Bool := decide (1 ≤ form ∧ form ≤ 5 ∧ getS form (putW form (n % 4294967296)) = n)
def putR (form n : Int) : Int := if putOk form n then putW form (n % 4294967296) else 0

set_option maxHeartbeats 400000 in
theorem imm_put (form n : Int) (w : World) (h0 : -2147483648 ≤ n) (h1 : n ≤ 2147483647) :
    Calls Try.prog 25 #[.int .i64 form, .int .i32 n] w fun e w' => e = .returned (.tuple #[.int .u32 (putR form n), .bool (putOk form n)]) ∧ w = w' := by
  by_cases h : 1 ≤ form ∧ form ≤ 5
  · obtain ⟨f0, f1⟩ := h
    obtain ⟨p0, p1⟩ := put_bd (m := n % 4294967296) f0 f1
    by_cases g : getS form (putW form (n % 4294967296)) = n
    · have e1 : putOk form n = true := decide_eq_true ⟨f0, f1, g⟩
      have e2 : putR form n = putW form (n % 4294967296) := by unfold putR; rw [e1]; rfl
      rw [e1, e2]
      have G := Lib.hid g
      clear g e1 e2
      go_enter Try.func25, Try.ntmps25
      go_wp2_with (go_at_call 35; refine (imm_spread _ _ _ f0 f1 (by omega) (by omega)).mono ?_; rintro e w' ⟨rfl, rfl⟩)
      refine (imm_get _ _ _ p0 p1).mono ?_
      rw [G.out]
      rintro e w' ⟨rfl, rfl⟩
      go_wp2_with fail
      go_ret2
      exact ⟨rfl, rfl⟩
    · have e1 : putOk form n = false := decide_eq_false (fun h => g h.2.2)
      have e2 : putR form n = 0 := by unfold putR; rw [e1]; rfl
      rw [e1, e2]
      have g' : (getS form (putW form (n % 4294967296)) != n) = true := by simpa using g
      clear g e1 e2
      go_enter Try.func25, Try.ntmps25
      go_wp2_with (first | (go_at_call 35; refine (imm_spread _ _ _ f0 f1 (by omega) (by omega)).mono ?_; rintro e w' ⟨rfl, rfl⟩) | (go_at_call 22; refine (imm_get _ _ _ p0 p1).mono ?_; rintro e w' ⟨rfl, rfl⟩))
      go_ret2
      exact ⟨rfl, rfl⟩
  · have e1 : putOk form n = false := decide_eq_false (fun g => h ⟨g.1, g.2.1⟩)
    have e2 : putR form n = 0 := by unfold putR; rw [e1]; rfl
    rw [e1, e2]
    obtain h | h : form < 1 ∨ 5 < form := by omega
    all_goals
      clear e1 e2
      go_enter Try.func25, Try.ntmps25
      go_wp2
      go_ret2
      exact ⟨rfl, rfl⟩

set_option maxHeartbeats 400000 in
theorem ref2_mask (form : Int) (w : World) (f0 : 1 ≤ form) (f1 : form ≤ 5) :
    Calls Try.prog 27 #[.int .i64 form] w fun e w' => e = .returned (.int .u32 (maskS form)) ∧ Below w.heap.size w w' := by
  obtain ⟨lm, lb⟩ := bitsL_ok form
  have LB := Lib.hid lb
  clear lb
  have G := Lib.hid (show mK (bitsL form) (bitsL form).length % 4294967296 = maskS form by rw [mask_is f0 f1]; unfold maskS; (repeat' split) <;> rfl)
  go_enter Try.func27, Try.ntmps27
  go_wp2_with fail
  refine (ref2_bits form _).mono ?_
  rintro e w1 ⟨b, rfl, hc, hb⟩
  generalize bitsL form = L at *
  have HC := Lib.hid hc
  clear hc
  go_wp2_with fail
  go_loop [4, 5] (fun n i => ∃ k : Nat, k ≤ L.length ∧ i = .int .i64 k ∧ n = .int .u32 (mK L k % 4294967296)) (fun _ i => L.length - (intOf i).toNat)
  case atStart => exact ⟨0, Nat.zero_le _, rfl, rfl⟩
  case round =>
    obtain ⟨k, hk, rfl, rfl⟩ := hrel
    by_cases hlt : k < L.length
    · have hc := HC.out k hlt
      have hl := LB.out k hlt
      have KS : mK L (k + 1) = mK L k + (if L.getD k 0 < 0 then 0 else 2 ^ (L.getD k 0).toNat) := rfl
      generalize L.getD k 0 = p at *
      have hp := pow_bd (y := p.toNat) (by omega)
      have FIN := Lib.hid KS
      clear KS
      by_cases hn : 0 ≤ p
      · go_wp2
        go_round
        case measure => simp [intOf]; omega
        case rel => refine ⟨k + 1, by omega, by go_num, ?_⟩; congr 1; rw [FIN.out, if_neg (by omega)]; omega
      · go_wp2
        go_round
        case measure => simp [intOf]; omega
        case rel => refine ⟨k + 1, by omega, by go_num, ?_⟩; congr 1; rw [FIN.out, if_pos (by omega)]; omega
    · obtain rfl : k = L.length := by omega
      go_wp2
      go_ret
      exact ⟨ret_u32 G.out, hb⟩

theorem bitsL_none {form : Int} (h : form < 1 ∨ 5 < form) : bitsL form = [] := by
  unfold bitsL; rw [if_neg (by omega), if_neg (by omega), if_neg (by omega), if_neg (by omega), if_neg (by omega)]
theorem bitsL_some {form : Int} (f0 : 1 ≤ form) (f1 : form ≤ 5) : 1 ≤ (bitsL form).length := by
  obtain rfl | rfl | rfl | rfl | rfl : form = 1 ∨ form = 2 ∨ form = 3 ∨ form = 4 ∨ form = 5 := by omega
  all_goals decide

set_option maxHeartbeats 400000 in
theorem ref2_put (form n : Int) (w : World) (h0 : -2147483648 ≤ n) (h1 : n ≤ 2147483647) :
    Calls Try.prog 26 #[.int .i64 form, .int .i32 n] w fun e w' => e = .returned (.tuple #[.int .u32 (putR form n), .bool (putOk form n)]) ∧ Below w.heap.size w w' := by
  by_cases h : 1 ≤ form ∧ form ≤ 5
  · obtain ⟨f0, f1⟩ := h
    obtain ⟨lm, lb⟩ := bitsL_ok form
    have lz := bitsL_some f0 f1
    have LB := Lib.hid lb
    clear lb
    obtain ⟨p0, p1⟩ := put_bd (m := n % 4294967296) f0 f1
    have SP := Lib.hid (show sK (n % 4294967296) (bitsL form) (bitsL form).length % 4294967296 = putW form (n % 4294967296) by rw [sum_put f0 f1]; omega)
    have PO : getS form (putW form (n % 4294967296)) = n → putOk form n = true ∧ putR form n = putW form (n % 4294967296) := fun g => by
      have : putOk form n = true := decide_eq_true ⟨f0, f1, g⟩
      exact ⟨this, by unfold putR; rw [this]; rfl⟩
    have PN : getS form (putW form (n % 4294967296)) ≠ n → putOk form n = false ∧ putR form n = 0 := fun g => by
      have : putOk form n = false := decide_eq_false (fun h => g h.2.2)
      exact ⟨this, by unfold putR; rw [this]; rfl⟩
    have POS := Lib.hid PO
    have PNS := Lib.hid PN
    clear PO PN
    go_enter Try.func26, Try.ntmps26
    go_wp2_with fail
    refine (ref2_bits form _).mono ?_
    rintro e w1 ⟨b, rfl, hc, hb⟩
    generalize hLe : bitsL form = L at *
    have HL := Lib.hid hLe
    clear hLe
    have HC := Lib.hid hc
    clear hc
    go_wp2_with fail
    go_loop [7, 8] (fun n1 i => ∃ k : Nat, k ≤ L.length ∧ i = .int .i64 k ∧ n1 = .int .u32 (sK (n % 4294967296) L k % 4294967296)) (fun _ i => L.length - (intOf i).toNat)
    case atStart => exact ⟨0, Nat.zero_le _, rfl, rfl⟩
    case round =>
      obtain ⟨k, hk, rfl, rfl⟩ := hrel
      by_cases hlt : k < L.length
      · have hc := HC.out k hlt
        have hl := LB.out k hlt
        have KS : sK (n % 4294967296) L (k + 1) = sK (n % 4294967296) L k + (if L.getD k 0 < 0 then 0 else n % 4294967296 / 2 ^ (L.length - 1 - k) % 2 * 2 ^ (L.getD k 0).toNat) := rfl
        have hd := (div_le_self (a := n % 4294967296) (L.length - 1 - k) (by omega)).1
        have tm := IntWalk.rem_in (n % 4294967296 / 2 ^ (L.length - 1 - k)) 2 hd
        generalize L.getD k 0 = p at *
        have hp := pow_bd (y := p.toNat) (by omega)
        have bit : n % 4294967296 / 2 ^ (L.length - 1 - k) % 2 = 0 ∨ n % 4294967296 / 2 ^ (L.length - 1 - k) % 2 = 1 := by omega
        have en : ((L.length : Int) - 1 - (k : Int)).toNat = L.length - 1 - k := by omega
        have FIN := Lib.hid KS
        clear KS
        by_cases hn : 0 ≤ p
        · rcases bit with bit | bit
          · have b1 : (n % 4294967296 / 2 ^ (L.length - 1 - k) % 2 == 1) = false := by rw [bit]; rfl
            have BIT := Lib.hid bit
            clear bit
            go_wp2
            go_round
            case measure => simp [intOf]; omega
            case rel => refine ⟨k + 1, by omega, by go_num, ?_⟩; congr 1; rw [FIN.out, if_neg (by omega), BIT.out]; omega
          · have b1 : (n % 4294967296 / 2 ^ (L.length - 1 - k) % 2 == 1) = true := by rw [bit]; rfl
            have BIT := Lib.hid bit
            clear bit
            go_wp2
            go_round
            case measure => simp [intOf]; omega
            case rel => refine ⟨k + 1, by omega, by go_num, ?_⟩; congr 1; rw [FIN.out, if_neg (by omega), BIT.out]; omega
        · go_wp2
          go_round
          case measure => simp [intOf]; omega
          case rel => refine ⟨k + 1, by omega, by go_num, ?_⟩; congr 1; rw [FIN.out, if_pos (by omega)]; omega
      · obtain rfl : k = L.length := by omega
        have hne : ¬ L = [] := by intro h; subst h; simp at lz
        by_cases g : getS form (putW form (n % 4294967296)) = n
        · have Q := Lib.hid (POS.out g)
          have G := Lib.hid g
          clear g
          go_wp2_with fail
          rw [SP.out]
          refine (ref2_get form _ _ p0 p1).mono ?_
          rw [G.out]
          rintro e w2 ⟨rfl, hb2⟩
          go_wp2_with fail
          go_ret2
          exact ⟨ret_u32b Q.out.2.symm Q.out.1.symm, hb.trans (hb2.mono hb.size)⟩
        · have Q := Lib.hid (PNS.out g)
          have g' : (getS form (putW form (n % 4294967296)) != n) = true := by simpa using g
          clear g
          go_wp2_with fail
          rw [SP.out]
          refine (ref2_get form _ _ p0 p1).mono ?_
          rintro e w2 ⟨rfl, hb2⟩
          go_wp2_with fail
          go_ret2
          exact ⟨ret_u32b Q.out.2.symm Q.out.1.symm, hb.trans (hb2.mono hb.size)⟩
  · have e1 : putOk form n = false := decide_eq_false (fun g => h ⟨g.1, g.2.1⟩)
    have e2 : putR form n = 0 := by unfold putR; rw [e1]; rfl
    rw [e1, e2]
    have hz := bitsL_none (form := form) (by omega)
    clear e1 e2 h
    go_enter Try.func26, Try.ntmps26
    go_wp2_with fail
    refine (ref2_bits form _).mono ?_
    rw [hz]
    rintro e w1 ⟨b, rfl, hc, hb⟩
    clear hc
    go_wp2_with fail
    go_loop [7, 8] (fun n1 i => n1 = .int .u32 0 ∧ i = .int .i64 0) (fun _ _ => 0)
    case atStart => exact ⟨rfl, rfl⟩
    case round =>
      obtain ⟨rfl, rfl⟩ := hrel
      go_wp2
      go_ret2
      exact ⟨rfl, hb⟩

set_option maxHeartbeats 400000 in
theorem law2_lives (w : World) : Calls Try.prog 24 #[] w fun e w' => e = .returned (.bool true) ∧ w = w' := by
  go_enter Try.func24, Try.ntmps24
  go_wp2_with fail
  refine (imm_put 3 (-2) _ (by omega) (by omega)).mono ?_
  rw [show putR 3 (-2) = 4261416832 by decide, show putOk 3 (-2) = true by decide]
  rintro e w' ⟨rfl, rfl⟩
  go_wp2_with fail
  refine (imm_get 3 4261416832 _ (by omega) (by omega)).mono ?_
  rw [show getS 3 4261416832 = -2 by decide]
  rintro e w' ⟨rfl, rfl⟩
  go_wp2_with fail
  go_ret
  exact ⟨rfl, rfl⟩

set_option maxHeartbeats 400000 in
theorem walk_ImmGets (a0 a1 : Int) (w0 : (Lit.int .i64 a0).wf = true) (w1 : (Lit.int .u32 a1).wf = true) (w : World) :
    Calls Try.prog 10 #[.int .i64 a0, .int .u32 a1] w fun e w' => e = .returned (.bool true) ∧ Below w.heap.size w w' := by
  obtain ⟨b1, c1⟩ := bd_u32 w1
  go_enter Try.func10, Try.ntmps10
  go_wp2_with fail
  refine (imm_get a0 a1 _ b1 c1).mono ?_
  rintro e w' ⟨rfl, rfl⟩
  go_wp2_with fail
  refine (ref2_get a0 a1 _ b1 c1).mono ?_
  rintro e w2 ⟨rfl, hb⟩
  go_wp2_with fail
  refine (law2_lives _).mono ?_
  rintro e w' ⟨rfl, rfl⟩
  go_wp2_with fail
  go_ret
  exact ⟨rfl, hb⟩

set_option maxHeartbeats 400000 in
theorem walk_ImmPuts (a0 a1 : Int) (w0 : (Lit.int .i64 a0).wf = true) (w1 : (Lit.int .i32 a1).wf = true) (w : World) :
    Calls Try.prog 11 #[.int .i64 a0, .int .i32 a1] w fun e w' => e = .returned (.bool true) ∧ Below w.heap.size w w' := by
  obtain ⟨b1, c1⟩ := bd_i32 w1
  go_enter Try.func11, Try.ntmps11
  go_wp2_with fail
  refine (imm_put a0 a1 _ b1 c1).mono ?_
  rintro e w' ⟨rfl, rfl⟩
  go_wp2_with fail
  refine (ref2_put a0 a1 _ b1 c1).mono ?_
  rintro e w2 ⟨rfl, hb⟩
  go_wp2_with fail
  refine (law2_lives _).mono ?_
  rintro e w' ⟨rfl, rfl⟩
  go_wp2_with fail
  go_ret
  exact ⟨rfl, hb⟩

set_option maxHeartbeats 400000 in
theorem walk_ImmBack (a0 a1 : Int) (w0 : (Lit.int .u8 a0).wf = true) (w1 : (Lit.int .u32 a1).wf = true) (w : World) :
    Calls Try.prog 12 #[.int .u8 a0, .int .u32 a1] w fun e w' => e = .returned (.bool true) ∧ Below w.heap.size w w' := by
  obtain ⟨b0, c0⟩ := bd_u8 w0
  obtain ⟨b1, c1⟩ := bd_u32 w1
  have f0 : 1 ≤ 1 + a0 % 5 := by omega
  have f1 : 1 + a0 % 5 ≤ 5 := by omega
  have bk := back f0 f1 b1 c1
  have gn := get_named f0 f1 (w := a1)
  have am : bits .and .u32 a1 (maskS (1 + a0 % 5)) = named (1 + a0 % 5) a1 := and_maskS f0 f1 b1 c1
  have gb := get_bd (1 + a0 % 5) b1 c1
  have ok : putOk (1 + a0 % 5) (getS (1 + a0 % 5) a1) = true := decide_eq_true ⟨f0, f1, by rw [bk, gn]⟩
  have pr : putR (1 + a0 % 5) (getS (1 + a0 % 5) a1) = named (1 + a0 % 5) a1 := by unfold putR; rw [ok, if_pos rfl, bk]
  have nb := put_bd (m := getS (1 + a0 % 5) a1 % 4294967296) f0 f1
  rw [bk] at nb
  have AM := Lib.hid am
  have OK := Lib.hid ok
  have PR := Lib.hid pr
  have GN := Lib.hid gn
  clear am ok pr gn bk
  go_enter Try.func12, Try.ntmps12
  go_wp2_with fail
  refine (imm_get (1 + a0 % 5) a1 _ b1 c1).mono ?_
  rintro e w' ⟨rfl, rfl⟩
  go_wp2_with fail
  refine (imm_put (1 + a0 % 5) (getS (1 + a0 % 5) a1) _ gb.1 gb.2).mono ?_
  rw [OK.out, PR.out]
  rintro e w' ⟨rfl, rfl⟩
  go_wp2_with fail
  refine (ref2_mask (1 + a0 % 5) _ f0 f1).mono ?_
  rintro e w2 ⟨rfl, hb⟩
  have am := AM.out
  go_wp2_with fail
  refine (imm_get (1 + a0 % 5) _ _ nb.1 nb.2).mono ?_
  rw [GN.out]
  rintro e w' ⟨rfl, rfl⟩
  go_wp2_with fail
  refine (law2_lives _).mono ?_
  rintro e w' ⟨rfl, rfl⟩
  go_wp2_with fail
  go_ret
  exact ⟨rfl, hb⟩

theorem tmod_zero {n m : Int} : n.tmod m = 0 ↔ n % m = 0 := by
  rw [← Int.dvd_iff_tmod_eq_zero, Int.dvd_iff_emod_eq_zero]

theorem rangeB {form n : Int} {p : Prop} [Decidable p] (f0 : 1 ≤ form) (f1 : form ≤ 5) (h0 : -2147483648 ≤ n) (h1 : n ≤ 2147483647) (hp : hasS form n ↔ p) : putOk form n = decide p := by
  have := has_iff f0 f1 h0 h1
  unfold putOk
  rw [decide_eq_decide]
  constructor
  · intro h; exact hp.1 (this.1 h.2.2)
  · intro h; exact ⟨f0, f1, this.2 (hp.2 h)⟩

set_option maxHeartbeats 1000000 in
theorem walk_ImmRange (a0 a1 : Int) (w0 : (Lit.int .u8 a0).wf = true) (w1 : (Lit.int .i32 a1).wf = true) (w : World) :
    Calls Try.prog 13 #[.int .u8 a0, .int .i32 a1] w fun e w' => e = .returned (.bool true) ∧ Below w.heap.size w w' := by
  obtain ⟨b0, c0⟩ := bd_u8 w0
  obtain ⟨b1, c1⟩ := bd_i32 w1
  obtain ⟨k, hk⟩ : ∃ k, k = a0 % 5 := ⟨_, rfl⟩
  have kb : 0 ≤ k ∧ k ≤ 4 := by omega
  have HK := Lib.hid hk.symm
  clear hk
  obtain rfl | rfl | rfl | rfl | rfl : k = 0 ∨ k = 1 ∨ k = 2 ∨ k = 3 ∨ k = 4 := by omega
  · have ok := rangeB (form := 1) (n := a1) (by omega) (by omega) b1 c1 (Iff.rfl (a := -2048 ≤ a1 ∧ a1 ≤ 2047))
    have OK := Lib.hid ok
    clear ok
    have t2 := Lib.hid (tmod_zero (n := a1) (m := 2))
    have t4 := Lib.hid (tmod_zero (n := a1) (m := 4096))
    by_cases hr : -2048 ≤ a1 ∧ a1 ≤ 2047
    · rw [decide_eq_true hr] at OK
      go_enter Try.func13, Try.ntmps13
      go_wp2_with fail
      rw [HK.out]
      refine (imm_put 1 a1 _ b1 c1).mono ?_
      rw [OK.out]
      rintro e w' ⟨rfl, rfl⟩
      go_wp2_with (go_at_call 24; refine (law2_lives _).mono ?_; rintro e w' ⟨rfl, rfl⟩)
      all_goals go_ret
      all_goals first | exact ⟨rfl, Below.refl _ _⟩ | (refine ⟨ret_bool ?_, Below.refl _ _⟩; first | (simp [*]; done) | (simp; omega)) | (exfalso; have t2 := t2.out; have t4 := t4.out; simp at *; omega)
    · rw [decide_eq_false hr] at OK
      go_enter Try.func13, Try.ntmps13
      go_wp2_with fail
      rw [HK.out]
      refine (imm_put 1 a1 _ b1 c1).mono ?_
      rw [OK.out]
      rintro e w' ⟨rfl, rfl⟩
      go_wp2_with (go_at_call 24; refine (law2_lives _).mono ?_; rintro e w' ⟨rfl, rfl⟩)
      all_goals go_ret
      all_goals first | exact ⟨rfl, Below.refl _ _⟩ | (refine ⟨ret_bool ?_, Below.refl _ _⟩; first | (simp [*]; done) | (simp; omega)) | (exfalso; have t2 := t2.out; have t4 := t4.out; simp at *; omega)
  · have ok := rangeB (form := 2) (n := a1) (by omega) (by omega) b1 c1 (Iff.rfl (a := -2048 ≤ a1 ∧ a1 ≤ 2047))
    have OK := Lib.hid ok
    clear ok
    have t2 := Lib.hid (tmod_zero (n := a1) (m := 2))
    have t4 := Lib.hid (tmod_zero (n := a1) (m := 4096))
    by_cases hr : -2048 ≤ a1 ∧ a1 ≤ 2047
    · rw [decide_eq_true hr] at OK
      go_enter Try.func13, Try.ntmps13
      go_wp2_with fail
      rw [HK.out]
      refine (imm_put 2 a1 _ b1 c1).mono ?_
      rw [OK.out]
      rintro e w' ⟨rfl, rfl⟩
      go_wp2_with (go_at_call 24; refine (law2_lives _).mono ?_; rintro e w' ⟨rfl, rfl⟩)
      all_goals go_ret
      all_goals first | exact ⟨rfl, Below.refl _ _⟩ | (refine ⟨ret_bool ?_, Below.refl _ _⟩; first | (simp [*]; done) | (simp; omega)) | (exfalso; have t2 := t2.out; have t4 := t4.out; simp at *; omega)
    · rw [decide_eq_false hr] at OK
      go_enter Try.func13, Try.ntmps13
      go_wp2_with fail
      rw [HK.out]
      refine (imm_put 2 a1 _ b1 c1).mono ?_
      rw [OK.out]
      rintro e w' ⟨rfl, rfl⟩
      go_wp2_with (go_at_call 24; refine (law2_lives _).mono ?_; rintro e w' ⟨rfl, rfl⟩)
      all_goals go_ret
      all_goals first | exact ⟨rfl, Below.refl _ _⟩ | (refine ⟨ret_bool ?_, Below.refl _ _⟩; first | (simp [*]; done) | (simp; omega)) | (exfalso; have t2 := t2.out; have t4 := t4.out; simp at *; omega)
  · have ok := rangeB (form := 3) (n := a1) (by omega) (by omega) b1 c1 (Iff.rfl (a := -4096 ≤ a1 ∧ a1 ≤ 4095 ∧ a1 % 2 = 0))
    have OK := Lib.hid ok
    clear ok
    have t2 := Lib.hid (tmod_zero (n := a1) (m := 2))
    have t4 := Lib.hid (tmod_zero (n := a1) (m := 4096))
    by_cases hr : -4096 ≤ a1 ∧ a1 ≤ 4095 ∧ a1 % 2 = 0
    · rw [decide_eq_true hr] at OK
      go_enter Try.func13, Try.ntmps13
      go_wp2_with fail
      rw [HK.out]
      refine (imm_put 3 a1 _ b1 c1).mono ?_
      rw [OK.out]
      rintro e w' ⟨rfl, rfl⟩
      go_wp2_with (go_at_call 24; refine (law2_lives _).mono ?_; rintro e w' ⟨rfl, rfl⟩)
      all_goals go_ret
      all_goals first | exact ⟨rfl, Below.refl _ _⟩ | (refine ⟨ret_bool ?_, Below.refl _ _⟩; first | (simp [*]; done) | (simp; omega)) | (exfalso; have t2 := t2.out; have t4 := t4.out; simp at *; omega)
    · rw [decide_eq_false hr] at OK
      go_enter Try.func13, Try.ntmps13
      go_wp2_with fail
      rw [HK.out]
      refine (imm_put 3 a1 _ b1 c1).mono ?_
      rw [OK.out]
      rintro e w' ⟨rfl, rfl⟩
      go_wp2_with (go_at_call 24; refine (law2_lives _).mono ?_; rintro e w' ⟨rfl, rfl⟩)
      all_goals go_ret
      all_goals first | exact ⟨rfl, Below.refl _ _⟩ | (refine ⟨ret_bool ?_, Below.refl _ _⟩; first | (simp [*]; done) | (simp; omega)) | (exfalso; have t2 := t2.out; have t4 := t4.out; simp at *; omega)
  · have ok := rangeB (form := 4) (n := a1) (by omega) (by omega) b1 c1 (Iff.rfl (a := a1 % 4096 = 0))
    have OK := Lib.hid ok
    clear ok
    have t2 := Lib.hid (tmod_zero (n := a1) (m := 2))
    have t4 := Lib.hid (tmod_zero (n := a1) (m := 4096))
    by_cases hr : a1 % 4096 = 0
    · rw [decide_eq_true hr] at OK
      go_enter Try.func13, Try.ntmps13
      go_wp2_with fail
      rw [HK.out]
      refine (imm_put 4 a1 _ b1 c1).mono ?_
      rw [OK.out]
      rintro e w' ⟨rfl, rfl⟩
      go_wp2_with (go_at_call 24; refine (law2_lives _).mono ?_; rintro e w' ⟨rfl, rfl⟩)
      all_goals go_ret
      all_goals first | exact ⟨rfl, Below.refl _ _⟩ | (refine ⟨ret_bool ?_, Below.refl _ _⟩; first | (simp [*]; done) | (simp; omega)) | (exfalso; have t2 := t2.out; have t4 := t4.out; simp at *; omega)
    · rw [decide_eq_false hr] at OK
      go_enter Try.func13, Try.ntmps13
      go_wp2_with fail
      rw [HK.out]
      refine (imm_put 4 a1 _ b1 c1).mono ?_
      rw [OK.out]
      rintro e w' ⟨rfl, rfl⟩
      go_wp2_with (go_at_call 24; refine (law2_lives _).mono ?_; rintro e w' ⟨rfl, rfl⟩)
      all_goals go_ret
      all_goals first | exact ⟨rfl, Below.refl _ _⟩ | (refine ⟨ret_bool ?_, Below.refl _ _⟩; first | (simp [*]; done) | (simp; omega)) | (exfalso; have t2 := t2.out; have t4 := t4.out; simp at *; omega)
  · have ok := rangeB (form := 5) (n := a1) (by omega) (by omega) b1 c1 (Iff.rfl (a := -1048576 ≤ a1 ∧ a1 ≤ 1048575 ∧ a1 % 2 = 0))
    have OK := Lib.hid ok
    clear ok
    have t2 := Lib.hid (tmod_zero (n := a1) (m := 2))
    have t4 := Lib.hid (tmod_zero (n := a1) (m := 4096))
    by_cases hr : -1048576 ≤ a1 ∧ a1 ≤ 1048575 ∧ a1 % 2 = 0
    · rw [decide_eq_true hr] at OK
      go_enter Try.func13, Try.ntmps13
      go_wp2_with fail
      rw [HK.out]
      refine (imm_put 5 a1 _ b1 c1).mono ?_
      rw [OK.out]
      rintro e w' ⟨rfl, rfl⟩
      go_wp2_with (go_at_call 24; refine (law2_lives _).mono ?_; rintro e w' ⟨rfl, rfl⟩)
      all_goals go_ret
      all_goals first | exact ⟨rfl, Below.refl _ _⟩ | (refine ⟨ret_bool ?_, Below.refl _ _⟩; first | (simp [*]; done) | (simp; omega)) | (exfalso; have t2 := t2.out; have t4 := t4.out; simp at *; omega)
    · rw [decide_eq_false hr] at OK
      go_enter Try.func13, Try.ntmps13
      go_wp2_with fail
      rw [HK.out]
      refine (imm_put 5 a1 _ b1 c1).mono ?_
      rw [OK.out]
      rintro e w' ⟨rfl, rfl⟩
      go_wp2_with (go_at_call 24; refine (law2_lives _).mono ?_; rintro e w' ⟨rfl, rfl⟩)
      all_goals go_ret
      all_goals first | exact ⟨rfl, Below.refl _ _⟩ | (refine ⟨ret_bool ?_, Below.refl _ _⟩; first | (simp [*]; done) | (simp; omega)) | (exfalso; have t2 := t2.out; have t4 := t4.out; simp at *; omega)

set_option maxRecDepth 100000 in
theorem lifted_ImmGets (os : Os) (started : os.Started) (H : Type) (enc : TypeId × Value → H) :
    ReturnsInHanded {} Try.checked os 10 .any (Rows.immGetsSpec.pre6 enc Try.prog Try.f10 Rows.immGetsRow.domain false) (Rows.immGetsSpec.post enc Try.prog Try.f10 false true false false) := by
  refine returnsInHanded_of_change (C := Try.checked) own started (by kernel_rfl) Try.func10
    (ChangeSpec.witness6 (enc := enc) (C := Try.checked) false ⟨#[], #[.int .i64 0, .int .u32 0], []⟩ 8 (by kernel_rfl) (by kernel_rfl) (by kernel_rfl) (by kernel_rfl)) ?_
  intro W base args ds gs before hval0 hW hcnd _
  have hval : ∀ (j : Nat) t v, Try.f10.params[j]? = some t → args[j]? = some v → Value.okWide Try.prog W .any base t v := hval0
  have hW' := hW
  obtain ⟨p, q, hA0, hV, rfl, hfz, hnd⟩ := hW
  have hA : DataW.TrodAll enc Try.prog W 0 (fun _ => true) true Try.f10.params.toList args.toList ds p := hA0
  rw [Try.params10] at hA hval
  obtain ⟨v0, vs0, d0, ds0, p0, q0, hargs, rfl, rfl, h0, r0⟩ := trodAll_cons hA
  obtain ⟨v1, vs1, d1, ds1, p1, q1, rfl, rfl, rfl, h1, r1⟩ := trodAll_cons r0
  obtain ⟨rfl, rfl, rfl⟩ := trodAll_nil r1
  obtain rfl : args = #[v0, v1] := by cases args; simp_all
  obtain ⟨rfl, rfl⟩ := trodVars_none hV
  obtain ⟨a0, rfl, rfl, rfl, w0⟩ := open_int Try.underlying3 (hval 0 3 v0 rfl rfl) h0
  obtain ⟨a1, rfl, rfl, rfl, w1⟩ := open_int Try.underlying22 (hval 1 22 v1 rfl rfl) h1
  clear hA0 hval0
  refine (walk_ImmGets a0 a1 w0 w1 W).mono fun e W' ⟨he, bel⟩ => ?_
  subst he
  exact ⟨_, rfl, _, _, _, [], _, [], hW', trodAll_mk1 (shut_bool Try.underlying4 _), (trodAll_cons_mk (shut_int Try.underlying3 w0) (trodAll_cons_mk (shut_int Try.underlying22 w1) trodAll_mk0)), rfl, bel.frame _, fun h => by cases h⟩

theorem holds_ImmGets : Rows.ImmGetsSaid :=
  OpenClaim.holds_of_wide 10 Try.f10 rfl rfl rfl rfl rfl rfl rfl ⟨rfl, rfl, rfl, rfl, rfl⟩ rfl rfl rfl rfl rfl (by kernel_rfl) Try.func10 (by kernel_rfl)
    (of_decide_eq_true (by kernel_rfl)) (by unfold Func.isWrapper; first | (rw [if_pos (by decide +kernel)]; kernel_rfl) | (rw [if_neg (by decide +kernel)]; exact ⟨rfl, rfl⟩))
    (fun os started H enc _ => lifted_ImmGets os started H enc)

set_option maxRecDepth 100000 in
theorem lifted_ImmPuts (os : Os) (started : os.Started) (H : Type) (enc : TypeId × Value → H) :
    ReturnsInHanded {} Try.checked os 11 .any (Rows.immPutsSpec.pre6 enc Try.prog Try.f11 Rows.immPutsRow.domain false) (Rows.immPutsSpec.post enc Try.prog Try.f11 false true false false) := by
  refine returnsInHanded_of_change (C := Try.checked) own started (by kernel_rfl) Try.func11
    (ChangeSpec.witness6 (enc := enc) (C := Try.checked) false ⟨#[], #[.int .i64 0, .int .i32 0], []⟩ 8 (by kernel_rfl) (by kernel_rfl) (by kernel_rfl) (by kernel_rfl)) ?_
  intro W base args ds gs before hval0 hW hcnd _
  have hval : ∀ (j : Nat) t v, Try.f11.params[j]? = some t → args[j]? = some v → Value.okWide Try.prog W .any base t v := hval0
  have hW' := hW
  obtain ⟨p, q, hA0, hV, rfl, hfz, hnd⟩ := hW
  have hA : DataW.TrodAll enc Try.prog W 0 (fun _ => true) true Try.f11.params.toList args.toList ds p := hA0
  rw [Try.params11] at hA hval
  obtain ⟨v0, vs0, d0, ds0, p0, q0, hargs, rfl, rfl, h0, r0⟩ := trodAll_cons hA
  obtain ⟨v1, vs1, d1, ds1, p1, q1, rfl, rfl, rfl, h1, r1⟩ := trodAll_cons r0
  obtain ⟨rfl, rfl, rfl⟩ := trodAll_nil r1
  obtain rfl : args = #[v0, v1] := by cases args; simp_all
  obtain ⟨rfl, rfl⟩ := trodVars_none hV
  obtain ⟨a0, rfl, rfl, rfl, w0⟩ := open_int Try.underlying3 (hval 0 3 v0 rfl rfl) h0
  obtain ⟨a1, rfl, rfl, rfl, w1⟩ := open_int Try.underlying21 (hval 1 21 v1 rfl rfl) h1
  clear hA0 hval0
  refine (walk_ImmPuts a0 a1 w0 w1 W).mono fun e W' ⟨he, bel⟩ => ?_
  subst he
  exact ⟨_, rfl, _, _, _, [], _, [], hW', trodAll_mk1 (shut_bool Try.underlying4 _), (trodAll_cons_mk (shut_int Try.underlying3 w0) (trodAll_cons_mk (shut_int Try.underlying21 w1) trodAll_mk0)), rfl, bel.frame _, fun h => by cases h⟩

theorem holds_ImmPuts : Rows.ImmPutsSaid :=
  OpenClaim.holds_of_wide 11 Try.f11 rfl rfl rfl rfl rfl rfl rfl ⟨rfl, rfl, rfl, rfl, rfl⟩ rfl rfl rfl rfl rfl (by kernel_rfl) Try.func11 (by kernel_rfl)
    (of_decide_eq_true (by kernel_rfl)) (by unfold Func.isWrapper; first | (rw [if_pos (by decide +kernel)]; kernel_rfl) | (rw [if_neg (by decide +kernel)]; exact ⟨rfl, rfl⟩))
    (fun os started H enc _ => lifted_ImmPuts os started H enc)

set_option maxRecDepth 100000 in
theorem lifted_ImmBack (os : Os) (started : os.Started) (H : Type) (enc : TypeId × Value → H) :
    ReturnsInHanded {} Try.checked os 12 .any (Rows.immBackSpec.pre6 enc Try.prog Try.f12 Rows.immBackRow.domain false) (Rows.immBackSpec.post enc Try.prog Try.f12 false true false false) := by
  refine returnsInHanded_of_change (C := Try.checked) own started (by kernel_rfl) Try.func12
    (ChangeSpec.witness6 (enc := enc) (C := Try.checked) false ⟨#[], #[.int .u8 0, .int .u32 0], []⟩ 8 (by kernel_rfl) (by kernel_rfl) (by kernel_rfl) (by kernel_rfl)) ?_
  intro W base args ds gs before hval0 hW hcnd _
  have hval : ∀ (j : Nat) t v, Try.f12.params[j]? = some t → args[j]? = some v → Value.okWide Try.prog W .any base t v := hval0
  have hW' := hW
  obtain ⟨p, q, hA0, hV, rfl, hfz, hnd⟩ := hW
  have hA : DataW.TrodAll enc Try.prog W 0 (fun _ => true) true Try.f12.params.toList args.toList ds p := hA0
  rw [Try.params12] at hA hval
  obtain ⟨v0, vs0, d0, ds0, p0, q0, hargs, rfl, rfl, h0, r0⟩ := trodAll_cons hA
  obtain ⟨v1, vs1, d1, ds1, p1, q1, rfl, rfl, rfl, h1, r1⟩ := trodAll_cons r0
  obtain ⟨rfl, rfl, rfl⟩ := trodAll_nil r1
  obtain rfl : args = #[v0, v1] := by cases args; simp_all
  obtain ⟨rfl, rfl⟩ := trodVars_none hV
  obtain ⟨a0, rfl, rfl, rfl, w0⟩ := open_int Try.underlying5 (hval 0 5 v0 rfl rfl) h0
  obtain ⟨a1, rfl, rfl, rfl, w1⟩ := open_int Try.underlying22 (hval 1 22 v1 rfl rfl) h1
  clear hA0 hval0
  refine (walk_ImmBack a0 a1 w0 w1 W).mono fun e W' ⟨he, bel⟩ => ?_
  subst he
  exact ⟨_, rfl, _, _, _, [], _, [], hW', trodAll_mk1 (shut_bool Try.underlying4 _), (trodAll_cons_mk (shut_int Try.underlying5 w0) (trodAll_cons_mk (shut_int Try.underlying22 w1) trodAll_mk0)), rfl, bel.frame _, fun h => by cases h⟩

theorem holds_ImmBack : Rows.ImmBackSaid :=
  OpenClaim.holds_of_wide 12 Try.f12 rfl rfl rfl rfl rfl rfl rfl ⟨rfl, rfl, rfl, rfl, rfl⟩ rfl rfl rfl rfl rfl (by kernel_rfl) Try.func12 (by kernel_rfl)
    (of_decide_eq_true (by kernel_rfl)) (by unfold Func.isWrapper; first | (rw [if_pos (by decide +kernel)]; kernel_rfl) | (rw [if_neg (by decide +kernel)]; exact ⟨rfl, rfl⟩))
    (fun os started H enc _ => lifted_ImmBack os started H enc)

set_option maxRecDepth 100000 in
theorem lifted_ImmRange (os : Os) (started : os.Started) (H : Type) (enc : TypeId × Value → H) :
    ReturnsInHanded {} Try.checked os 13 .any (Rows.immRangeSpec.pre6 enc Try.prog Try.f13 Rows.immRangeRow.domain false) (Rows.immRangeSpec.post enc Try.prog Try.f13 false true false false) := by
  refine returnsInHanded_of_change (C := Try.checked) own started (by kernel_rfl) Try.func13
    (ChangeSpec.witness6 (enc := enc) (C := Try.checked) false ⟨#[], #[.int .u8 0, .int .i32 0], []⟩ 8 (by kernel_rfl) (by kernel_rfl) (by kernel_rfl) (by kernel_rfl)) ?_
  intro W base args ds gs before hval0 hW hcnd _
  have hval : ∀ (j : Nat) t v, Try.f13.params[j]? = some t → args[j]? = some v → Value.okWide Try.prog W .any base t v := hval0
  have hW' := hW
  obtain ⟨p, q, hA0, hV, rfl, hfz, hnd⟩ := hW
  have hA : DataW.TrodAll enc Try.prog W 0 (fun _ => true) true Try.f13.params.toList args.toList ds p := hA0
  rw [Try.params13] at hA hval
  obtain ⟨v0, vs0, d0, ds0, p0, q0, hargs, rfl, rfl, h0, r0⟩ := trodAll_cons hA
  obtain ⟨v1, vs1, d1, ds1, p1, q1, rfl, rfl, rfl, h1, r1⟩ := trodAll_cons r0
  obtain ⟨rfl, rfl, rfl⟩ := trodAll_nil r1
  obtain rfl : args = #[v0, v1] := by cases args; simp_all
  obtain ⟨rfl, rfl⟩ := trodVars_none hV
  obtain ⟨a0, rfl, rfl, rfl, w0⟩ := open_int Try.underlying5 (hval 0 5 v0 rfl rfl) h0
  obtain ⟨a1, rfl, rfl, rfl, w1⟩ := open_int Try.underlying21 (hval 1 21 v1 rfl rfl) h1
  clear hA0 hval0
  refine (walk_ImmRange a0 a1 w0 w1 W).mono fun e W' ⟨he, bel⟩ => ?_
  subst he
  exact ⟨_, rfl, _, _, _, [], _, [], hW', trodAll_mk1 (shut_bool Try.underlying4 _), (trodAll_cons_mk (shut_int Try.underlying5 w0) (trodAll_cons_mk (shut_int Try.underlying21 w1) trodAll_mk0)), rfl, bel.frame _, fun h => by cases h⟩

theorem holds_ImmRange : Rows.ImmRangeSaid :=
  OpenClaim.holds_of_wide 13 Try.f13 rfl rfl rfl rfl rfl rfl rfl ⟨rfl, rfl, rfl, rfl, rfl⟩ rfl rfl rfl rfl rfl (by kernel_rfl) Try.func13 (by kernel_rfl)
    (of_decide_eq_true (by kernel_rfl)) (by unfold Func.isWrapper; first | (rw [if_pos (by decide +kernel)]; kernel_rfl) | (rw [if_neg (by decide +kernel)]; exact ⟨rfl, rfl⟩))
    (fun os started H enc _ => lifted_ImmRange os started H enc)

end Go.Proofs.Ytiigiobmgajajaa
