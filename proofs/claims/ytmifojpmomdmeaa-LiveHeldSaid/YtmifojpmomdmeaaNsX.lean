/- Package infer: nodeShape of an operator. -/
import Derived.Test.YtmifojpmomdmeaaNS

namespace Go.Proofs.Ytmifojpmomdmeaa
open Go Go.RowKit
set_option linter.unusedVariables false

set_option maxRecDepth 100000 in
set_option maxHeartbeats 8000000 in
theorem ns_main (n : Nd) (C : List CnQ) (cc : Nat) (ca : Option Addr) (sa : Option Addr) (sc : Nat) (l : List Sh) (w : World) (h14 : 1 ≤ n.op ∧ n.op ≤ 14) (hC : CnsIn w ca C cc) (hS : ShsAt w sa l) (hg : ∀ s ∈ l, s.fit = 0) (hl : l.length ≤ 9223372036854775807) :
    Calls Try.prog 37 #[.slice ca C.length cc, .agg n.cells.toArray, .slice sa l.length sc] w fun e w' => e = .returned (.tuple #[.agg #[.int .i64 (nodeE (C.map CnQ.cn) n l).2.x, .int .i64 (nodeE (C.map CnQ.cn) n l).2.y, .int .i64 (nodeE (C.map CnQ.cn) n l).2.z], .int .i64 (nodeE (C.map CnQ.cn) n l).1]) ∧ Below w.heap.size w w' := by
  obtain ⟨ND, hND⟩ : ∃ d, d = nodeE (C.map CnQ.cn) n l := ⟨_, rfl⟩
  rw [← hND]
  have HND := Lib.hid hND
  clear hND
  obtain ⟨T, Z, Z0, K, NL⟩ := node_letter n
  obtain ⟨M, hMd⟩ : ∃ M : List Value, M = [.int .i64 n.op, .int .i64 n.a, .int .i64 n.b, .int .i64 n.k0, .int .i64 n.k1, .int .i64 n.s0, .int .i64 n.s1, .int .i64 n.p0, .int .i64 n.p1, .int .i64 n.p2, .int .i64 n.p3, .int .i64 n.za, .int .i64 n.zb, .int .i64 n.zo, .int .i32 n.m1, .int .i32 n.m2, .int .i64 n.t1, .int .i64 n.t2, .int .i64 n.lo, .int .i64 n.hi, .int .i64 n.w, .int .i64 n.bias, .int .i64 n.chans, .int .i64 n.h0, .int .i64 n.h1, .int .i64 n.h2, .int .i64 (hasV n.op), .slice ca C.length cc, .int .i64 0, .int .i64 0, .int .i64 0, .int .i64 0, .int .i64 0, .int .i64 0, .int .i64 0, .int .i64 0, .int .i64 0, .int .i64 0, .int .i64 0] := ⟨_, rfl⟩
  obtain ⟨T2, Z2, Zs, JL⟩ := judge_letter M (by rw [hMd]; rfl) (by rw [hMd]; intro v hv; simp at hv; rcases hv with rfl | rfl | rfl | rfl | rfl | rfl | rfl | rfl | rfl | rfl | rfl | rfl | rfl | rfl | rfl | rfl | rfl | rfl | rfl | rfl | rfl | rfl | rfl | rfl | rfl | rfl | rfl | rfl | rfl | rfl | rfl | rfl | rfl | rfl | rfl | rfl | rfl | rfl | rfl <;> rfl)
  have hL := NL.load
  have hAl2 := JL.alloc
  have hSt2 := JL.store
  have tA := NL.agg
  have tS := NL.size
  have tK := NL.len
  have tA2 := JL.agg
  have tS2 := JL.size
  have tZ2 := JL.zero
  have tM := JL.len
  have k_0 : K[0]? = some (.int .i64 n.op) := by rw [NL.cells]; rfl
  have o1 : decide (n.op < 1) = false := by simp; omega
  have o2 : decide (14 < n.op) = false := by simp; omega
  rw [← NL.cells]
  have R0 := RowAt.new w K 47
  have R1 := RowAt.new (w.alloc (.cells K.toArray 47)) [.int .i64 0, .int .i64 0, .int .i64 0] 22
  have R2 := R0.over (Below.alloc (Below.refl _ _) (Nat.le_refl _) (.cells #[.int .i64 0, .int .i64 0, .int .i64 0] 22))
  have B0 : Below w.heap.size w ((w.alloc (.cells K.toArray 47)).alloc (.cells #[.int .i64 0, .int .i64 0, .int .i64 0] 22)) := by go_grown
  rw [show (w.alloc (.cells K.toArray 47)).heap.size = w.heap.size + 1 by simp] at R1
  have RN := Lib.hid R2
  have RR := Lib.hid R1
  have BW := Lib.hid B0
  have HC := Lib.hid hC
  have HS := Lib.hid hS
  have HG := Lib.hid hg
  clear R0 R1 R2 B0 hC hS hg
  go_enter Try.func37, Try.ntmps37
  simp only [hL, hAl2, hSt2]
  clear hL hAl2 hSt2
  go_wp2_with fail
  have hs1 : ((w.alloc (.cells K.toArray 47)).alloc (.cells #[.int .i64 0, .int .i64 0, .int .i64 0] 22)).heap.size = w.heap.size + 1 + 1 := by simp
  generalize (w.alloc (.cells K.toArray 47)).alloc (.cells #[.int .i64 0, .int .i64 0, .int .i64 0] 22) = W1 at *
  have HN := Lib.hid hs1
  have rn := RN.out
  have c_0 := rn.cell 0 _ k_0
  have tR := NL.read W1 w.heap.size rn.range
  have nlt := rn.lt
  have hKx : K.toArray = #[.int .i64 n.op, .int .i64 n.a, .int .i64 n.b, .int .i64 n.k0, .int .i64 n.k1, .int .i64 n.s0, .int .i64 n.s1, .int .i64 n.p0, .int .i64 n.p1, .int .i64 n.p2, .int .i64 n.p3, .int .i64 n.za, .int .i64 n.zb, .int .i64 n.zo, .int .i32 n.m1, .int .i32 n.m2, .int .i64 n.t1, .int .i64 n.t2, .int .i64 n.lo, .int .i64 n.hi, .int .i64 n.w, .int .i64 n.bias, .int .i64 n.chans, .int .i64 n.h0, .int .i64 n.h1, .int .i64 n.h2] := by rw [NL.cells]; rfl
  have hM : (#[.int .i64 n.op, .int .i64 n.a, .int .i64 n.b, .int .i64 n.k0, .int .i64 n.k1, .int .i64 n.s0, .int .i64 n.s1, .int .i64 n.p0, .int .i64 n.p1, .int .i64 n.p2, .int .i64 n.p3, .int .i64 n.za, .int .i64 n.zb, .int .i64 n.zo, .int .i32 n.m1, .int .i32 n.m2, .int .i64 n.t1, .int .i64 n.t2, .int .i64 n.lo, .int .i64 n.hi, .int .i64 n.w, .int .i64 n.bias, .int .i64 n.chans, .int .i64 n.h0, .int .i64 n.h1, .int .i64 n.h2, .int .i64 (hasV n.op), .slice ca C.length cc, .int .i64 0, .int .i64 0, .int .i64 0, .int .i64 0, .int .i64 0, .int .i64 0, .int .i64 0, .int .i64 0, .int .i64 0, .int .i64 0, .int .i64 0] : Array Value) = M.toArray := by rw [hMd]
  have tB : (storeCells ⟨W1.heap.size, 0, none⟩ M 0).run Try.prog (W1.alloc (.cells Zs.toArray T2)).drew = .ok () (W1.alloc (.cells M.toArray T2)).drew := JL.st1 W1.drew
  rw [hs1] at tB
  have HA := Lib.hid (fun W => has_any n.op h14 W)
  obtain ⟨hv, hhv⟩ : ∃ h, h = hasV n.op := ⟨_, rfl⟩
  dsimp only at hM
  rw [← hhv] at HA hM
  have HMd := Lib.hid hMd
  clear hMd
  have HHV := Lib.hid hhv
  clear hhv
  have PS := Lib.hid (show ∀ w', Below W1.heap.size W1 w' → (fun w' => (loadCellsFrom ⟨w.heap.size, 0, none⟩ 0 Z #[]).run Try.prog w' = .ok #[.int .i64 n.op, .int .i64 n.a, .int .i64 n.b, .int .i64 n.k0, .int .i64 n.k1, .int .i64 n.s0, .int .i64 n.s1, .int .i64 n.p0, .int .i64 n.p1, .int .i64 n.p2, .int .i64 n.p3, .int .i64 n.za, .int .i64 n.zb, .int .i64 n.zo, .int .i32 n.m1, .int .i32 n.m2, .int .i64 n.t1, .int .i64 n.t2, .int .i64 n.lo, .int .i64 n.hi, .int .i64 n.w, .int .i64 n.bias, .int .i64 n.chans, .int .i64 n.h0, .int .i64 n.h1, .int .i64 n.h2] w' ∧ w'.cell? ⟨w.heap.size, 0, none⟩ = some (.int .i64 n.op) ∧ Below W1.heap.size W1 w') w' from fun w' hb => ⟨by rw [← hKx]; exact NL.read w' w.heap.size (fun i v hv => (hb.cell (p := ⟨w.heap.size, 0 + i, none⟩) nlt).trans (rn.range i v hv)), (hb.cell (p := ⟨w.heap.size, 0, none⟩) nlt).trans c_0, hb⟩)
  clear rn hKx tR
  go_cut [8] (fun s8 wx => s8 = .pointer (some ⟨w.heap.size + 1 + 1, 0, none⟩) ∧ wx = (W1.alloc (.cells M.toArray T2)).drew)
  case first =>
    go_region_held3 (fun w' => (loadCellsFrom ⟨w.heap.size, 0, none⟩ 0 Z #[]).run Try.prog w' = .ok #[.int .i64 n.op, .int .i64 n.a, .int .i64 n.b, .int .i64 n.k0, .int .i64 n.k1, .int .i64 n.s0, .int .i64 n.s1, .int .i64 n.p0, .int .i64 n.p1, .int .i64 n.p2, .int .i64 n.p3, .int .i64 n.za, .int .i64 n.zb, .int .i64 n.zo, .int .i32 n.m1, .int .i32 n.m2, .int .i64 n.t1, .int .i64 n.t2, .int .i64 n.lo, .int .i64 n.hi, .int .i64 n.w, .int .i64 n.bias, .int .i64 n.chans, .int .i64 n.h0, .int .i64 n.h1, .int .i64 n.h2] w' ∧ w'.cell? ⟨w.heap.size, 0, none⟩ = some (.int .i64 n.op) ∧ Below W1.heap.size W1 w')
      (first | (with_reducible assumption) | (refine PS.out _ ?_; first | (with_reducible exact Below.refl _ _) | (with_reducible exact (Below.refl _ _).drew) | go_grown))
      (first | (go_at_call 53; (with_reducible refine (HA.out _).mono ?_); rintro e w2 ⟨rfl, rfl⟩))
    all_goals (go_wp2_with fail; go_meet; exact ⟨rfl, rfl⟩)
  case rest =>
    obtain ⟨rfl, rfl⟩ := hcut
    have RN2 := Lib.hid ((RN.out.over (Below.alloc (Below.refl _ _) (Nat.le_refl _) (.cells M.toArray T2))).drew)
    have RR2 := Lib.hid ((RR.out.over (Below.alloc (Below.refl _ _) (Nat.le_refl _) (.cells M.toArray T2))).drew)
    have JJ : RowAt (W1.alloc (.cells M.toArray T2)).drew (w.heap.size + 1 + 1) M := by rw [← hs1]; exact (RowAt.new W1 M T2).drew
    have JJ2 : JAt (W1.alloc (.cells M.toArray T2)).drew (w.heap.size + 1 + 1) (jst n (hasV n.op) (.slice ca C.length cc) l (insN n) 0) := by have h := HMd.out; subst h; exact JJ
    have BW2 := Lib.hid (BW.out.trans ((Below.alloc (Below.refl W1.heap.size W1) (Nat.le_refl _) (.cells M.toArray T2)).drew.mono (by omega)))
    have HJ0 := Lib.hid JJ2
    have jlt : w.heap.size + 1 + 1 < (W1.alloc (.cells M.toArray T2)).drew.heap.size := JJ.lt
    clear JJ JJ2 hM tB PS RN RR BW hs1 HN nlt c_0
    generalize (W1.alloc (.cells M.toArray T2)).drew = W2 at *
    have rn := RN2.out
    have tR := NL.read W2 w.heap.size rn.range
    obtain ⟨ins, hins⟩ : ∃ i, i = insN n := ⟨_, rfl⟩
    have IN : ∀ W : World, Calls Try.prog 38 #[.agg K.toArray] W fun e w' => ∃ at0, e = .returned (.slice at0 ins.length ins.length) ∧ Below W.heap.size W w' ∧ InsAt W w' at0 ins := fun W => by rw [NL.cells, hins]; exact ins_any n W
    have il2 : ins.length ≤ 2 := by
      rw [hins]
      unfold insN
      repeat' split
      all_goals simp
    rw [← hins] at HJ0
    have IN := Lib.hid IN
    have HINS := Lib.hid hins
    clear rn hins
    go_wp2_with (go_at_call 38; (with_reducible refine (IN.out _).mono ?_); rintro e w3 ⟨at0, rfl, hb3, hi3⟩)
    have HI3 := Lib.hid hi3
    have HB3 := Lib.hid hb3
    have HJ3 := Lib.hid (HJ0.out.over hb3)
    have RN3 := Lib.hid (RN2.out.over hb3)
    have RR3 := Lib.hid (RR2.out.over hb3)
    have BW3 := Lib.hid (below_call BW2.out hb3)
    clear tR RN2 RR2 HJ0 IN hb3 hi3
    go_loopw [32] (fun kk wr => ∃ k : Nat, k ≤ ins.length ∧ kk = .int .i64 k ∧ w3.grownBy wr (some (w.heap.size + 1 + 1)) ∧ JAt wr (w.heap.size + 1 + 1) (jst n (hasV n.op) (.slice ca C.length cc) l ins k) ∧ ∀ i z, i < k → ins[i]? = some z → 0 ≤ z ∧ z < l.length) (fun kk _ => ins.length - (intOf kk).toNat)
    case atStart => exact ⟨0, Nat.zero_le _, rfl, World.grownBy.refl _ _, HJ3.out, fun i z h => by omega⟩
    case round =>
      obtain ⟨k, hk, rfl, hgr, hj, hin⟩ := hrel
      have HGR := Lib.hid hgr
      have HJR := Lib.hid hj
      have HIN := Lib.hid hin
      have wsz := hgr.size
      have hB3s := HB3.out.size
      have rr := RR3.out.far hgr (by simp)
      have RRw := Lib.hid rr
      have r0 := rr.cell 0 _ rfl
      have r1 := rr.cell 1 _ rfl
      have r2 := rr.cell 2 _ rfl
      have rf0 := rr.fr 0
      have rf1 := rr.fr 1
      have rf2 := rr.fr 2
      have BWr := Lib.hid (BW3.out.grown hgr BW3.out.size (fun x hx => by obtain rfl := Option.some.inj hx; omega))
      clear hgr hj hin rr
      by_cases hkl : k < ins.length
      · obtain ⟨v, hv⟩ : ∃ v, ins[k]? = some v := ⟨_, List.getElem?_eq_getElem hkl⟩
        obtain ⟨g, hat, hg1, hg2, hgc⟩ := HI3.out k v hv
        subst hat
        have hgne : g ≠ w.heap.size + 1 + 1 := by omega
        have gc := HGR.out.cell hgc (by simpa using hgne)
        have HV := Lib.hid hv
        have kl0 : (0 : Int) ≤ (k : Int) := by omega
        have kl1 : (k : Int) < (ins.length : Int) := by omega
        clear hv hgc
        by_cases hvr : 0 ≤ v ∧ v < (l.length : Int)
        · obtain ⟨v0, v1⟩ := hvr
          obtain ⟨vn, rfl⟩ : ∃ vn : Nat, v = (vn : Int) := ⟨v.toNat, by omega⟩
          have vl : vn < l.length := by omega
          obtain ⟨s, hs⟩ : ∃ s, l[vn]? = some s := ⟨_, List.getElem?_eq_getElem vl⟩
          obtain ⟨sb, soff, hsa, hsl, s0, s1, s2⟩ := HS.out vn s hs
          have t0 := (BWr.out.cell (p := ⟨sb, _, none⟩) hsl).trans s0
          have t1 := (BWr.out.cell (p := ⟨sb, _, none⟩) hsl).trans s1
          have t2 := (BWr.out.cell (p := ⟨sb, _, none⟩) hsl).trans s2
          have HSs := Lib.hid hs
          have hk01 : k = 0 ∨ k = 1 := by omega
          subst hsa
          rcases hk01 with rfl | rfl
          · have hj := HJR.out
            obtain ⟨x0, d0⟩ : ∃ x, wr.cell? ⟨w.heap.size + 1 + 1, 28, none⟩ = some x := ⟨_, hj.cell 28 _ rfl⟩
            obtain ⟨x1, d1⟩ : ∃ x, wr.cell? ⟨w.heap.size + 1 + 1, 29, none⟩ = some x := ⟨_, hj.cell 29 _ rfl⟩
            obtain ⟨x2, d2⟩ : ∃ x, wr.cell? ⟨w.heap.size + 1 + 1, 30, none⟩ = some x := ⟨_, hj.cell 30 _ rfl⟩
            have f0 := RowAt.fr hj 28
            have f1 := RowAt.fr hj 29
            have f2 := RowAt.fr hj 30
            have jl := RowAt.lt hj
            have HV0 := Lib.hid v0
            clear hs s0 s1 s2 hj hk kl0
            go_wp2_with fail
            refine ⟨⟨1, by omega, rfl, grownN_set (grownN_set (grownN_set HGR.out)), jst_next0 HJR.out HV.out HSs.out, ?_⟩, ?_⟩
            rotate_left
            · simp [intOf]; omega
            intro i z hi hz
            rcases Nat.lt_or_ge i 0 with hik | hik
            · exact HIN.out i z hik hz
            · obtain rfl : i = 0 := by omega
              rw [HV.out] at hz
              obtain rfl := Option.some.inj hz
              exact ⟨HV0.out, v1⟩
          · have hj := HJR.out
            obtain ⟨x0, d0⟩ : ∃ x, wr.cell? ⟨w.heap.size + 1 + 1, 31, none⟩ = some x := ⟨_, hj.cell 31 _ rfl⟩
            obtain ⟨x1, d1⟩ : ∃ x, wr.cell? ⟨w.heap.size + 1 + 1, 32, none⟩ = some x := ⟨_, hj.cell 32 _ rfl⟩
            obtain ⟨x2, d2⟩ : ∃ x, wr.cell? ⟨w.heap.size + 1 + 1, 33, none⟩ = some x := ⟨_, hj.cell 33 _ rfl⟩
            have f0 := RowAt.fr hj 31
            have f1 := RowAt.fr hj 32
            have f2 := RowAt.fr hj 33
            have jl := RowAt.lt hj
            have HV0 := Lib.hid v0
            clear hs s0 s1 s2 hj hk kl0
            go_wp2_with fail
            refine ⟨⟨2, by omega, rfl, grownN_set (grownN_set (grownN_set HGR.out)), jst_next1 HJR.out HV.out HSs.out, ?_⟩, ?_⟩
            rotate_left
            · simp [intOf]; omega
            intro i z hi hz
            rcases Nat.lt_or_ge i 1 with hik | hik
            · exact HIN.out i z hik hz
            · obtain rfl : i = 1 := by omega
              rw [HV.out] at hz
              obtain rfl := Option.some.inj hz
              exact ⟨HV0.out, v1⟩
        · have bad : insOk n l.length = false := by
            have h1 := HV.out
            rw [HINS.out] at h1
            unfold insOk
            rw [List.all_eq_false]
            exact ⟨v, List.mem_of_getElem? h1, by simpa using hvr⟩
          have ND4 := Lib.hid (HND.out.trans (nodeE_ins h14 bad))
          clear bad
          by_cases hv0 : v < 0
          · clear hvr
            go_wp2_with fail
            exact bodyPost_ret (results_cell_mid2 rfl _ _ (w.heap.size + 1) _ rfl (load_row (zero3 RRw.out) 22 _ Try.underlying22 rfl (by kernel_rfl))) rfl ⟨by rw [ND4.out]; rfl, Below.setCell (Below.setCell (Below.setCell BWr.out (by show _ ≤ w.heap.size + 1; omega) _) (by show _ ≤ w.heap.size + 1; omega) _) (by show _ ≤ w.heap.size + 1; omega) _⟩
          · have hv1 : (l.length : Int) ≤ v := by omega
            clear hvr
            go_wp2_with fail
            exact bodyPost_ret (results_cell_mid2 rfl _ _ (w.heap.size + 1) _ rfl (load_row (zero3 RRw.out) 22 _ Try.underlying22 rfl (by kernel_rfl))) rfl ⟨by rw [ND4.out]; rfl, Below.setCell (Below.setCell (Below.setCell BWr.out (by show _ ≤ w.heap.size + 1; omega) _) (by show _ ≤ w.heap.size + 1; omega) _) (by show _ ≤ w.heap.size + 1; omega) _⟩
      · obtain rfl : k = ins.length := by omega
        have ok : insOk n l.length = true := by
          unfold insOk
          rw [← HINS.out, List.all_eq_true]
          intro z hz
          obtain ⟨i, hi⟩ := List.getElem?_of_mem hz
          have := HIN.out i z (List.getElem?_eq_some_iff.1 hi).1 hi
          simpa using this
        have OK := Lib.hid ok
        have RNw := Lib.hid (RN3.out.far HGR.out (by simp; omega))
        have rn := RNw.out
        have wlt := rn.lt
        obtain ⟨KB, hKB⟩ : ∃ b, b = (bareN n).cells := ⟨_, rfl⟩
        have BA := Lib.hid (show ∀ W : World, Calls Try.prog 54 #[.agg K.toArray] W fun e w' => e = .returned (.agg KB.toArray) ∧ Below W.heap.size W w' from fun W => by rw [hKB, NL.cells]; exact bare_any n h14 W)
        obtain ⟨B, hBd⟩ : ∃ b : Bool, b = decide (bareN n = n) := ⟨_, rfl⟩
        have EQ : ∀ w : World, (Op.equalIn 10000 47 (.agg KB.toArray) (.agg K.toArray)).run Try.prog w = .ok B w := fun w => by
          obtain ⟨r, hr, hq⟩ := nd_eq (bareN n) n w
          rw [hKB, NL.cells, hr, hBd]
          congr 1
          cases r
          · symm; rw [decide_eq_false_iff_not]; intro h; exact absurd (hq.2 h) (by simp)
          · symm; rw [decide_eq_true_iff]; exact hq.1 rfl
        have HBd := Lib.hid hBd
        have PT := Lib.hid (show ∀ w', Below wr.heap.size wr w' → (loadCellsFrom ⟨w.heap.size, 0, none⟩ 0 Z #[]).run Try.prog w' = .ok K.toArray w' ∧ Below wr.heap.size wr w' from fun w' hb => ⟨NL.read w' w.heap.size (fun i v hv => (hb.cell (p := ⟨w.heap.size, 0 + i, none⟩) wlt).trans (rn.range i v hv)), hb⟩)
        clear ok hKB hBd rn
        go_wp2_with fail
        go_cut [57] (fun s57 wx => s57 = .bool (!B) ∧ Below wr.heap.size wr wx)
        case first =>
          go_region_held3 (fun w' => (loadCellsFrom ⟨w.heap.size, 0, none⟩ 0 Z #[]).run Try.prog w' = .ok K.toArray w' ∧ Below wr.heap.size wr w')
            (first | (with_reducible assumption) | (refine PT.out _ ?_; first | (with_reducible exact Below.refl _ _) | (with_reducible exact (Below.refl _ _).drew) | (with_reducible exact hB3)))
            (first | (go_at_call 54; (with_reducible refine (BA.out _).mono ?_); rintro e w4 ⟨rfl, hb4⟩; (first | (have hB3 := below_call (Below.refl wr.heap.size wr) hb4) | (have hB3 := below_call (Below.refl wr.heap.size wr).drew hb4))))
          all_goals (go_wp2_with fail; go_meet; exact ⟨rfl, hB3⟩)
        case rest =>
          obtain ⟨rfl, hB4⟩ := hcut
          obtain ⟨A, hA⟩ : ∃ a : Sh, a = if 1 ≤ ins.length then l.getD (ins.getD 0 0).toNat default else ⟨0, 0, 0⟩ := ⟨_, rfl⟩
          obtain ⟨Bb, hBb⟩ : ∃ a : Sh, a = if 2 ≤ ins.length then l.getD (ins.getD 1 0).toNat default else ⟨0, 0, 0⟩ := ⟨_, rfl⟩
          have hj4 : JAt wc (w.heap.size + 1 + 1) ⟨n, hasV n.op, .slice ca C.length cc, A, Bb, ⟨0, 0, 0⟩, 0, 0⟩ := by rw [hA, hBb]; exact HJR.out.over hB4
          have rr4 := RRw.out.over hB4
          have RR4 := Lib.hid rr4
          have r40 := rr4.cell 0 _ rfl
          have r41 := rr4.cell 1 _ rfl
          have r42 := rr4.cell 2 _ rfl
          have g40 := rr4.fr 0
          have g41 := rr4.fr 1
          have g42 := rr4.fr 2
          have wc1 := rr4.lt
          have BW4 := Lib.hid (below_call BWr.out hB4)
          have HC4 := Lib.hid (HC.out.later BW4.out)
          have HJ4 := Lib.hid hj4
          have j4lt : w.heap.size + 1 + 1 < wc.heap.size := RowAt.lt hj4
          have HAA := Lib.hid hA
          have HBB := Lib.hid hBb
          clear hA hBb hj4 rr4 hB4 r0 r1 r2 rf0 rf1 rf2 EQ PT
          cases B
          · have nid : idleN n = false := by
              have h1 := HBd.out
              have h2 : ¬ bareN n = n := of_decide_eq_false h1.symm
              cases e : idleN n
              · rfl
              · exact absurd ((bare_same h14).2 e) h2
            have ND4 := Lib.hid (HND.out.trans (nodeE_idle h14 OK.out nid))
            clear nid
            go_wp2_with fail
            exact bodyPost_ret (results_cell_mid2 rfl _ _ (w.heap.size + 1) _ rfl (load_row (zero3 RR4.out) 22 _ Try.underlying22 rfl (by kernel_rfl))) rfl ⟨by rw [ND4.out]; rfl, Below.setCell (Below.setCell (Below.setCell BW4.out (by show _ ≤ w.heap.size + 1; omega) _) (by show _ ≤ w.heap.size + 1; omega) _) (by show _ ≤ w.heap.size + 1; omega) _⟩
          · have nid : idleN n = true := (bare_same h14).1 (of_decide_eq_true HBd.out.symm)
            have lg : ∀ v : Int, 0 ≤ v ∧ v < l.length → (l.getD v.toNat default).good = true := by
              intro v hv
              have hk : v.toNat < l.length := by omega
              rw [List.getD_eq_getElem?_getD, List.getElem?_eq_getElem hk]
              exact Sh.fit_good (HG.out _ (List.getElem_mem hk))
            have hA1 : hA n.op = true → A = l.getD n.a.toNat default ∧ A.good = true := by
              intro h
              have h1 : ¬ n.op = 1 := by simpa [_root_.Go.Proofs.Ytmifojpmomdmeaa.hA] using h
              have i0 : ins[0]? = some n.a := by rw [HINS.out]; unfold insN; rw [if_neg h1]; split <;> rfl
              have hl0 : 1 ≤ ins.length := by have := (List.getElem?_eq_some_iff.1 i0).1; omega
              have e : A = l.getD n.a.toNat default := by rw [HAA.out, if_pos hl0, show ins.getD 0 0 = n.a by rw [List.getD_eq_getElem?_getD, i0]; rfl]
              exact ⟨e, by rw [e]; exact lg _ (HIN.out 0 _ (by omega) i0)⟩
            have hB1 : hB n.op = true → Bb = l.getD n.b.toNat default ∧ Bb.good = true := by
              intro h
              have h1 : ¬ n.op = 1 := by intro g; rw [g] at h; cases h
              have i0 : ins[1]? = some n.b := by rw [HINS.out]; unfold insN; rw [if_neg h1, if_pos h]; rfl
              have hl0 : 2 ≤ ins.length := by have := (List.getElem?_eq_some_iff.1 i0).1; omega
              have e : Bb = l.getD n.b.toNat default := by rw [HBB.out, if_pos hl0, show ins.getD 1 0 = n.b by rw [List.getD_eq_getElem?_getD, i0]; rfl]
              exact ⟨e, by rw [e]; exact lg _ (HIN.out 1 _ (by omega) i0)⟩
            have NP := Lib.hid (HND.out.trans (node_pr C n l A Bb h14 OK.out nid hA1 hB1))
            have GA := Lib.hid (fun h => (hA1 h).2)
            have GB := Lib.hid (fun h => (hB1 h).2)
            clear nid lg hA1 hB1 HIN HGR HJR
            clear hB3s wsz hkl hk
            go_wp2_with fail
            have RF0 := Lib.hid (RowAt.new wc [.func (.func 55) #[.pointer (some ⟨w.heap.size + 1 + 1, 0, none⟩)] #[], .func (.func 56) #[.pointer (some ⟨w.heap.size + 1 + 1, 0, none⟩)] #[], .func (.func 57) #[.pointer (some ⟨w.heap.size + 1 + 1, 0, none⟩)] #[], .func (.func 58) #[.pointer (some ⟨w.heap.size + 1 + 1, 0, none⟩)] #[], .func (.func 59) #[.pointer (some ⟨w.heap.size + 1 + 1, 0, none⟩)] #[], .func (.func 60) #[.pointer (some ⟨w.heap.size + 1 + 1, 0, none⟩)] #[], .func (.func 61) #[.pointer (some ⟨w.heap.size + 1 + 1, 0, none⟩)] #[], .func (.func 62) #[.pointer (some ⟨w.heap.size + 1 + 1, 0, none⟩)] #[]] 101)
            have BL : Below wc.heap.size wc (wc.alloc (.cells #[.func (.func 55) #[.pointer (some ⟨w.heap.size + 1 + 1, 0, none⟩)] #[], .func (.func 56) #[.pointer (some ⟨w.heap.size + 1 + 1, 0, none⟩)] #[], .func (.func 57) #[.pointer (some ⟨w.heap.size + 1 + 1, 0, none⟩)] #[], .func (.func 58) #[.pointer (some ⟨w.heap.size + 1 + 1, 0, none⟩)] #[], .func (.func 59) #[.pointer (some ⟨w.heap.size + 1 + 1, 0, none⟩)] #[], .func (.func 60) #[.pointer (some ⟨w.heap.size + 1 + 1, 0, none⟩)] #[], .func (.func 61) #[.pointer (some ⟨w.heap.size + 1 + 1, 0, none⟩)] #[], .func (.func 62) #[.pointer (some ⟨w.heap.size + 1 + 1, 0, none⟩)] #[]] 101)) := Below.alloc (Below.refl _ _) (Nat.le_refl _) _
            have RR0 := Lib.hid (RR4.out.over BL)
            have BW0 := Lib.hid (below_call BW4.out BL)
            have HC0 := Lib.hid (HC4.out.later BL)
            have HJ0 := Lib.hid (HJ4.out.over BL)
            have JOK : JOk ⟨n, hasV n.op, .slice ca C.length cc, A, Bb, ⟨0, 0, 0⟩, 0, 0⟩ := ⟨h14, rfl⟩
            have JK := Lib.hid JOK
            have flt : wc.heap.size < (wc.alloc (.cells #[.func (.func 55) #[.pointer (some ⟨w.heap.size + 1 + 1, 0, none⟩)] #[], .func (.func 56) #[.pointer (some ⟨w.heap.size + 1 + 1, 0, none⟩)] #[], .func (.func 57) #[.pointer (some ⟨w.heap.size + 1 + 1, 0, none⟩)] #[], .func (.func 58) #[.pointer (some ⟨w.heap.size + 1 + 1, 0, none⟩)] #[], .func (.func 59) #[.pointer (some ⟨w.heap.size + 1 + 1, 0, none⟩)] #[], .func (.func 60) #[.pointer (some ⟨w.heap.size + 1 + 1, 0, none⟩)] #[], .func (.func 61) #[.pointer (some ⟨w.heap.size + 1 + 1, 0, none⟩)] #[], .func (.func 62) #[.pointer (some ⟨w.heap.size + 1 + 1, 0, none⟩)] #[]] 101)).heap.size := lt_alloc _ _
            generalize wc.alloc (.cells #[.func (.func 55) #[.pointer (some ⟨w.heap.size + 1 + 1, 0, none⟩)] #[], .func (.func 56) #[.pointer (some ⟨w.heap.size + 1 + 1, 0, none⟩)] #[], .func (.func 57) #[.pointer (some ⟨w.heap.size + 1 + 1, 0, none⟩)] #[], .func (.func 58) #[.pointer (some ⟨w.heap.size + 1 + 1, 0, none⟩)] #[], .func (.func 59) #[.pointer (some ⟨w.heap.size + 1 + 1, 0, none⟩)] #[], .func (.func 60) #[.pointer (some ⟨w.heap.size + 1 + 1, 0, none⟩)] #[], .func (.func 61) #[.pointer (some ⟨w.heap.size + 1 + 1, 0, none⟩)] #[], .func (.func 62) #[.pointer (some ⟨w.heap.size + 1 + 1, 0, none⟩)] #[]] 101) = v0 at *
            clear BL RR4 BW4 HC4 HJ4 r40 r41 r42 g40 g41 g42 JOK
            have NE1 := Lib.hid (show some (w.heap.size + 1) ≠ some (w.heap.size + 1 + 1) by simp)
            have NE2 := Lib.hid (show some wc.heap.size ≠ some (w.heap.size + 1 + 1) by simp; omega)
            have NE3 := Lib.hid (show ∀ k, some (w.heap.size + 1 + 1) = some k → w.heap.size ≤ k from fun x hx => by obtain rfl := Option.some.inj hx; omega)
            try clear HND
            try clear NL
            try clear JL
            try clear tA
            try clear tS
            try clear tK
            try clear tA2
            try clear tS2
            try clear tZ2
            try clear tM
            try clear k_0
            try clear o1
            try clear o2
            try clear HS
            try clear HG
            try clear HMd
            try clear HHV
            try clear BW2
            try clear jlt
            try clear IN
            try clear il2
            try clear HINS
            try clear HI3
            try clear HB3
            try clear HJ3
            try clear RN3
            try clear RR3
            try clear BW3
            try clear RRw
            try clear BWr
            try clear OK
            try clear RNw
            try clear wlt
            try clear BA
            try clear HAA
            try clear HBB
            try clear HBd
            try clear HA
            try clear hl
            try clear JK
            try clear HC0
            try clear flt
            try clear hk
            try clear hkl
            try clear wsz
            try clear hB3s
            refine wp_loop_rounds 9 ?_
            refine rounds_with (fun HQF => ?_)
            have HQG : RowKit.Hid (∀ a w1, bodyPost Try.prog Try.f37 (fun e w' => e = .returned (.tuple #[.agg #[.int .i64 ND.2.x, .int .i64 ND.2.y, .int .i64 ND.2.z], .int .i64 ND.1]) ∧ Below w.heap.size w w') .ret a w1 → (_ : Exit → Act → World → Prop) .ret a w1) := Lib.hid (fun a w1 h => HQF a w1 h)
            clear HQF
            clear_value *
            have M0 := Lib.hid (m1 HJ0.out (show JOk ⟨n, hasV n.op, .slice ca C.length cc, A, Bb, ⟨0, 0, 0⟩, 0, 0⟩ from ⟨h14, rfl⟩))
            have fc := RF0.out.cell 0 _ rfl
            refine rounds_step (fun RR_0 hRR_0 => ?_)
            go_wp2_with (go_at_call 55; (with_reducible refine M0.out.mono ?_); rintro e v1 ⟨c0, jn, rfl, hg, hjn, hrel⟩; have HG1 := Lib.hid hg; have HJn := Lib.hid hjn; have HRL := Lib.hid hrel; clear hg hjn hrel fc; obtain ⟨hc, R0, R1, hjj, hR⟩ := HRL.out; subst hjj; have HR := Lib.hid hR; clear hR; have HJ1 : RowKit.Hid (JAt v1 (w.heap.size + 1 + 1) ⟨n, hasV n.op, .slice ca C.length cc, A, Bb, ⟨0, 0, 0⟩, R0, R1⟩) := HJn; have rr := RR0.out.far HG1.out NE1.out; have RR1 := Lib.hid rr; have RF1 := Lib.hid (RF0.out.far HG1.out NE2.out); have BW1 := Lib.hid (BW0.out.grown HG1.out BW0.out.size NE3.out); have HK0 := Lib.hid hc; have q0 := rr.cell 0 _ rfl; have p0 := rr.fr 0; have q1 := rr.cell 1 _ rfl; have p1 := rr.fr 1; have q2 := rr.cell 2 _ rfl; have p2 := rr.fr 2; have rlt := rr.lt; clear hc HRL HJn M0 RR0 RF0 HG1 rr)
            all_goals (first
              | (have hc0 : c0 ≠ 0 := (by have h := ‹(c0 != 0) = true›; simpa using h); have NQ : ND = (c0, default) := (by rw [NP.out, pr_eq]; unfold prL; rw [if_pos (by rw [← HK0.out]; exact hc0), ← HK0.out]); exact HQG.out _ _ (bodyPost_ret (results_cell_mid2 rfl _ _ (w.heap.size + 1) _ rfl (load_row (zero3 RR1.out) 22 _ Try.underlying22 rfl (by kernel_rfl))) rfl ⟨by rw [NQ]; rfl, Below.setCell (Below.setCell (Below.setCell BW1.out (by show _ ≤ w.heap.size + 1; omega) _) (by show _ ≤ w.heap.size + 1; omega) _) (by show _ ≤ w.heap.size + 1; omega) _⟩))
              | skip)
            refine hRR_0.out _ _ ?_
            clear hRR_0
            have hc1 : c0 = 0 := by have h := ‹(c0 != 0) = false›; simpa using h
            subst hc1
            clear q0 q1 q2 p0 p1 p2 rlt
            have Z0 : RowKit.Hid (e1 n A = 0) := Lib.hid HK0.out.symm
            clear HK0
            have HR2 := Lib.hid (fun g => HR.out g rfl)
            have M1 := Lib.hid (m2 HJ1.out (show JOk ⟨n, hasV n.op, .slice ca C.length cc, A, Bb, ⟨0, 0, 0⟩, R0, R1⟩ from ⟨h14, rfl⟩))
            have fc := RF1.out.cell 1 _ rfl
            refine rounds_step (fun RR_1 hRR_1 => ?_)
            go_wp2_with (go_at_call 56; (with_reducible refine M1.out.mono ?_); rintro e v2 ⟨c1, jn, rfl, hg, hjn, hrel⟩; have HG2 := Lib.hid hg; have HJn := Lib.hid hjn; have HRL := Lib.hid hrel; clear hg hjn hrel fc; obtain ⟨hc, hjj⟩ := HRL.out; subst hjj; have HJ2 : RowKit.Hid (JAt v2 (w.heap.size + 1 + 1) ⟨n, hasV n.op, .slice ca C.length cc, A, Bb, ⟨0, 0, 0⟩, R0, R1⟩) := HJn; have rr := RR1.out.far HG2.out NE1.out; have RR2 := Lib.hid rr; have RF2 := Lib.hid (RF1.out.far HG2.out NE2.out); have BW2 := Lib.hid (BW1.out.grown HG2.out BW1.out.size NE3.out); have HK1 := Lib.hid hc; have q0 := rr.cell 0 _ rfl; have p0 := rr.fr 0; have q1 := rr.cell 1 _ rfl; have p1 := rr.fr 1; have q2 := rr.cell 2 _ rfl; have p2 := rr.fr 2; have rlt := rr.lt; clear hc HRL HJn M1 RR1 RF1 HG2 rr)
            all_goals (first
              | (have hc0 : c1 ≠ 0 := (by have h := ‹(c1 != 0) = true›; simpa using h); have NQ : ND = (c1, default) := (by rw [NP.out, pr_eq]; unfold prL; rw [if_neg (by rw [Z0.out]; decide), if_pos (by rw [← HK1.out]; exact hc0), ← HK1.out]); exact HQG.out _ _ (bodyPost_ret (results_cell_mid2 rfl _ _ (w.heap.size + 1) _ rfl (load_row (zero3 RR2.out) 22 _ Try.underlying22 rfl (by kernel_rfl))) rfl ⟨by rw [NQ]; rfl, Below.setCell (Below.setCell (Below.setCell BW2.out (by show _ ≤ w.heap.size + 1; omega) _) (by show _ ≤ w.heap.size + 1; omega) _) (by show _ ≤ w.heap.size + 1; omega) _⟩))
              | skip)
            refine hRR_1.out _ _ ?_
            clear hRR_1
            have hc1 : c1 = 0 := by have h := ‹(c1 != 0) = false›; simpa using h
            subst hc1
            clear q0 q1 q2 p0 p1 p2 rlt
            have Z1 : RowKit.Hid (e2 n = 0) := Lib.hid HK1.out.symm
            clear HK1
            have M2 := Lib.hid (m3 HJ2.out (show JOk ⟨n, hasV n.op, .slice ca C.length cc, A, Bb, ⟨0, 0, 0⟩, R0, R1⟩ from ⟨h14, rfl⟩))
            have fc := RF2.out.cell 2 _ rfl
            refine rounds_step (fun RR_2 hRR_2 => ?_)
            go_wp2_with (go_at_call 57; (with_reducible refine M2.out.mono ?_); rintro e v3 ⟨c2, jn, rfl, hg, hjn, hrel⟩; have HG3 := Lib.hid hg; have HJn := Lib.hid hjn; have HRL := Lib.hid hrel; clear hg hjn hrel fc; obtain ⟨hc, hjj⟩ := HRL.out; subst hjj; have HJ3 : RowKit.Hid (JAt v3 (w.heap.size + 1 + 1) ⟨n, hasV n.op, .slice ca C.length cc, A, Bb, ⟨0, 0, 0⟩, R0, R1⟩) := HJn; have rr := RR2.out.far HG3.out NE1.out; have RR3 := Lib.hid rr; have RF3 := Lib.hid (RF2.out.far HG3.out NE2.out); have BW3 := Lib.hid (BW2.out.grown HG3.out BW2.out.size NE3.out); have HK2 := Lib.hid hc; have q0 := rr.cell 0 _ rfl; have p0 := rr.fr 0; have q1 := rr.cell 1 _ rfl; have p1 := rr.fr 1; have q2 := rr.cell 2 _ rfl; have p2 := rr.fr 2; have rlt := rr.lt; clear hc HRL HJn M2 RR2 RF2 HG3 rr)
            all_goals (first
              | (have hc0 : c2 ≠ 0 := (by have h := ‹(c2 != 0) = true›; simpa using h); have NQ : ND = (c2, default) := (by rw [NP.out, pr_eq]; unfold prL; rw [if_neg (by rw [Z0.out]; decide), if_neg (by rw [Z1.out]; decide), if_pos (by rw [← HK2.out]; exact hc0), ← HK2.out]); exact HQG.out _ _ (bodyPost_ret (results_cell_mid2 rfl _ _ (w.heap.size + 1) _ rfl (load_row (zero3 RR3.out) 22 _ Try.underlying22 rfl (by kernel_rfl))) rfl ⟨by rw [NQ]; rfl, Below.setCell (Below.setCell (Below.setCell BW3.out (by show _ ≤ w.heap.size + 1; omega) _) (by show _ ≤ w.heap.size + 1; omega) _) (by show _ ≤ w.heap.size + 1; omega) _⟩))
              | skip)
            refine hRR_2.out _ _ ?_
            clear hRR_2
            have hc1 : c2 = 0 := by have h := ‹(c2 != 0) = false›; simpa using h
            subst hc1
            clear q0 q1 q2 p0 p1 p2 rlt
            have Z2 : RowKit.Hid (e3 n A = 0) := Lib.hid HK2.out.symm
            clear HK2
            have M3 := Lib.hid (m4 HJ3.out (show JOk ⟨n, hasV n.op, .slice ca C.length cc, A, Bb, ⟨0, 0, 0⟩, R0, R1⟩ from ⟨h14, rfl⟩))
            have fc := RF3.out.cell 3 _ rfl
            refine rounds_step (fun RR_3 hRR_3 => ?_)
            go_wp2_with (go_at_call 58; (with_reducible refine M3.out.mono ?_); rintro e v4 ⟨c3, jn, rfl, hg, hjn, hrel⟩; have HG4 := Lib.hid hg; have HJn := Lib.hid hjn; have HRL := Lib.hid hrel; clear hg hjn hrel fc; obtain ⟨hc, hjj⟩ := HRL.out; subst hjj; have HJ4 : RowKit.Hid (JAt v4 (w.heap.size + 1 + 1) ⟨n, hasV n.op, .slice ca C.length cc, A, Bb, ⟨0, 0, 0⟩, R0, R1⟩) := HJn; have rr := RR3.out.far HG4.out NE1.out; have RR4 := Lib.hid rr; have RF4 := Lib.hid (RF3.out.far HG4.out NE2.out); have BW4 := Lib.hid (BW3.out.grown HG4.out BW3.out.size NE3.out); have HK3 := Lib.hid hc; have q0 := rr.cell 0 _ rfl; have p0 := rr.fr 0; have q1 := rr.cell 1 _ rfl; have p1 := rr.fr 1; have q2 := rr.cell 2 _ rfl; have p2 := rr.fr 2; have rlt := rr.lt; clear hc HRL HJn M3 RR3 RF3 HG4 rr)
            all_goals (first
              | (have hc0 : c3 ≠ 0 := (by have h := ‹(c3 != 0) = true›; simpa using h); have NQ : ND = (c3, default) := (by rw [NP.out, pr_eq]; unfold prL; rw [if_neg (by rw [Z0.out]; decide), if_neg (by rw [Z1.out]; decide), if_neg (by rw [Z2.out]; decide), if_pos (by rw [← HK3.out]; exact hc0), ← HK3.out]); exact HQG.out _ _ (bodyPost_ret (results_cell_mid2 rfl _ _ (w.heap.size + 1) _ rfl (load_row (zero3 RR4.out) 22 _ Try.underlying22 rfl (by kernel_rfl))) rfl ⟨by rw [NQ]; rfl, Below.setCell (Below.setCell (Below.setCell BW4.out (by show _ ≤ w.heap.size + 1; omega) _) (by show _ ≤ w.heap.size + 1; omega) _) (by show _ ≤ w.heap.size + 1; omega) _⟩))
              | skip)
            refine hRR_3.out _ _ ?_
            clear hRR_3
            have hc1 : c3 = 0 := by have h := ‹(c3 != 0) = false›; simpa using h
            subst hc1
            clear q0 q1 q2 p0 p1 p2 rlt
            have Z3 : RowKit.Hid (e4 n A Bb = 0) := Lib.hid HK3.out.symm
            clear HK3
            have M4 := Lib.hid (m5 HJ4.out (show JOk ⟨n, hasV n.op, .slice ca C.length cc, A, Bb, ⟨0, 0, 0⟩, R0, R1⟩ from ⟨h14, rfl⟩) GA.out GB.out)
            have fc := RF4.out.cell 4 _ rfl
            refine rounds_step (fun RR_4 hRR_4 => ?_)
            go_wp2_with (go_at_call 59; (with_reducible refine M4.out.mono ?_); rintro e v5 ⟨c4, jn, rfl, hg, hjn, hrel⟩; have HG5 := Lib.hid hg; have HJn := Lib.hid hjn; have HRL := Lib.hid hrel; clear hg hjn hrel fc; obtain ⟨hc0, O, hjj, hO⟩ := HRL.out; subst hjj; have hc : c4 = mkE n A Bb (rowX n A) (rowY n A) := hc0.trans (mkE_rows HR2.out); have HO1 := Lib.hid hO; clear hO hc0; have HJ5 : RowKit.Hid (JAt v5 (w.heap.size + 1 + 1) ⟨n, hasV n.op, .slice ca C.length cc, A, Bb, O, R0, R1⟩) := HJn; have rr := RR4.out.far HG5.out NE1.out; have RR5 := Lib.hid rr; have RF5 := Lib.hid (RF4.out.far HG5.out NE2.out); have BW5 := Lib.hid (BW4.out.grown HG5.out BW4.out.size NE3.out); have HK4 := Lib.hid hc; have q0 := rr.cell 0 _ rfl; have p0 := rr.fr 0; have q1 := rr.cell 1 _ rfl; have p1 := rr.fr 1; have q2 := rr.cell 2 _ rfl; have p2 := rr.fr 2; have rlt := rr.lt; clear hc HRL HJn M4 RR4 RF4 HG5 rr)
            all_goals (first
              | (have hc0 : c4 ≠ 0 := (by have h := ‹(c4 != 0) = true›; simpa using h); have NQ : ND = (c4, default) := (by rw [NP.out, pr_eq]; unfold prL; rw [if_neg (by rw [Z0.out]; decide), if_neg (by rw [Z1.out]; decide), if_neg (by rw [Z2.out]; decide), if_neg (by rw [Z3.out]; decide), if_pos (by rw [← HK4.out]; exact hc0), ← HK4.out]); exact HQG.out _ _ (bodyPost_ret (results_cell_mid2 rfl _ _ (w.heap.size + 1) _ rfl (load_row (zero3 RR5.out) 22 _ Try.underlying22 rfl (by kernel_rfl))) rfl ⟨by rw [NQ]; rfl, Below.setCell (Below.setCell (Below.setCell BW5.out (by show _ ≤ w.heap.size + 1; omega) _) (by show _ ≤ w.heap.size + 1; omega) _) (by show _ ≤ w.heap.size + 1; omega) _⟩))
              | skip)
            refine hRR_4.out _ _ ?_
            clear hRR_4
            have hc1 : c4 = 0 := by have h := ‹(c4 != 0) = false›; simpa using h
            subst hc1
            clear q0 q1 q2 p0 p1 p2 rlt
            have Z4 : RowKit.Hid (mkE n A Bb (rowX n A) (rowY n A) = 0) := Lib.hid HK4.out.symm
            clear HK4
            have HO := Lib.hid (show O = mkO n A Bb (rowX n A) (rowY n A) from (HO1.out rfl).trans (mkO_rows HR2.out))
            have M5 := Lib.hid (m6 (C := C) (cc := cc) (ca := ca) rfl HJ5.out (HC.out.later BW5.out) (show JOk ⟨n, hasV n.op, .slice ca C.length cc, A, Bb, O, R0, R1⟩ from ⟨h14, rfl⟩) GA.out Z0.out Z1.out)
            have fc := RF5.out.cell 5 _ rfl
            refine rounds_step (fun RR_5 hRR_5 => ?_)
            go_wp2_with (go_at_call 60; (with_reducible refine M5.out.mono ?_); rintro e v6 ⟨c5, jn, rfl, hg, hjn, hrel⟩; have HG6 := Lib.hid hg; have HJn := Lib.hid hjn; have HRL := Lib.hid hrel; clear hg hjn hrel fc; obtain ⟨hc, hjj⟩ := HRL.out; subst hjj; have HJ6 : RowKit.Hid (JAt v6 (w.heap.size + 1 + 1) ⟨n, hasV n.op, .slice ca C.length cc, A, Bb, O, R0, R1⟩) := HJn; have rr := RR5.out.far HG6.out NE1.out; have RR6 := Lib.hid rr; have RF6 := Lib.hid (RF5.out.far HG6.out NE2.out); have BW6 := Lib.hid (BW5.out.grown HG6.out BW5.out.size NE3.out); have HK5 := Lib.hid hc; have q0 := rr.cell 0 _ rfl; have p0 := rr.fr 0; have q1 := rr.cell 1 _ rfl; have p1 := rr.fr 1; have q2 := rr.cell 2 _ rfl; have p2 := rr.fr 2; have rlt := rr.lt; clear hc HRL HJn M5 RR5 RF5 HG6 rr)
            all_goals (first
              | (have hc0 : c5 ≠ 0 := (by have h := ‹(c5 != 0) = true›; simpa using h); have NQ : ND = (c5, default) := (by rw [NP.out, pr_eq]; unfold prL; rw [if_neg (by rw [Z0.out]; decide), if_neg (by rw [Z1.out]; decide), if_neg (by rw [Z2.out]; decide), if_neg (by rw [Z3.out]; decide), if_neg (by rw [Z4.out]; decide), if_pos (by rw [← HK5.out]; exact hc0), ← HK5.out]); exact HQG.out _ _ (bodyPost_ret (results_cell_mid2 rfl _ _ (w.heap.size + 1) _ rfl (load_row (zero3 RR6.out) 22 _ Try.underlying22 rfl (by kernel_rfl))) rfl ⟨by rw [NQ]; rfl, Below.setCell (Below.setCell (Below.setCell BW6.out (by show _ ≤ w.heap.size + 1; omega) _) (by show _ ≤ w.heap.size + 1; omega) _) (by show _ ≤ w.heap.size + 1; omega) _⟩))
              | skip)
            refine hRR_5.out _ _ ?_
            clear hRR_5
            have hc1 : c5 = 0 := by have h := ‹(c5 != 0) = false›; simpa using h
            subst hc1
            clear q0 q1 q2 p0 p1 p2 rlt
            have Z5 : RowKit.Hid (wtE C n A = 0) := Lib.hid HK5.out.symm
            clear HK5
            have M6 := Lib.hid (m7 (C := C) (cc := cc) (ca := ca) rfl HJ6.out (HC.out.later BW6.out) (show JOk ⟨n, hasV n.op, .slice ca C.length cc, A, Bb, O, R0, R1⟩ from ⟨h14, rfl⟩))
            have fc := RF6.out.cell 6 _ rfl
            refine rounds_step (fun RR_6 hRR_6 => ?_)
            go_wp2_with (go_at_call 61; (with_reducible refine M6.out.mono ?_); rintro e v7 ⟨c6, jn, rfl, hg, hjn, hrel⟩; have HG7 := Lib.hid hg; have HJn := Lib.hid hjn; have HRL := Lib.hid hrel; clear hg hjn hrel fc; obtain ⟨hc0, hjj⟩ := HRL.out; subst hjj; have hc : c6 = bsE C n (mkO n A Bb (rowX n A) (rowY n A)) := (congrArg (bsE C n) HO.out) ▸ hc0; clear hc0; have HJ7 : RowKit.Hid (JAt v7 (w.heap.size + 1 + 1) ⟨n, hasV n.op, .slice ca C.length cc, A, Bb, O, R0, R1⟩) := HJn; have rr := RR6.out.far HG7.out NE1.out; have RR7 := Lib.hid rr; have RF7 := Lib.hid (RF6.out.far HG7.out NE2.out); have BW7 := Lib.hid (BW6.out.grown HG7.out BW6.out.size NE3.out); have HK6 := Lib.hid hc; have q0 := rr.cell 0 _ rfl; have p0 := rr.fr 0; have q1 := rr.cell 1 _ rfl; have p1 := rr.fr 1; have q2 := rr.cell 2 _ rfl; have p2 := rr.fr 2; have rlt := rr.lt; clear hc HRL HJn M6 RR6 RF6 HG7 rr)
            all_goals (first
              | (have hc0 : c6 ≠ 0 := (by have h := ‹(c6 != 0) = true›; simpa using h); have NQ : ND = (c6, default) := (by rw [NP.out, pr_eq]; unfold prL; rw [if_neg (by rw [Z0.out]; decide), if_neg (by rw [Z1.out]; decide), if_neg (by rw [Z2.out]; decide), if_neg (by rw [Z3.out]; decide), if_neg (by rw [Z4.out]; decide), if_neg (by rw [Z5.out]; decide), if_pos (by rw [← HK6.out]; exact hc0), ← HK6.out]); exact HQG.out _ _ (bodyPost_ret (results_cell_mid2 rfl _ _ (w.heap.size + 1) _ rfl (load_row (zero3 RR7.out) 22 _ Try.underlying22 rfl (by kernel_rfl))) rfl ⟨by rw [NQ]; rfl, Below.setCell (Below.setCell (Below.setCell BW7.out (by show _ ≤ w.heap.size + 1; omega) _) (by show _ ≤ w.heap.size + 1; omega) _) (by show _ ≤ w.heap.size + 1; omega) _⟩))
              | skip)
            refine hRR_6.out _ _ ?_
            clear hRR_6
            have hc1 : c6 = 0 := by have h := ‹(c6 != 0) = false›; simpa using h
            subst hc1
            clear q0 q1 q2 p0 p1 p2 rlt
            have Z6 : RowKit.Hid (bsE C n (mkO n A Bb (rowX n A) (rowY n A)) = 0) := Lib.hid HK6.out.symm
            clear HK6
            have M7 := Lib.hid (m8 (C := C) (cc := cc) (ca := ca) rfl HJ7.out (HC.out.later BW7.out) (show JOk ⟨n, hasV n.op, .slice ca C.length cc, A, Bb, O, R0, R1⟩ from ⟨h14, rfl⟩) Z5.out (by rw [HO.out]; exact Z6.out))
            have fc := RF7.out.cell 7 _ rfl
            refine rounds_step (fun RR_7 hRR_7 => ?_)
            go_wp2_with (go_at_call 62; (with_reducible refine M7.out.mono ?_); rintro e v8 ⟨c7, jn, rfl, hg, hjn, hrel⟩; have HG8 := Lib.hid hg; have HJn := Lib.hid hjn; have HRL := Lib.hid hrel; clear hg hjn hrel fc; obtain ⟨hc, hjj⟩ := HRL.out; subst hjj; have HJ8 : RowKit.Hid (JAt v8 (w.heap.size + 1 + 1) ⟨n, hasV n.op, .slice ca C.length cc, A, Bb, O, R0, R1⟩) := HJn; have rr := RR7.out.far HG8.out NE1.out; have RR8 := Lib.hid rr; have RF8 := Lib.hid (RF7.out.far HG8.out NE2.out); have BW8 := Lib.hid (BW7.out.grown HG8.out BW7.out.size NE3.out); have HK7 := Lib.hid hc; have q0 := rr.cell 0 _ rfl; have p0 := rr.fr 0; have q1 := rr.cell 1 _ rfl; have p1 := rr.fr 1; have q2 := rr.cell 2 _ rfl; have p2 := rr.fr 2; have rlt := rr.lt; clear hc HRL HJn M7 RR7 RF7 HG8 rr)
            all_goals (first
              | (have hc0 : c7 ≠ 0 := (by have h := ‹(c7 != 0) = true›; simpa using h); have NQ : ND = (c7, default) := (by rw [NP.out, pr_eq]; unfold prL; rw [if_neg (by rw [Z0.out]; decide), if_neg (by rw [Z1.out]; decide), if_neg (by rw [Z2.out]; decide), if_neg (by rw [Z3.out]; decide), if_neg (by rw [Z4.out]; decide), if_neg (by rw [Z5.out]; decide), if_neg (by rw [Z6.out]; decide), if_pos (by rw [← HK7.out]; exact hc0), ← HK7.out]); exact HQG.out _ _ (bodyPost_ret (results_cell_mid2 rfl _ _ (w.heap.size + 1) _ rfl (load_row (zero3 RR8.out) 22 _ Try.underlying22 rfl (by kernel_rfl))) rfl ⟨by rw [NQ]; rfl, Below.setCell (Below.setCell (Below.setCell BW8.out (by show _ ≤ w.heap.size + 1; omega) _) (by show _ ≤ w.heap.size + 1; omega) _) (by show _ ≤ w.heap.size + 1; omega) _⟩))
              | skip)
            refine hRR_7.out _ _ ?_
            clear hRR_7
            have hc1 : c7 = 0 := by have h := ‹(c7 != 0) = false›; simpa using h
            subst hc1
            clear q0 q1 q2 p0 p1 p2 rlt
            have Z7 : RowKit.Hid (nmE C n = 0) := Lib.hid HK7.out.symm
            clear HK7
            rw [rounds_succ]
            have hj8 := HJ8.out
            have c_34 := hj8.cell 34 _ rfl
            have c_35 := hj8.cell 35 _ rfl
            have c_36 := hj8.cell 36 _ rfl
            have rr8 := RR8.out
            have q0 := rr8.cell 0 _ rfl
            have p0 := rr8.fr 0
            have q1 := rr8.cell 1 _ rfl
            have p1 := rr8.fr 1
            have q2 := rr8.cell 2 _ rfl
            have p2 := rr8.fr 2
            have rlt := rr8.lt
            have R3 := Lib.hid (((rr8.set (l' := [.int .i64 O.x, .int .i64 0, .int .i64 0]) 0 (.int .i64 O.x) (by simp) rfl).set (l' := [.int .i64 O.x, .int .i64 O.y, .int .i64 0]) 1 (.int .i64 O.y) (by simp) rfl).set (l' := [.int .i64 O.x, .int .i64 O.y, .int .i64 O.z]) 2 (.int .i64 O.z) (by simp) rfl)
            have NQ : RowKit.Hid (ND = (0, O)) := Lib.hid (by
              rw [NP.out, pr_eq]
              unfold prL
              rw [if_neg (by rw [Z0.out]; decide), if_neg (by rw [Z1.out]; decide), if_neg (by rw [Z2.out]; decide), if_neg (by rw [Z3.out]; decide), if_neg (by rw [Z4.out]; decide), if_neg (by rw [Z5.out]; decide), if_neg (by rw [Z6.out]; decide), if_neg (by rw [Z7.out]; decide), ← HO.out])
            clear hj8 rr8
            go_wp2_with fail
            exact HQG.out _ _ (bodyPost_ret (results_cell_mid2 rfl _ _ (w.heap.size + 1) _ rfl (load_row R3.out 22 _ Try.underlying22 rfl (by kernel_rfl))) rfl ⟨by rw [NQ.out]; rfl, Below.setCell (Below.setCell (Below.setCell BW8.out (by show _ ≤ w.heap.size + 1; omega) _) (by show _ ≤ w.heap.size + 1; omega) _) (by show _ ≤ w.heap.size + 1; omega) _⟩)
end Go.Proofs.Ytmifojpmomdmeaa
