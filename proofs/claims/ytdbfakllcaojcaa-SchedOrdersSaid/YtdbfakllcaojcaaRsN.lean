/- The document's numbers: its loops. -/
import Derived.Test.YtdbfakllcaojcaaRsNa
namespace Go.Proofs.Ytdbfakllcaojcaa
open Go Go.RowKit
set_option linter.unusedVariables false
set_option linter.unusedSimpArgs false
set_option maxRecDepth 100000

set_option maxHeartbeats 8000000 in
theorem rnum_plain (g : GrQ) (n : Nd) (h1 : 1 ≤ n.op) (h2 : n.op ≤ 14) (w : World) (h : basicB n = true) (hi : hI n.op = false) (h14 : (n.op == 14) = false) : Calls Try.prog 36 #[g.val, .agg n.cells.toArray] w fun e w' => e = .returned (.bool true) ∧ Below w.heap.size w w' := by
  obtain ⟨gx, gy, gz, ca, cc, C, na, nc, ns, go⟩ := g
  (try dsimp only at *)
  unfold GrQ.val
  (try dsimp only at *)
  have NEW := Lib.hid (NAt.new w ⟨gx, gy, gz, ca, cc, C, na, nc, ns, go⟩ n)
  dsimp only at NEW
  have BN : Below w.heap.size w ((w.alloc (.cells #[.int .i64 gx, .int .i64 gy, .int .i64 gz, .slice ca C.length cc, .slice na ns.length nc, .int .i64 go] 26)).alloc (.cells n.cells.toArray 57)) := by go_grown
  have BW := Lib.hid BN
  clear BN
  obtain ⟨⟨s0, s1, s2, s3, s4⟩, s5, s6, s7, s8, s9, s10, s11⟩ := basic_facts h
  have SM0 := Lib.hid (fun W => rsmall n.za W)
  rw [s0] at SM0
  have SM1 := Lib.hid (fun W => rsmall n.zb W)
  rw [s1] at SM1
  have SM2 := Lib.hid (fun W => rsmall n.zo W)
  rw [s2] at SM2
  have SM3 := Lib.hid (fun W => rsmall n.lo W)
  rw [s3] at SM3
  have SM4 := Lib.hid (fun W => rsmall n.hi W)
  rw [s4] at SM4
  have s5b : decide (n.hi < n.lo) = false := by simp; omega
  have s6b : decide (n.m1 < 0) = false := by simp; omega
  have s7b : decide (n.m2 < 0) = false := by simp; omega
  have s8b : decide (n.t1 < 0) = false := by simp; omega
  have s9b : decide (31 < n.t1) = false := by simp; omega
  have s10b : decide (n.t2 < 0) = false := by simp; omega
  have s11b : decide (31 < n.t2) = false := by simp; omega
  clear h s0 s1 s2 s3 s4 s5 s6 s7 s8 s9 s10 s11
  have HI := Lib.hid (fun W => rhas_II n.op h1 h2 W)
  rw [hi] at HI
  clear hi h1 h2
  go_enter Try.func36, Try.ntmps36
  go_upto_region 1 with fail
  have RO := NEW
  clear NEW
  generalize (w.alloc (.cells #[.int .i64 gx, .int .i64 gy, .int .i64 gz, .slice ca C.length cc, .slice na ns.length nc, .int .i64 go] 26)).alloc (.cells n.cells.toArray 57) = W1 at *
  have cn0 := RO.out.n.cell 0 _ rfl
  have cn11 := RO.out.n.cell 11 _ rfl
  have cn12 := RO.out.n.cell 12 _ rfl
  have cn13 := RO.out.n.cell 13 _ rfl
  have cn18 := RO.out.n.cell 18 _ rfl
  have cn19 := RO.out.n.cell 19 _ rfl
  have cn14 := RO.out.n.cell 14 _ rfl
  have cn15 := RO.out.n.cell 15 _ rfl
  have cn16 := RO.out.n.cell 16 _ rfl
  have cn17 := RO.out.n.cell 17 _ rfl
  have ln := RO.out.n.lt
  have lg := RO.out.g.lt
  go_wp2_with (first | (go_at_call 55; (first | (with_reducible refine (SM0.out _).mono ?_) | (with_reducible refine (SM1.out _).mono ?_) | (with_reducible refine (SM2.out _).mono ?_) | (with_reducible refine (SM3.out _).mono ?_) | (with_reducible refine (SM4.out _).mono ?_)); rintro e w9 ⟨rfl, rfl⟩) | (go_at_call 41; (with_reducible refine (HI.out _).mono ?_); rintro e w9 ⟨rfl, hb9⟩; replace RO := Lib.hid (RO.out.over hb9); replace BW := Lib.hid (below_call BW.out hb9); clear hb9 cn0 cn11 cn12 cn13 cn18 cn19 cn14 cn15 cn16 cn17 ln lg; have cn0 := RO.out.n.cell 0 _ rfl; have ln := RO.out.n.lt; have lg := RO.out.g.lt))
  go_ret
  exact ⟨rfl, BW.out⟩
def wordI (z : Int) : Bool := decide (-268435456 ≤ z ∧ z ≤ 268435456)
def wordT (z : Int) : Bool := decide (0 ≤ z ∧ z ≤ 65535)
theorem all_upto {f : Int → Bool} : ∀ {l : List Int}, (∀ (j : Nat) (z : Int), l[j]? = some z → f z = true) → l.all f = true := by
  intro l h
  rw [List.all_eq_true]
  intro z hz
  obtain ⟨j, hj⟩ := List.getElem?_of_mem hz
  exact h j z hj
theorem not_all {f : Int → Bool} {l : List Int} {k : Nat} {z : Int} (hz : l[k]? = some z) (h : f z = false) : l.all f = false := by
  cases hb : l.all f
  · rfl
  · have := List.all_eq_true.1 hb z (List.mem_of_getElem? hz)
    rw [h] at this; cases this
set_option maxHeartbeats 8000000 in
theorem rnum_I (g : GrQ) (n : Nd) (h1 : 1 ≤ n.op) (h2 : n.op ≤ 14) (w : World) (hC : CnsIn w g.ca g.C g.cc) (h : basicB n = true) (hi : hI n.op = true) (h14 : (n.op == 14) = false) (k0 : Nat) (q : CnQ) (hb : n.bias = (k0 : Int)) (hq : g.C[k0]? = some q) : Calls Try.prog 36 #[g.val, .agg n.cells.toArray] w fun e w' => e = .returned (.bool (q.ws.all wordI)) ∧ Below w.heap.size w w' := by
  obtain ⟨gx, gy, gz, ca, cc, C, na, nc, ns, go⟩ := g
  (try dsimp only at *)
  unfold GrQ.val
  (try dsimp only at *)
  have NEW := Lib.hid (NAt.new w ⟨gx, gy, gz, ca, cc, C, na, nc, ns, go⟩ n)
  dsimp only at NEW
  have BN : Below w.heap.size w ((w.alloc (.cells #[.int .i64 gx, .int .i64 gy, .int .i64 gz, .slice ca C.length cc, .slice na ns.length nc, .int .i64 go] 26)).alloc (.cells n.cells.toArray 57)) := by go_grown
  have BW := Lib.hid BN
  clear BN
  obtain ⟨⟨s0, s1, s2, s3, s4⟩, s5, s6, s7, s8, s9, s10, s11⟩ := basic_facts h
  have SM0 := Lib.hid (fun W => rsmall n.za W)
  rw [s0] at SM0
  have SM1 := Lib.hid (fun W => rsmall n.zb W)
  rw [s1] at SM1
  have SM2 := Lib.hid (fun W => rsmall n.zo W)
  rw [s2] at SM2
  have SM3 := Lib.hid (fun W => rsmall n.lo W)
  rw [s3] at SM3
  have SM4 := Lib.hid (fun W => rsmall n.hi W)
  rw [s4] at SM4
  have s5b : decide (n.hi < n.lo) = false := by simp; omega
  have s6b : decide (n.m1 < 0) = false := by simp; omega
  have s7b : decide (n.m2 < 0) = false := by simp; omega
  have s8b : decide (n.t1 < 0) = false := by simp; omega
  have s9b : decide (31 < n.t1) = false := by simp; omega
  have s10b : decide (n.t2 < 0) = false := by simp; omega
  have s11b : decide (31 < n.t2) = false := by simp; omega
  clear h s0 s1 s2 s3 s4 s5 s6 s7 s8 s9 s10 s11
  have HI := Lib.hid (fun W => rhas_II n.op h1 h2 W)
  rw [hi] at HI
  obtain ⟨cb, off, rfl, hlt, _, hs1⟩ := cns_cell hC hq
  have hin := (hC.2.2.1 _ (List.mem_of_getElem? hq)).2
  have k1 : k0 < C.length := (List.getElem?_eq_some_iff.1 hq).1
  obtain ⟨ba, bc, bs, wa, wc, ws⟩ := q
  dsimp only at hs1 hin ⊢
  have wl : ws.length ≤ wc := by have := hin.1.1; rwa [List.length_map] at this
  have wl2 : wc ≤ 9223372036854775807 := hin.1.2.1
  have HIN := Lib.hid hin
  have HS := Lib.hid hs1
  have kk0 : (0 : Int) ≤ (k0 : Int) := by omega
  have kk1 : (k0 : Int) < (C.length : Int) := by omega
  have e21 : n.cells[21]? = some (.int .i64 (k0 : Int)) := by rw [← hb]; rfl
  have c1 : C.length ≤ cc := hC.1
  have c2 : cc ≤ 9223372036854775807 := hC.2.1
  obtain ⟨R, hR⟩ : ∃ b, b = ws.all wordI := ⟨_, rfl⟩
  rw [← hR]
  have HR := Lib.hid hR
  clear hi h1 h2 hC hq hin hs1 hb hR
  go_enter Try.func36, Try.ntmps36
  go_upto_region 1 with fail
  have RO := NEW
  clear NEW
  generalize (w.alloc (.cells #[.int .i64 gx, .int .i64 gy, .int .i64 gz, .slice (some ⟨cb, off, none⟩) C.length cc, .slice na ns.length nc, .int .i64 go] 26)).alloc (.cells n.cells.toArray 57) = W1 at *
  have cn0 := RO.out.n.cell 0 _ rfl
  have cn11 := RO.out.n.cell 11 _ rfl
  have cn12 := RO.out.n.cell 12 _ rfl
  have cn13 := RO.out.n.cell 13 _ rfl
  have cn18 := RO.out.n.cell 18 _ rfl
  have cn19 := RO.out.n.cell 19 _ rfl
  have cn14 := RO.out.n.cell 14 _ rfl
  have cn15 := RO.out.n.cell 15 _ rfl
  have cn16 := RO.out.n.cell 16 _ rfl
  have cn17 := RO.out.n.cell 17 _ rfl
  have ln := RO.out.n.lt
  have lg := RO.out.g.lt
  go_upto_region 4 with (first | (go_at_call 55; (first | (with_reducible refine (SM0.out _).mono ?_) | (with_reducible refine (SM1.out _).mono ?_) | (with_reducible refine (SM2.out _).mono ?_) | (with_reducible refine (SM3.out _).mono ?_) | (with_reducible refine (SM4.out _).mono ?_)); rintro e w9 ⟨rfl, rfl⟩) | (go_at_call 41; (with_reducible refine (HI.out _).mono ?_); rintro e w9 ⟨rfl, hb9⟩; replace RO := Lib.hid (RO.out.over hb9); replace BW := Lib.hid (below_call BW.out hb9); clear hb9 cn0 cn11 cn12 cn13 cn18 cn19 cn14 cn15 cn16 cn17 ln lg; have cn0 := RO.out.n.cell 0 _ rfl; have ln := RO.out.n.lt; have lg := RO.out.g.lt))
  have cn21 := RO.out.n.cell 21 _ e21
  have cg3 := RO.out.g.cell 3 _ rfl
  have hs2 := (BW.out.cell (p := ⟨cb, _, none⟩) hlt).trans HS.out
  have BX := BW
  go_wp2_with fail
  go_loopw [6] (fun s6 wr => ∃ k : Nat, k ≤ ws.length ∧ s6 = .int .i64 k ∧ Below w.heap.size w wr ∧ wr.cell? ⟨w.heap.size + 1, 0, none⟩ = some (.int .i64 n.op) ∧ w.heap.size + 1 < wr.heap.size ∧ ∀ j z, j < k → ws[j]? = some z → wordI z = true) (fun s6 _ => ws.length - (intOf s6).toNat)
  case atStart => exact ⟨0, Nat.zero_le _, rfl, BX.out, cn0, ln, fun j z hj => absurd hj (by omega)⟩
  case round =>
    obtain ⟨k, hk, rfl, hB, hop, hol, hall⟩ := hrel
    have HB := Lib.hid hB
    have HALL := Lib.hid hall
    clear hall hB
    by_cases hkl : k < ws.length
    · obtain ⟨z, hz⟩ : ∃ z, ws[k]? = some z := ⟨_, List.getElem?_eq_getElem hkl⟩
      obtain ⟨hzw, b, o, hwa, hb, hc⟩ := ints_cell HIN.out k z hz
      subst hwa
      have hc2 := (HB.out.cell (p := ⟨b, _, none⟩) hb).trans hc
      have kl0 : (0 : Int) ≤ (k : Int) := by omega
      have kl1 : (k : Int) < (ws.length : Int) := by omega
      have HZ := Lib.hid hz
      have HK := Lib.hid hkl
      clear hc hz hkl
      by_cases z0 : z < -268435456
      · have z0b : decide (z < -268435456) = true := by simpa using z0
        have hRf : R = false := by rw [HR.out]; exact not_all HZ.out (by unfold wordI; simp; omega)
        have HRF := Lib.hid hRf
        clear z0 hRf
        go_wp2_with fail
        go_ret
        exact ⟨by rw [HRF.out]; rfl, HB.out⟩
      · have z0b : decide (z < -268435456) = false := by simpa using z0
        by_cases z1 : 268435456 < z
        · have z1b : decide (268435456 < z) = true := by simpa using z1
          have hRf : R = false := by rw [HR.out]; exact not_all HZ.out (by unfold wordI; simp; omega)
          have HRF := Lib.hid hRf
          clear z0 z1 hRf
          go_wp2_with fail
          go_ret
          exact ⟨by rw [HRF.out]; rfl, HB.out⟩
        · have z1b : decide (268435456 < z) = false := by simpa using z1
          have hw : wordI z = true := by unfold wordI; simp; omega
          have HW := Lib.hid hw
          clear z0 z1 hw
          go_wp2_with fail
          refine ⟨⟨k + 1, by have := HK.out; omega, rfl, HB.out, hop, hol, ?_⟩, by have := HK.out; simp [intOf]; omega⟩
          intro j z' hj hz'
          by_cases e : j = k
          · subst e
            rw [HZ.out] at hz'
            obtain rfl := Option.some.inj hz'
            exact HW.out
          · exact HALL.out j z' (by omega) hz'
    · obtain rfl : k = ws.length := by omega
      have hRt : R = true := by rw [HR.out]; exact all_upto fun j z hz => HALL.out j z (List.getElem?_eq_some_iff.1 hz).1 hz
      have HRF := Lib.hid hRt
      clear hRt hkl
      go_wp2_with fail
      go_ret
      exact ⟨by rw [HRF.out]; rfl, HB.out⟩
set_option maxHeartbeats 8000000 in
theorem rnum_T (g : GrQ) (n : Nd) (h1 : 1 ≤ n.op) (h2 : n.op ≤ 14) (w : World) (hC : CnsIn w g.ca g.C g.cc) (h : basicB n = true) (ho : n.op = 14) (k0 : Nat) (q : CnQ) (hb : n.w = (k0 : Int)) (hq : g.C[k0]? = some q) (h256 : q.ws.length = 256) : Calls Try.prog 36 #[g.val, .agg n.cells.toArray] w fun e w' => e = .returned (.bool (q.ws.all wordT && decide (q.ws.getD 0 0 ≠ 0))) ∧ Below w.heap.size w w' := by
  obtain ⟨gx, gy, gz, ca, cc, C, na, nc, ns, go⟩ := g
  (try dsimp only at *)
  unfold GrQ.val
  (try dsimp only at *)
  have NEW := Lib.hid (NAt.new w ⟨gx, gy, gz, ca, cc, C, na, nc, ns, go⟩ n)
  dsimp only at NEW
  have BN : Below w.heap.size w ((w.alloc (.cells #[.int .i64 gx, .int .i64 gy, .int .i64 gz, .slice ca C.length cc, .slice na ns.length nc, .int .i64 go] 26)).alloc (.cells n.cells.toArray 57)) := by go_grown
  have BW := Lib.hid BN
  clear BN
  obtain ⟨⟨s0, s1, s2, s3, s4⟩, s5, s6, s7, s8, s9, s10, s11⟩ := basic_facts h
  have SM0 := Lib.hid (fun W => rsmall n.za W)
  rw [s0] at SM0
  have SM1 := Lib.hid (fun W => rsmall n.zb W)
  rw [s1] at SM1
  have SM2 := Lib.hid (fun W => rsmall n.zo W)
  rw [s2] at SM2
  have SM3 := Lib.hid (fun W => rsmall n.lo W)
  rw [s3] at SM3
  have SM4 := Lib.hid (fun W => rsmall n.hi W)
  rw [s4] at SM4
  have s5b : decide (n.hi < n.lo) = false := by simp; omega
  have s6b : decide (n.m1 < 0) = false := by simp; omega
  have s7b : decide (n.m2 < 0) = false := by simp; omega
  have s8b : decide (n.t1 < 0) = false := by simp; omega
  have s9b : decide (31 < n.t1) = false := by simp; omega
  have s10b : decide (n.t2 < 0) = false := by simp; omega
  have s11b : decide (31 < n.t2) = false := by simp; omega
  clear h s0 s1 s2 s3 s4 s5 s6 s7 s8 s9 s10 s11
  have HI := Lib.hid (fun W => rhas_II n.op h1 h2 W)
  rw [show hI n.op = false by rw [ho]; rfl] at HI
  have h14 : (n.op == 14) = true := by rw [ho]; rfl
  obtain ⟨cb, off, rfl, hlt, _, hs1⟩ := cns_cell hC hq
  have hin := (hC.2.2.1 _ (List.mem_of_getElem? hq)).2
  have k1 : k0 < C.length := (List.getElem?_eq_some_iff.1 hq).1
  obtain ⟨ba, bc, bs, wa, wc, ws⟩ := q
  dsimp only at hs1 hin h256 ⊢
  have wl : ws.length ≤ wc := by have := hin.1.1; rwa [List.length_map] at this
  have wl2 : wc ≤ 9223372036854775807 := hin.1.2.1
  have HIN := Lib.hid hin
  have HS := Lib.hid hs1
  have kk0 : (0 : Int) ≤ (k0 : Int) := by omega
  have kk1 : (k0 : Int) < (C.length : Int) := by omega
  have e20 : n.cells[20]? = some (.int .i64 (k0 : Int)) := by rw [← hb]; rfl
  have c1 : C.length ≤ cc := hC.1
  have c2 : cc ≤ 9223372036854775807 := hC.2.1
  obtain ⟨R, hR⟩ : ∃ b, b = (ws.all wordT && decide (ws.getD 0 0 ≠ 0)) := ⟨_, rfl⟩
  rw [← hR]
  have HR := Lib.hid hR
  have H256 := Lib.hid h256
  clear ho h1 h2 h256 hC hq hin hs1 hb hR
  go_enter Try.func36, Try.ntmps36
  go_upto_region 1 with fail
  have RO := NEW
  clear NEW
  generalize (w.alloc (.cells #[.int .i64 gx, .int .i64 gy, .int .i64 gz, .slice (some ⟨cb, off, none⟩) C.length cc, .slice na ns.length nc, .int .i64 go] 26)).alloc (.cells n.cells.toArray 57) = W1 at *
  have cn0 := RO.out.n.cell 0 _ rfl
  have cn11 := RO.out.n.cell 11 _ rfl
  have cn12 := RO.out.n.cell 12 _ rfl
  have cn13 := RO.out.n.cell 13 _ rfl
  have cn18 := RO.out.n.cell 18 _ rfl
  have cn19 := RO.out.n.cell 19 _ rfl
  have cn14 := RO.out.n.cell 14 _ rfl
  have cn15 := RO.out.n.cell 15 _ rfl
  have cn16 := RO.out.n.cell 16 _ rfl
  have cn17 := RO.out.n.cell 17 _ rfl
  have ln := RO.out.n.lt
  have lg := RO.out.g.lt
  go_upto_region 11 with (first | (go_at_call 55; (first | (with_reducible refine (SM0.out _).mono ?_) | (with_reducible refine (SM1.out _).mono ?_) | (with_reducible refine (SM2.out _).mono ?_) | (with_reducible refine (SM3.out _).mono ?_) | (with_reducible refine (SM4.out _).mono ?_)); rintro e w9 ⟨rfl, rfl⟩) | (go_at_call 41; (with_reducible refine (HI.out _).mono ?_); rintro e w9 ⟨rfl, hb9⟩; replace RO := Lib.hid (RO.out.over hb9); replace BW := Lib.hid (below_call BW.out hb9); clear hb9 cn0 cn11 cn12 cn13 cn18 cn19 cn14 cn15 cn16 cn17 ln lg; have cn0 := RO.out.n.cell 0 _ rfl; have ln := RO.out.n.lt; have lg := RO.out.g.lt))
  have cn20 := RO.out.n.cell 20 _ e20
  have cg3 := RO.out.g.cell 3 _ rfl
  have hs2 := (BW.out.cell (p := ⟨cb, _, none⟩) hlt).trans HS.out
  have BX := BW
  go_wp2_with fail
  go_loopw [8] (fun s6 wr => ∃ k : Nat, k ≤ ws.length ∧ s6 = .int .i64 k ∧ Below w.heap.size w wr ∧ ∀ j z, j < k → ws[j]? = some z → wordT z = true) (fun s6 _ => ws.length - (intOf s6).toNat)
  case atStart => exact ⟨0, Nat.zero_le _, rfl, BX.out, fun j z hj => absurd hj (by omega)⟩
  case round =>
    obtain ⟨k, hk, rfl, hB, hall⟩ := hrel
    have HB := Lib.hid hB
    have HALL := Lib.hid hall
    clear hall hB
    by_cases hkl : k < ws.length
    · obtain ⟨z, hz⟩ : ∃ z, ws[k]? = some z := ⟨_, List.getElem?_eq_getElem hkl⟩
      obtain ⟨hzw, b, o, hwa, hb, hc⟩ := ints_cell HIN.out k z hz
      subst hwa
      have hc2 := (HB.out.cell (p := ⟨b, _, none⟩) hb).trans hc
      have kl0 : (0 : Int) ≤ (k : Int) := by omega
      have kl1 : (k : Int) < (ws.length : Int) := by omega
      have HZ := Lib.hid hz
      have HK := Lib.hid hkl
      clear hc hz hkl
      by_cases z0 : z < 0
      · have z0b : decide (z < 0) = true := by simpa using z0
        have hRf : R = false := by rw [HR.out, not_all HZ.out (show wordT z = false by unfold wordT; simp; omega), Bool.false_and]
        have HRF := Lib.hid hRf
        clear z0 hRf
        go_wp2_with fail
        go_ret
        exact ⟨by rw [HRF.out]; rfl, HB.out⟩
      · have z0b : decide (z < 0) = false := by simpa using z0
        by_cases z1 : 65535 < z
        · have z1b : decide (65535 < z) = true := by simpa using z1
          have hRf : R = false := by rw [HR.out, not_all HZ.out (show wordT z = false by unfold wordT; simp; omega), Bool.false_and]
          have HRF := Lib.hid hRf
          clear z0 z1 hRf
          go_wp2_with fail
          go_ret
          exact ⟨by rw [HRF.out]; rfl, HB.out⟩
        · have z1b : decide (65535 < z) = false := by simpa using z1
          have hw : wordT z = true := by unfold wordT; simp; omega
          have HW := Lib.hid hw
          clear z0 z1 hw
          go_wp2_with fail
          refine ⟨⟨k + 1, by have := HK.out; omega, rfl, HB.out, ?_⟩, by have := HK.out; simp [intOf]; omega⟩
          intro j z' hj hz'
          by_cases e : j = k
          · subst e
            rw [HZ.out] at hz'
            obtain rfl := Option.some.inj hz'
            exact HW.out
          · exact HALL.out j z' (by omega) hz'
    · obtain rfl : k = ws.length := by omega
      obtain ⟨z, hz⟩ : ∃ z, ws[0]? = some z := ⟨_, List.getElem?_eq_getElem (by rw [H256.out]; omega)⟩
      obtain ⟨hzw, b, o, hwa, hb, hc⟩ := ints_cell HIN.out 0 z hz
      subst hwa
      have hc2 := (HB.out.cell (p := ⟨b, _, none⟩) hb).trans hc
      rw [Nat.add_zero] at hc2
      have hRt : R = decide (0 < z) := by
        rw [HR.out, all_upto fun j z hz => HALL.out j z (List.getElem?_eq_some_iff.1 hz).1 hz, Bool.true_and]
        have e : ws.getD 0 0 = z := by simp [hz]
        rw [e]
        have := HALL.out 0 z (List.getElem?_eq_some_iff.1 hz).1 hz
        unfold wordT at this
        have := of_decide_eq_true this
        by_cases h0 : z = 0
        · subst h0; rfl
        · rw [decide_eq_true (by simpa using h0), decide_eq_true (by omega)]
      have HRF := Lib.hid hRt
      have hl0 : (0 : Int) < (ws.length : Int) := by rw [H256.out]; decide
      clear hRt hkl hz hc
      go_wp2_with fail
      go_ret
      exact ⟨by rw [HRF.out]; rfl, HB.out⟩
theorem constE_zero {C : List CnQ} {i b m : Int} (h : constE (C.map CnQ.cn) i b m = 0) : ∃ (k : Nat) (q : CnQ), i = (k : Int) ∧ C[k]? = some q ∧ (q.bs.length : Int) = b ∧ (q.ws.length : Int) = m := by
  by_cases h0 : i < 0 ∨ ((C.map CnQ.cn).length : Int) ≤ i
  · rw [constE_low h0] at h; cases h
  · rw [List.length_map] at h0
    obtain ⟨k, rfl⟩ : ∃ k : Nat, i = (k : Int) := ⟨i.toNat, by omega⟩
    obtain ⟨q, hq⟩ : ∃ q, C[k]? = some q := ⟨_, List.getElem?_eq_getElem (by omega)⟩
    rw [constE_at hq] at h
    by_cases h1 : (q.bs.length : Int) ≠ b ∨ (q.ws.length : Int) ≠ m
    · rw [if_pos h1] at h; cases h
    · exact ⟨k, q, rfl, hq, by omega, by omega⟩
theorem words_at {C : List CnQ} {k : Nat} {q : CnQ} (h : C[k]? = some q) : wordsN (C.map CnQ.cn) (k : Int) = q.ws := by
  unfold wordsN
  have e : ((C.map CnQ.cn).getD (k : Int).toNat default) = q.cn := by simp [h]
  rw [e]; rfl
theorem rnumbers (g : GrQ) (n : Nd) (a s : Sh) (h1 : 1 ≤ n.op) (h2 : n.op ≤ 14) (w : World) (hc : CnsIn w g.ca g.C g.cc) (hwt : weightsE (g.C.map CnQ.cn) n a s = 0) : Calls Try.prog 36 #[g.val, .agg n.cells.toArray] w fun e w' => e = .returned (.bool (numbersB (g.C.map CnQ.cn) n)) ∧ Below w.heap.size w w' := by
  cases hb : basicB n
  · rw [numbers_basic hb]; exact rnum_bad g n w hb
  · have hb2 := hb
    unfold basicB at hb2
    have e : ∀ x y : Bool, numbersB (g.C.map CnQ.cn) n = (basicB n && (!hI n.op || (wordsN (g.C.map CnQ.cn) n.bias).all wordI) && (!decide (n.op = 14) || ((wordsN (g.C.map CnQ.cn) n.w).all wordT && decide ((wordsN (g.C.map CnQ.cn) n.w).getD 0 0 ≠ 0)))) := fun _ _ => rfl
    rw [e true true, hb]
    unfold weightsE at hwt
    by_cases h14 : n.op = 14
    · have hi : hI n.op = false := by rw [h14]; rfl
      have hw : hW n.op = true := by rw [h14]; rfl
      rw [hw, hi, if_pos h14] at hwt
      have hz : constE (g.C.map CnQ.cn) n.w (bytesN n a s) 256 = 0 := by
        by_cases hz : constE (g.C.map CnQ.cn) n.w (bytesN n a s) 256 = 0
        · exact hz
        · rw [if_pos ⟨rfl, hz⟩] at hwt; exact hwt
      obtain ⟨k, q, hk, hq, _, hl⟩ := constE_zero hz
      rw [hi, hk, words_at hq, decide_eq_true h14]
      simp only [Bool.not_false, Bool.true_or, Bool.true_and, Bool.not_true, Bool.false_or]
      exact rnum_T g n h1 h2 w hc hb h14 k q hk hq (by omega)
    · cases hi : hI n.op
      · rw [decide_eq_false h14]
        simp only [Bool.not_false, Bool.true_or, Bool.true_and]
        exact rnum_plain g n h1 h2 w hb hi (by simpa using h14)
      · have hw : hW n.op = true := by
          unfold hI at hi
          have := of_decide_eq_true hi
          unfold hW
          exact decide_eq_true (by omega)
        rw [hw, hi, if_neg h14] at hwt
        have hz : constE (g.C.map CnQ.cn) n.bias 0 s.z = 0 := by
          by_cases hz : constE (g.C.map CnQ.cn) n.w (bytesN n a s) 0 = 0
          · rw [if_neg (fun hh => hh.2 hz), if_pos rfl] at hwt; exact hwt
          · rw [if_pos ⟨rfl, hz⟩] at hwt; exact absurd hwt hz
        obtain ⟨k, q, hk, hq, _, hl⟩ := constE_zero hz
        rw [hk, words_at hq, decide_eq_false h14]
        simp only [Bool.not_false, Bool.true_or, Bool.true_and, Bool.not_true, Bool.false_or, Bool.and_true]
        exact rnum_I g n h1 h2 w hc hb hi (by simpa using h14) k q hk hq
end Go.Proofs.Ytdbfakllcaojcaa
