/- Package infer: the judge's methods weights, bias. -/
import Derived.Test.YtmifojpmomdmeaaJP
import Derived.Test.YtmifojpmomdmeaaJgC
import Derived.Test.YtmifojpmomdmeaaTW
import Derived.BigRegion
namespace Go.Proofs.Ytmifojpmomdmeaa
open Go Go.RowKit
set_option linter.unusedVariables false

set_option maxRecDepth 100000 in
set_option maxHeartbeats 4000000 in
theorem jwt_14 (J : Nat) (j : Jg) (w : World) (C : List CnQ) (cc : Nat) (ca : Option Addr) (hcs : j.cs = .slice ca C.length cc) (hJ : JAt w J j) (hC : CnsIn w ca C cc) (h : j.n.op = 14) :
    Calls Try.prog 60 #[.pointer (some ⟨J, 0, none⟩)] w fun e w' => e = .returned (.int .i64 (conQ C j.n.w (0) (256))) ∧ Below w.heap.size w w' := by
  obtain ⟨T, Z, Z0, K, NL⟩ := node_letter j.n
  have hL := NL.load
  have hAl := NL.alloc
  have hSt := NL.store
  have tA := NL.agg
  have tS := NL.size
  have tZ := NL.zero
  have tK := NL.len
  have tT := NL.tT w
  have tU := NL.tU w
  have tV := NL.tV w
  have hlt := hJ.lt
  have RG := Lib.hid (jg_rg hJ NL)
  have k_0 : K[0]? = some (.int .i64 14) := by rw [NL.cells, ← h]; rfl
  have k_20 : K[20]? = some (.int .i64 j.n.w) := by rw [NL.cells]; rfl
  have k_3 : K[3]? = some (.int .i64 j.n.k0) := by rw [NL.cells]; rfl
  have k_4 : K[4]? = some (.int .i64 j.n.k1) := by rw [NL.cells]; rfl
  have c_28 := hJ.cell 28 _ rfl
  have c_29 := hJ.cell 29 _ rfl
  have c_30 := hJ.cell 30 _ rfl
  have PA1 := Lib.hid (row_1 w K T (.cells #[.int .i64 j.a.x, .int .i64 j.a.y, .int .i64 j.a.z] 22))
  have PA2 := Lib.hid (row_2 w (.cells K.toArray T) [.int .i64 j.a.x, .int .i64 j.a.y, .int .i64 j.a.z] 22)
  have PB2 := Lib.hid (row_1 w [.int .i64 j.a.x, .int .i64 j.a.y, .int .i64 j.a.z] 22 (.cells K.toArray T))
  have PB1 := Lib.hid (row_2 w (.cells #[.int .i64 j.a.x, .int .i64 j.a.y, .int .i64 j.a.z] 22) K T)
  have PS := Lib.hid (show ∀ w', Below w.heap.size w w' → (fun w' => (loadCellsFrom ⟨J, 0, none⟩ 0 Z #[]).run Try.prog w' = .ok K.toArray w' ∧ w'.cell? ⟨J, 28, none⟩ = some (.int .i64 j.a.x) ∧ w'.cell? ⟨J, 29, none⟩ = some (.int .i64 j.a.y) ∧ w'.cell? ⟨J, 30, none⟩ = some (.int .i64 j.a.z) ∧ Below w.heap.size w w') w' from fun w' hb => ⟨NL.read w' J (fun i v hv => (hb.cell (p := ⟨J, 0 + i, none⟩) hlt).trans (RG.out i v hv)), (hb.cell (p := ⟨J, 28, none⟩) hlt).trans c_28, (hb.cell (p := ⟨J, 29, none⟩) hlt).trans c_29, (hb.cell (p := ⟨J, 30, none⟩) hlt).trans c_30, hb⟩)
  have HJ := Lib.hid hJ
  obtain ⟨c, hc⟩ : ∃ c, c = conQ C j.n.w (0) (256) := ⟨_, rfl⟩
  rw [← hc]
  have CN := Lib.hid (show ∀ W : World, Below w.heap.size w W → Calls Try.prog 83 #[.pointer (some ⟨J, 0, none⟩), .int .i64 j.n.w, .int .i64 (0), .int .i64 (256)] W fun e w' => e = .returned (.int .i64 c) ∧ Below W.heap.size W w' from fun W hb => by rw [hc]; exact jconst J j W C cc ca hcs (hJ.later hb hJ.lt) (hC.later hb) _ _ _)
  clear hc
  clear hJ hC hcs h
  go_enter Try.func60, Try.ntmps60
  simp only [hL, hAl, hSt]
  clear hL hAl hSt NL
  go_wp2_with fail
  go_region_held3 (fun w' => (loadCellsFrom ⟨J, 0, none⟩ 0 Z #[]).run Try.prog w' = .ok K.toArray w' ∧ w'.cell? ⟨J, 28, none⟩ = some (.int .i64 j.a.x) ∧ w'.cell? ⟨J, 29, none⟩ = some (.int .i64 j.a.y) ∧ w'.cell? ⟨J, 30, none⟩ = some (.int .i64 j.a.z) ∧ Below w.heap.size w w')
    (first | (with_reducible assumption) | (refine PS.out _ ?_; first | (with_reducible exact Below.refl _ _) | (with_reducible exact (Below.refl _ _).drew) | go_grown))
    (first | fail)
  all_goals
    rename_i hH
    obtain ⟨_, _, _, _, hbW⟩ := hH
    (first
    | (have hq : Below w.heap.size w ((w.alloc (.cells K.toArray T)).alloc (.cells #[.int .i64 j.a.x, .int .i64 j.a.y, .int .i64 j.a.z] 22)).drew := hbW; have r1 := PA1.out; have r2 := PA2.out; generalize ((w.alloc (.cells K.toArray T)).alloc (.cells #[.int .i64 j.a.x, .int .i64 j.a.y, .int .i64 j.a.z] 22)).drew = W1 at *; have j2 : J < w.heap.size + 1 := Nat.lt_succ_of_lt hlt; generalize hb1 : w.heap.size + 1 = B2 at *; clear hb1; have n1 := Nat.ne_of_lt hlt; have n2 := Nat.ne_of_lt j2)
    | (have hq : Below w.heap.size w ((w.alloc (.cells #[.int .i64 j.a.x, .int .i64 j.a.y, .int .i64 j.a.z] 22)).alloc (.cells K.toArray T)).drew := hbW; have r1 := PB1.out; have r2 := PB2.out; generalize ((w.alloc (.cells #[.int .i64 j.a.x, .int .i64 j.a.y, .int .i64 j.a.z] 22)).alloc (.cells K.toArray T)).drew = W1 at *; have j2 : J < w.heap.size + 1 := Nat.lt_succ_of_lt hlt; generalize hb1 : w.heap.size + 1 = B2 at *; clear hb1; have n2 := Nat.ne_of_lt hlt; have n1 := Nat.ne_of_lt j2))
    have HJ1 := HJ.out.later hbW hlt
    have HQ := Lib.hid hbW
    clear hbW hq PA1 PA2 PB1 PB2
    have q_0 := r1.cell 0 _ k_0
    have q_20 := r1.cell 20 _ k_20
    have q_3 := r1.cell 3 _ k_3
    have q_4 := r1.cell 4 _ k_4
    have a_0 := r2.cell 0 _ rfl
    have a_1 := r2.cell 1 _ rfl
    have a_2 := r2.cell 2 _ rfl
    have l1 := r1.lt
    have l2 := r2.lt
    have l3 := RowAt.lt HJ1
    have HJ2 := Lib.hid HJ1
    have HR1 := Lib.hid r1
    have HR2 := Lib.hid r2
    clear r1 r2 HJ1 tT tU tV tA tS tZ tK RG PS HJ
    go_wp2_with (go_at_call 83; (with_reducible refine (CN.out _ HQ.out).mono ?_); rintro e w2 ⟨rfl, hb2⟩; have HB2 := Lib.hid (below_call HQ.out hb2); clear hb2)
    go_ret
    exact ⟨rfl, HB2.out⟩
set_option maxRecDepth 100000 in
set_option maxHeartbeats 4000000 in
theorem jwt_x (J : Nat) (j : Jg) (w : World) (C : List CnQ) (cc : Nat) (ca : Option Addr) (hcs : j.cs = .slice ca C.length cc) (hJ : JAt w J j) (hC : CnsIn w ca C cc) (h1 : (j.n.op == 1) = false) (h2 : (j.n.op == 2) = false) (h3 : (j.n.op == 3) = false) (h4 : (j.n.op == 4) = false) (h5 : (j.n.op == 14) = false) :
    Calls Try.prog 60 #[.pointer (some ⟨J, 0, none⟩)] w fun e w' => e = .returned (.int .i64 (0)) ∧ Below w.heap.size w w' := by
  obtain ⟨T, Z, Z0, K, NL⟩ := node_letter j.n
  have hL := NL.load
  have hAl := NL.alloc
  have hSt := NL.store
  have tA := NL.agg
  have tS := NL.size
  have tZ := NL.zero
  have tK := NL.len
  have tT := NL.tT w
  have tU := NL.tU w
  have tV := NL.tV w
  have hlt := hJ.lt
  have RG := Lib.hid (jg_rg hJ NL)
  have k_0 : K[0]? = some (.int .i64 j.n.op) := by rw [NL.cells]; rfl
  have k_3 : K[3]? = some (.int .i64 j.n.k0) := by rw [NL.cells]; rfl
  have k_4 : K[4]? = some (.int .i64 j.n.k1) := by rw [NL.cells]; rfl
  have c_28 := hJ.cell 28 _ rfl
  have c_29 := hJ.cell 29 _ rfl
  have c_30 := hJ.cell 30 _ rfl
  have PA1 := Lib.hid (row_1 w K T (.cells #[.int .i64 j.a.x, .int .i64 j.a.y, .int .i64 j.a.z] 22))
  have PA2 := Lib.hid (row_2 w (.cells K.toArray T) [.int .i64 j.a.x, .int .i64 j.a.y, .int .i64 j.a.z] 22)
  have PB2 := Lib.hid (row_1 w [.int .i64 j.a.x, .int .i64 j.a.y, .int .i64 j.a.z] 22 (.cells K.toArray T))
  have PB1 := Lib.hid (row_2 w (.cells #[.int .i64 j.a.x, .int .i64 j.a.y, .int .i64 j.a.z] 22) K T)
  have PS := Lib.hid (show ∀ w', Below w.heap.size w w' → (fun w' => (loadCellsFrom ⟨J, 0, none⟩ 0 Z #[]).run Try.prog w' = .ok K.toArray w' ∧ w'.cell? ⟨J, 28, none⟩ = some (.int .i64 j.a.x) ∧ w'.cell? ⟨J, 29, none⟩ = some (.int .i64 j.a.y) ∧ w'.cell? ⟨J, 30, none⟩ = some (.int .i64 j.a.z) ∧ Below w.heap.size w w') w' from fun w' hb => ⟨NL.read w' J (fun i v hv => (hb.cell (p := ⟨J, 0 + i, none⟩) hlt).trans (RG.out i v hv)), (hb.cell (p := ⟨J, 28, none⟩) hlt).trans c_28, (hb.cell (p := ⟨J, 29, none⟩) hlt).trans c_29, (hb.cell (p := ⟨J, 30, none⟩) hlt).trans c_30, hb⟩)
  have HJ := Lib.hid hJ
  clear hJ hC hcs
  go_enter Try.func60, Try.ntmps60
  simp only [hL, hAl, hSt]
  clear hL hAl hSt NL
  go_wp2_with fail
  go_region_held3 (fun w' => (loadCellsFrom ⟨J, 0, none⟩ 0 Z #[]).run Try.prog w' = .ok K.toArray w' ∧ w'.cell? ⟨J, 28, none⟩ = some (.int .i64 j.a.x) ∧ w'.cell? ⟨J, 29, none⟩ = some (.int .i64 j.a.y) ∧ w'.cell? ⟨J, 30, none⟩ = some (.int .i64 j.a.z) ∧ Below w.heap.size w w')
    (first | (with_reducible assumption) | (refine PS.out _ ?_; first | (with_reducible exact Below.refl _ _) | (with_reducible exact (Below.refl _ _).drew) | go_grown))
    (first | fail)
  all_goals
    rename_i hH
    obtain ⟨_, _, _, _, hbW⟩ := hH
    (first
    | (have hq : Below w.heap.size w ((w.alloc (.cells K.toArray T)).alloc (.cells #[.int .i64 j.a.x, .int .i64 j.a.y, .int .i64 j.a.z] 22)).drew := hbW; have r1 := PA1.out; have r2 := PA2.out; generalize ((w.alloc (.cells K.toArray T)).alloc (.cells #[.int .i64 j.a.x, .int .i64 j.a.y, .int .i64 j.a.z] 22)).drew = W1 at *; have j2 : J < w.heap.size + 1 := Nat.lt_succ_of_lt hlt; generalize hb1 : w.heap.size + 1 = B2 at *; clear hb1; have n1 := Nat.ne_of_lt hlt; have n2 := Nat.ne_of_lt j2)
    | (have hq : Below w.heap.size w ((w.alloc (.cells #[.int .i64 j.a.x, .int .i64 j.a.y, .int .i64 j.a.z] 22)).alloc (.cells K.toArray T)).drew := hbW; have r1 := PB1.out; have r2 := PB2.out; generalize ((w.alloc (.cells #[.int .i64 j.a.x, .int .i64 j.a.y, .int .i64 j.a.z] 22)).alloc (.cells K.toArray T)).drew = W1 at *; have j2 : J < w.heap.size + 1 := Nat.lt_succ_of_lt hlt; generalize hb1 : w.heap.size + 1 = B2 at *; clear hb1; have n2 := Nat.ne_of_lt hlt; have n1 := Nat.ne_of_lt j2))
    have HJ1 := HJ.out.later hbW hlt
    have HQ := Lib.hid hbW
    clear hbW hq PA1 PA2 PB1 PB2
    have q_0 := r1.cell 0 _ k_0
    have q_3 := r1.cell 3 _ k_3
    have q_4 := r1.cell 4 _ k_4
    have a_0 := r2.cell 0 _ rfl
    have a_1 := r2.cell 1 _ rfl
    have a_2 := r2.cell 2 _ rfl
    have l1 := r1.lt
    have l2 := r2.lt
    have l3 := RowAt.lt HJ1
    have HJ2 := Lib.hid HJ1
    have HR1 := Lib.hid r1
    have HR2 := Lib.hid r2
    clear r1 r2 HJ1 tT tU tV tA tS tZ tK RG PS HJ
    go_wp2_with fail
    go_ret
    exact ⟨rfl, HQ.out⟩
set_option maxRecDepth 100000 in
set_option maxHeartbeats 4000000 in
theorem jwt_3 (J : Nat) (j : Jg) (w : World) (C : List CnQ) (cc : Nat) (ca : Option Addr) (hcs : j.cs = .slice ca C.length cc) (hJ : JAt w J j) (hC : CnsIn w ca C cc) (h : j.n.op = 3) (hkk : (1 ≤ j.n.k0 ∧ j.n.k0 ≤ 8) ∧ (1 ≤ j.n.k1 ∧ j.n.k1 ≤ 8) ∧ 1 ≤ j.a.z ∧ j.a.z ≤ 64) :
    Calls Try.prog 60 #[.pointer (some ⟨J, 0, none⟩)] w fun e w' => e = .returned (.int .i64 (conQ C j.n.w (j.n.k0 * j.n.k1 * j.a.z) (0))) ∧ Below w.heap.size w w' := by
  obtain ⟨T, Z, Z0, K, NL⟩ := node_letter j.n
  have hL := NL.load
  have hAl := NL.alloc
  have hSt := NL.store
  have tA := NL.agg
  have tS := NL.size
  have tZ := NL.zero
  have tK := NL.len
  have tT := NL.tT w
  have tU := NL.tU w
  have tV := NL.tV w
  have hlt := hJ.lt
  have RG := Lib.hid (jg_rg hJ NL)
  have k_0 : K[0]? = some (.int .i64 3) := by rw [NL.cells, ← h]; rfl
  have k_20 : K[20]? = some (.int .i64 j.n.w) := by rw [NL.cells]; rfl
  have k_3 : K[3]? = some (.int .i64 j.n.k0) := by rw [NL.cells]; rfl
  have k_4 : K[4]? = some (.int .i64 j.n.k1) := by rw [NL.cells]; rfl
  have c_28 := hJ.cell 28 _ rfl
  have c_29 := hJ.cell 29 _ rfl
  have c_30 := hJ.cell 30 _ rfl
  have PA1 := Lib.hid (row_1 w K T (.cells #[.int .i64 j.a.x, .int .i64 j.a.y, .int .i64 j.a.z] 22))
  have PA2 := Lib.hid (row_2 w (.cells K.toArray T) [.int .i64 j.a.x, .int .i64 j.a.y, .int .i64 j.a.z] 22)
  have PB2 := Lib.hid (row_1 w [.int .i64 j.a.x, .int .i64 j.a.y, .int .i64 j.a.z] 22 (.cells K.toArray T))
  have PB1 := Lib.hid (row_2 w (.cells #[.int .i64 j.a.x, .int .i64 j.a.y, .int .i64 j.a.z] 22) K T)
  have PS := Lib.hid (show ∀ w', Below w.heap.size w w' → (fun w' => (loadCellsFrom ⟨J, 0, none⟩ 0 Z #[]).run Try.prog w' = .ok K.toArray w' ∧ w'.cell? ⟨J, 28, none⟩ = some (.int .i64 j.a.x) ∧ w'.cell? ⟨J, 29, none⟩ = some (.int .i64 j.a.y) ∧ w'.cell? ⟨J, 30, none⟩ = some (.int .i64 j.a.z) ∧ Below w.heap.size w w') w' from fun w' hb => ⟨NL.read w' J (fun i v hv => (hb.cell (p := ⟨J, 0 + i, none⟩) hlt).trans (RG.out i v hv)), (hb.cell (p := ⟨J, 28, none⟩) hlt).trans c_28, (hb.cell (p := ⟨J, 29, none⟩) hlt).trans c_29, (hb.cell (p := ⟨J, 30, none⟩) hlt).trans c_30, hb⟩)
  have HJ := Lib.hid hJ
  obtain ⟨c, hc⟩ : ∃ c, c = conQ C j.n.w (j.n.k0 * j.n.k1 * j.a.z) (0) := ⟨_, rfl⟩
  rw [← hc]
  have CN := Lib.hid (show ∀ W : World, Below w.heap.size w W → Calls Try.prog 83 #[.pointer (some ⟨J, 0, none⟩), .int .i64 j.n.w, .int .i64 (j.n.k0 * j.n.k1 * j.a.z), .int .i64 (0)] W fun e w' => e = .returned (.int .i64 c) ∧ Below W.heap.size W w' from fun W hb => by rw [hc]; exact jconst J j W C cc ca hcs (hJ.later hb hJ.lt) (hC.later hb) _ _ _)
  clear hc
  have hk1 : 1 ≤ j.n.k0 * j.n.k1 ∧ j.n.k0 * j.n.k1 ≤ 64 := ⟨by have := Int.mul_le_mul (show (1 : Int) ≤ j.n.k0 by omega) (show (1 : Int) ≤ j.n.k1 by omega) (by omega) (by omega); omega, by have := Int.mul_le_mul (show j.n.k0 ≤ 8 by omega) (show j.n.k1 ≤ 8 by omega) (by omega) (by omega); omega⟩
  have hk2 : 1 ≤ j.n.k0 * j.n.k1 * j.a.z ∧ j.n.k0 * j.n.k1 * j.a.z ≤ 4096 := ⟨by have := Int.mul_le_mul (show (1 : Int) ≤ j.n.k0 * j.n.k1 by omega) (show (1 : Int) ≤ j.a.z by omega) (by omega) (by omega); omega, by have := Int.mul_le_mul (show j.n.k0 * j.n.k1 ≤ 64 by omega) (show j.a.z ≤ 64 by omega) (by omega) (by omega); omega⟩
  have hw1 : IntKind.i64.wrap (j.n.k0 * j.n.k1) = j.n.k0 * j.n.k1 := IntWalk.i64_in _ (by omega)
  have hw2 : IntKind.i64.wrap (j.n.k0 * j.n.k1 * j.a.z) = j.n.k0 * j.n.k1 * j.a.z := IntWalk.i64_in _ (by omega)
  clear hk1 hk2 hkk
  clear hJ hC hcs h
  go_enter Try.func60, Try.ntmps60
  simp only [hL, hAl, hSt]
  clear hL hAl hSt NL
  go_wp2_with fail
  go_region_held3 (fun w' => (loadCellsFrom ⟨J, 0, none⟩ 0 Z #[]).run Try.prog w' = .ok K.toArray w' ∧ w'.cell? ⟨J, 28, none⟩ = some (.int .i64 j.a.x) ∧ w'.cell? ⟨J, 29, none⟩ = some (.int .i64 j.a.y) ∧ w'.cell? ⟨J, 30, none⟩ = some (.int .i64 j.a.z) ∧ Below w.heap.size w w')
    (first | (with_reducible assumption) | (refine PS.out _ ?_; first | (with_reducible exact Below.refl _ _) | (with_reducible exact (Below.refl _ _).drew) | go_grown))
    (first | fail)
  all_goals
    rename_i hH
    obtain ⟨_, _, _, _, hbW⟩ := hH
    (first
    | (have hq : Below w.heap.size w ((w.alloc (.cells K.toArray T)).alloc (.cells #[.int .i64 j.a.x, .int .i64 j.a.y, .int .i64 j.a.z] 22)).drew := hbW; have r1 := PA1.out; have r2 := PA2.out; generalize ((w.alloc (.cells K.toArray T)).alloc (.cells #[.int .i64 j.a.x, .int .i64 j.a.y, .int .i64 j.a.z] 22)).drew = W1 at *; have j2 : J < w.heap.size + 1 := Nat.lt_succ_of_lt hlt; generalize hb1 : w.heap.size + 1 = B2 at *; clear hb1; have n1 := Nat.ne_of_lt hlt; have n2 := Nat.ne_of_lt j2)
    | (have hq : Below w.heap.size w ((w.alloc (.cells #[.int .i64 j.a.x, .int .i64 j.a.y, .int .i64 j.a.z] 22)).alloc (.cells K.toArray T)).drew := hbW; have r1 := PB1.out; have r2 := PB2.out; generalize ((w.alloc (.cells #[.int .i64 j.a.x, .int .i64 j.a.y, .int .i64 j.a.z] 22)).alloc (.cells K.toArray T)).drew = W1 at *; have j2 : J < w.heap.size + 1 := Nat.lt_succ_of_lt hlt; generalize hb1 : w.heap.size + 1 = B2 at *; clear hb1; have n2 := Nat.ne_of_lt hlt; have n1 := Nat.ne_of_lt j2))
    have HJ1 := HJ.out.later hbW hlt
    have HQ := Lib.hid hbW
    clear hbW hq PA1 PA2 PB1 PB2
    have q_0 := r1.cell 0 _ k_0
    have q_20 := r1.cell 20 _ k_20
    have q_3 := r1.cell 3 _ k_3
    have q_4 := r1.cell 4 _ k_4
    have a_0 := r2.cell 0 _ rfl
    have a_1 := r2.cell 1 _ rfl
    have a_2 := r2.cell 2 _ rfl
    have l1 := r1.lt
    have l2 := r2.lt
    have l3 := RowAt.lt HJ1
    have HJ2 := Lib.hid HJ1
    have HR1 := Lib.hid r1
    have HR2 := Lib.hid r2
    clear r1 r2 HJ1 tT tU tV tA tS tZ tK RG PS HJ
    go_wp2_with (go_at_call 83; (with_reducible refine (CN.out _ HQ.out).mono ?_); rintro e w2 ⟨rfl, hb2⟩; have HB2 := Lib.hid (below_call HQ.out hb2); clear hb2)
    go_ret
    exact ⟨rfl, HB2.out⟩
end Go.Proofs.Ytmifojpmomdmeaa

namespace Go.Proofs.Ytmifojpmomdmeaa
open Go Go.RowKit
set_option linter.unusedVariables false

set_option maxRecDepth 100000 in
set_option maxHeartbeats 4000000 in
theorem jwt_2 (J : Nat) (j : Jg) (w : World) (C : List CnQ) (cc : Nat) (ca : Option Addr) (hcs : j.cs = .slice ca C.length cc) (hJ : JAt w J j) (hC : CnsIn w ca C cc) (h : j.n.op = 2) (hkk : (1 ≤ j.n.k0 ∧ j.n.k0 ≤ 8) ∧ (1 ≤ j.n.k1 ∧ j.n.k1 ≤ 8) ∧ 1 ≤ j.a.z ∧ j.a.z ≤ 64) (hch : 1 ≤ j.n.chans ∧ j.n.chans ≤ 64) :
    Calls Try.prog 60 #[.pointer (some ⟨J, 0, none⟩)] w fun e w' => e = .returned (.int .i64 (conQ C j.n.w (j.n.chans * (j.n.k0 * j.n.k1 * j.a.z)) (0))) ∧ Below w.heap.size w w' := by
  obtain ⟨T, Z, Z0, K, NL⟩ := node_letter j.n
  have hL := NL.load
  have hAl := NL.alloc
  have hSt := NL.store
  have tA := NL.agg
  have tS := NL.size
  have tZ := NL.zero
  have tK := NL.len
  have tT := NL.tT w
  have tU := NL.tU w
  have tV := NL.tV w
  have hlt := hJ.lt
  have RG := Lib.hid (jg_rg hJ NL)
  have k_0 : K[0]? = some (.int .i64 2) := by rw [NL.cells, ← h]; rfl
  have k_20 : K[20]? = some (.int .i64 j.n.w) := by rw [NL.cells]; rfl
  have k_22 : K[22]? = some (.int .i64 j.n.chans) := by rw [NL.cells]; rfl
  have k_3 : K[3]? = some (.int .i64 j.n.k0) := by rw [NL.cells]; rfl
  have k_4 : K[4]? = some (.int .i64 j.n.k1) := by rw [NL.cells]; rfl
  have c_28 := hJ.cell 28 _ rfl
  have c_29 := hJ.cell 29 _ rfl
  have c_30 := hJ.cell 30 _ rfl
  have PA1 := Lib.hid (row_1 w K T (.cells #[.int .i64 j.a.x, .int .i64 j.a.y, .int .i64 j.a.z] 22))
  have PA2 := Lib.hid (row_2 w (.cells K.toArray T) [.int .i64 j.a.x, .int .i64 j.a.y, .int .i64 j.a.z] 22)
  have PB2 := Lib.hid (row_1 w [.int .i64 j.a.x, .int .i64 j.a.y, .int .i64 j.a.z] 22 (.cells K.toArray T))
  have PB1 := Lib.hid (row_2 w (.cells #[.int .i64 j.a.x, .int .i64 j.a.y, .int .i64 j.a.z] 22) K T)
  have PS := Lib.hid (show ∀ w', Below w.heap.size w w' → (fun w' => (loadCellsFrom ⟨J, 0, none⟩ 0 Z #[]).run Try.prog w' = .ok K.toArray w' ∧ w'.cell? ⟨J, 28, none⟩ = some (.int .i64 j.a.x) ∧ w'.cell? ⟨J, 29, none⟩ = some (.int .i64 j.a.y) ∧ w'.cell? ⟨J, 30, none⟩ = some (.int .i64 j.a.z) ∧ Below w.heap.size w w') w' from fun w' hb => ⟨NL.read w' J (fun i v hv => (hb.cell (p := ⟨J, 0 + i, none⟩) hlt).trans (RG.out i v hv)), (hb.cell (p := ⟨J, 28, none⟩) hlt).trans c_28, (hb.cell (p := ⟨J, 29, none⟩) hlt).trans c_29, (hb.cell (p := ⟨J, 30, none⟩) hlt).trans c_30, hb⟩)
  have HJ := Lib.hid hJ
  obtain ⟨c, hc⟩ : ∃ c, c = conQ C j.n.w (j.n.chans * (j.n.k0 * j.n.k1 * j.a.z)) (0) := ⟨_, rfl⟩
  rw [← hc]
  have CN := Lib.hid (show ∀ W : World, Below w.heap.size w W → Calls Try.prog 83 #[.pointer (some ⟨J, 0, none⟩), .int .i64 j.n.w, .int .i64 (j.n.chans * (j.n.k0 * j.n.k1 * j.a.z)), .int .i64 (0)] W fun e w' => e = .returned (.int .i64 c) ∧ Below W.heap.size W w' from fun W hb => by rw [hc]; exact jconst J j W C cc ca hcs (hJ.later hb hJ.lt) (hC.later hb) _ _ _)
  clear hc
  have hk1 : 1 ≤ j.n.k0 * j.n.k1 ∧ j.n.k0 * j.n.k1 ≤ 64 := ⟨by have := Int.mul_le_mul (show (1 : Int) ≤ j.n.k0 by omega) (show (1 : Int) ≤ j.n.k1 by omega) (by omega) (by omega); omega, by have := Int.mul_le_mul (show j.n.k0 ≤ 8 by omega) (show j.n.k1 ≤ 8 by omega) (by omega) (by omega); omega⟩
  have hk2 : 1 ≤ j.n.k0 * j.n.k1 * j.a.z ∧ j.n.k0 * j.n.k1 * j.a.z ≤ 4096 := ⟨by have := Int.mul_le_mul (show (1 : Int) ≤ j.n.k0 * j.n.k1 by omega) (show (1 : Int) ≤ j.a.z by omega) (by omega) (by omega); omega, by have := Int.mul_le_mul (show j.n.k0 * j.n.k1 ≤ 64 by omega) (show j.a.z ≤ 64 by omega) (by omega) (by omega); omega⟩
  have hw1 : IntKind.i64.wrap (j.n.k0 * j.n.k1) = j.n.k0 * j.n.k1 := IntWalk.i64_in _ (by omega)
  have hw2 : IntKind.i64.wrap (j.n.k0 * j.n.k1 * j.a.z) = j.n.k0 * j.n.k1 * j.a.z := IntWalk.i64_in _ (by omega)
  have hk3 : 1 ≤ j.n.chans * (j.n.k0 * j.n.k1 * j.a.z) ∧ j.n.chans * (j.n.k0 * j.n.k1 * j.a.z) ≤ 262144 := ⟨by have := Int.mul_le_mul (show (1 : Int) ≤ j.n.chans by omega) (show (1 : Int) ≤ j.n.k0 * j.n.k1 * j.a.z by omega) (by omega) (by omega); omega, by have := Int.mul_le_mul (show j.n.chans ≤ 64 by omega) (show j.n.k0 * j.n.k1 * j.a.z ≤ 4096 by omega) (by omega) (by omega); omega⟩
  have hw3 : IntKind.i64.wrap (j.n.chans * (j.n.k0 * j.n.k1 * j.a.z)) = j.n.chans * (j.n.k0 * j.n.k1 * j.a.z) := IntWalk.i64_in _ (by omega)
  clear hk3
  clear hk1 hk2 hkk hch
  clear hJ hC hcs h
  go_enter Try.func60, Try.ntmps60
  simp only [hL, hAl, hSt]
  clear hL hAl hSt NL
  go_wp2_with fail
  go_region_held3 (fun w' => (loadCellsFrom ⟨J, 0, none⟩ 0 Z #[]).run Try.prog w' = .ok K.toArray w' ∧ w'.cell? ⟨J, 28, none⟩ = some (.int .i64 j.a.x) ∧ w'.cell? ⟨J, 29, none⟩ = some (.int .i64 j.a.y) ∧ w'.cell? ⟨J, 30, none⟩ = some (.int .i64 j.a.z) ∧ Below w.heap.size w w')
    (first | (with_reducible assumption) | (refine PS.out _ ?_; first | (with_reducible exact Below.refl _ _) | (with_reducible exact (Below.refl _ _).drew) | go_grown))
    (first | fail)
  all_goals
    rename_i hH
    obtain ⟨_, _, _, _, hbW⟩ := hH
    (first
    | (have hq : Below w.heap.size w ((w.alloc (.cells K.toArray T)).alloc (.cells #[.int .i64 j.a.x, .int .i64 j.a.y, .int .i64 j.a.z] 22)).drew := hbW; have r1 := PA1.out; have r2 := PA2.out; generalize ((w.alloc (.cells K.toArray T)).alloc (.cells #[.int .i64 j.a.x, .int .i64 j.a.y, .int .i64 j.a.z] 22)).drew = W1 at *; have j2 : J < w.heap.size + 1 := Nat.lt_succ_of_lt hlt; generalize hb1 : w.heap.size + 1 = B2 at *; clear hb1; have n1 := Nat.ne_of_lt hlt; have n2 := Nat.ne_of_lt j2)
    | (have hq : Below w.heap.size w ((w.alloc (.cells #[.int .i64 j.a.x, .int .i64 j.a.y, .int .i64 j.a.z] 22)).alloc (.cells K.toArray T)).drew := hbW; have r1 := PB1.out; have r2 := PB2.out; generalize ((w.alloc (.cells #[.int .i64 j.a.x, .int .i64 j.a.y, .int .i64 j.a.z] 22)).alloc (.cells K.toArray T)).drew = W1 at *; have j2 : J < w.heap.size + 1 := Nat.lt_succ_of_lt hlt; generalize hb1 : w.heap.size + 1 = B2 at *; clear hb1; have n2 := Nat.ne_of_lt hlt; have n1 := Nat.ne_of_lt j2))
    have HJ1 := HJ.out.later hbW hlt
    have HQ := Lib.hid hbW
    clear hbW hq PA1 PA2 PB1 PB2
    have q_0 := r1.cell 0 _ k_0
    have q_20 := r1.cell 20 _ k_20
    have q_22 := r1.cell 22 _ k_22
    have q_3 := r1.cell 3 _ k_3
    have q_4 := r1.cell 4 _ k_4
    have a_0 := r2.cell 0 _ rfl
    have a_1 := r2.cell 1 _ rfl
    have a_2 := r2.cell 2 _ rfl
    have l1 := r1.lt
    have l2 := r2.lt
    have l3 := RowAt.lt HJ1
    have HJ2 := Lib.hid HJ1
    have HR1 := Lib.hid r1
    have HR2 := Lib.hid r2
    clear r1 r2 HJ1 tT tU tV tA tS tZ tK RG PS HJ
    go_wp2_with (go_at_call 83; (with_reducible refine (CN.out _ HQ.out).mono ?_); rintro e w2 ⟨rfl, hb2⟩; have HB2 := Lib.hid (below_call HQ.out hb2); clear hb2)
    go_ret
    exact ⟨rfl, HB2.out⟩
set_option maxHeartbeats 2000000 in
theorem jbias_no (J : Nat) (j : Jg) (w : World) (hJ : JAt w J j) (hj : JOk j) (h : hI j.n.op = false) :
    Calls Try.prog 61 #[.pointer (some ⟨J, 0, none⟩)] w fun e w' => e = .returned (.int .i64 0) ∧ w' = w := by
  have hb : bits .and .i64 j.h 2048 = 0 := by rw [hj.has]; exact (bit_12 hj.op).2 h
  have c_26 := hJ.cell 26 _ rfl
  clear hJ hj h
  go_enter Try.func61, Try.ntmps61
  go_wp2_with fail
  go_ret
  exact ⟨rfl, rfl⟩
set_option maxHeartbeats 2000000 in
theorem jbias_yes (J : Nat) (j : Jg) (w : World) (C : List CnQ) (cc : Nat) (ca : Option Addr) (hcs : j.cs = .slice ca C.length cc) (hJ : JAt w J j) (hC : CnsIn w ca C cc) (hj : JOk j) (h : hI j.n.op = true) :
    Calls Try.prog 61 #[.pointer (some ⟨J, 0, none⟩)] w fun e w' => e = .returned (.int .i64 (conQ C j.n.bias 0 j.o.z)) ∧ Below w.heap.size w w' := by
  have hb : ¬ bits .and .i64 j.h 2048 = 0 := by rw [hj.has]; intro e; rw [(bit_12 hj.op).1 e] at h; cases h
  have c_26 := hJ.cell 26 _ rfl
  have c_21 := hJ.cell 21 _ rfl
  have c_36 := hJ.cell 36 _ rfl
  have hlt := hJ.lt
  obtain ⟨c, hc⟩ : ∃ c, c = conQ C j.n.bias 0 j.o.z := ⟨_, rfl⟩
  rw [← hc]
  have CN := Lib.hid (show ∀ W : World, Below w.heap.size w W → Calls Try.prog 83 #[.pointer (some ⟨J, 0, none⟩), .int .i64 j.n.bias, .int .i64 0, .int .i64 j.o.z] W fun e w' => e = .returned (.int .i64 c) ∧ Below W.heap.size W w' from fun W hb => by rw [hc]; exact jconst J j W C cc ca hcs (hJ.later hb hJ.lt) (hC.later hb) _ _ _)
  have PS := Lib.hid (show ∀ w', Below w.heap.size w w' → (fun w' => w'.cell? ⟨J, 21, none⟩ = some (.int .i64 j.n.bias) ∧ w'.cell? ⟨J, 36, none⟩ = some (.int .i64 j.o.z) ∧ Below w.heap.size w w') w' from fun w' hb => ⟨(hb.cell (p := ⟨J, 21, none⟩) hlt).trans c_21, (hb.cell (p := ⟨J, 36, none⟩) hlt).trans c_36, hb⟩)
  clear hJ hj h hc hC hcs
  go_enter Try.func61, Try.ntmps61
  go_wp2_with fail
  go_region_held3 (fun w' => w'.cell? ⟨J, 21, none⟩ = some (.int .i64 j.n.bias) ∧ w'.cell? ⟨J, 36, none⟩ = some (.int .i64 j.o.z) ∧ Below w.heap.size w w')
    (first | (with_reducible assumption) | (refine PS.out _ ?_; first | (with_reducible exact Below.refl _ _) | (with_reducible exact (Below.refl _ _).drew) | (with_reducible exact hB3)))
    (first
    | (go_at_call 83; (first | (with_reducible refine (CN.out _ (Below.refl _ _)).mono ?_) | (with_reducible refine (CN.out _ (Below.refl _ _).drew).mono ?_)); rintro e w3 ⟨rfl, hb3⟩; (first | (have hB3 := below_call (Below.refl w.heap.size w) hb3) | (have hB3 := below_call (Below.refl w.heap.size w).drew hb3))))
  all_goals
    have HB3 := Lib.hid hB3
    clear hB3 hb3
    go_wp2_with fail
    go_ret
    exact ⟨rfl, HB3.out⟩
end Go.Proofs.Ytmifojpmomdmeaa

namespace Go.Proofs.Ytmifojpmomdmeaa
open Go Go.RowKit
set_option linter.unusedVariables false

set_option maxRecDepth 100000 in
set_option maxHeartbeats 4000000 in
theorem jwt_1 (J : Nat) (j : Jg) (w : World) (C : List CnQ) (cc : Nat) (ca : Option Addr) (hcs : j.cs = .slice ca C.length cc) (hJ : JAt w J j) (hC : CnsIn w ca C cc) (h : j.n.op = 1) :
    Calls Try.prog 60 #[.pointer (some ⟨J, 0, none⟩)] w fun e w' => e = .returned (.int .i64 (conQ C j.n.w (sizeG j.n.sh) (0))) ∧ Below w.heap.size w w' := by
  obtain ⟨T, Z, Z0, K, NL⟩ := node_letter j.n
  have hL := NL.load
  have hAl := NL.alloc
  have hSt := NL.store
  have tA := NL.agg
  have tS := NL.size
  have tZ := NL.zero
  have tK := NL.len
  have tT := NL.tT w
  have tU := NL.tU w
  have tV := NL.tV w
  have hlt := hJ.lt
  have RG := Lib.hid (jg_rg hJ NL)
  have k_0 : K[0]? = some (.int .i64 1) := by rw [NL.cells, ← h]; rfl
  have k_20 : K[20]? = some (.int .i64 j.n.w) := by rw [NL.cells]; rfl
  have k_23 : K[23]? = some (.int .i64 j.n.h0) := by rw [NL.cells]; rfl
  have k_24 : K[24]? = some (.int .i64 j.n.h1) := by rw [NL.cells]; rfl
  have k_25 : K[25]? = some (.int .i64 j.n.h2) := by rw [NL.cells]; rfl
  have k_3 : K[3]? = some (.int .i64 j.n.k0) := by rw [NL.cells]; rfl
  have k_4 : K[4]? = some (.int .i64 j.n.k1) := by rw [NL.cells]; rfl
  have c_28 := hJ.cell 28 _ rfl
  have c_29 := hJ.cell 29 _ rfl
  have c_30 := hJ.cell 30 _ rfl
  have PA1 := Lib.hid (row_1 w K T (.cells #[.int .i64 j.a.x, .int .i64 j.a.y, .int .i64 j.a.z] 22))
  have PA2 := Lib.hid (row_2 w (.cells K.toArray T) [.int .i64 j.a.x, .int .i64 j.a.y, .int .i64 j.a.z] 22)
  have PB2 := Lib.hid (row_1 w [.int .i64 j.a.x, .int .i64 j.a.y, .int .i64 j.a.z] 22 (.cells K.toArray T))
  have PB1 := Lib.hid (row_2 w (.cells #[.int .i64 j.a.x, .int .i64 j.a.y, .int .i64 j.a.z] 22) K T)
  have PS := Lib.hid (show ∀ w', Below w.heap.size w w' → (fun w' => (loadCellsFrom ⟨J, 0, none⟩ 0 Z #[]).run Try.prog w' = .ok K.toArray w' ∧ w'.cell? ⟨J, 28, none⟩ = some (.int .i64 j.a.x) ∧ w'.cell? ⟨J, 29, none⟩ = some (.int .i64 j.a.y) ∧ w'.cell? ⟨J, 30, none⟩ = some (.int .i64 j.a.z) ∧ Below w.heap.size w w') w' from fun w' hb => ⟨NL.read w' J (fun i v hv => (hb.cell (p := ⟨J, 0 + i, none⟩) hlt).trans (RG.out i v hv)), (hb.cell (p := ⟨J, 28, none⟩) hlt).trans c_28, (hb.cell (p := ⟨J, 29, none⟩) hlt).trans c_29, (hb.cell (p := ⟨J, 30, none⟩) hlt).trans c_30, hb⟩)
  have HJ := Lib.hid hJ
  obtain ⟨c, hc⟩ : ∃ c, c = conQ C j.n.w (sizeG j.n.sh) (0) := ⟨_, rfl⟩
  rw [← hc]
  have CN := Lib.hid (show ∀ W : World, Below w.heap.size w W → Calls Try.prog 83 #[.pointer (some ⟨J, 0, none⟩), .int .i64 j.n.w, .int .i64 (sizeG j.n.sh), .int .i64 (0)] W fun e w' => e = .returned (.int .i64 c) ∧ Below W.heap.size W w' from fun W hb => by rw [hc]; exact jconst J j W C cc ca hcs (hJ.later hb hJ.lt) (hC.later hb) _ _ _)
  clear hc
  have SN := Lib.hid (fun W => size_n j.n W)
  obtain ⟨sz, hsz⟩ : ∃ s, s = sizeG j.n.sh := ⟨_, rfl⟩
  rw [← hsz] at SN CN
  clear hsz
  clear hJ hC hcs h
  go_enter Try.func60, Try.ntmps60
  simp only [hL, hAl, hSt]
  clear hL hAl hSt NL
  go_wp2_with fail
  go_region_held3 (fun w' => (loadCellsFrom ⟨J, 0, none⟩ 0 Z #[]).run Try.prog w' = .ok K.toArray w' ∧ w'.cell? ⟨J, 28, none⟩ = some (.int .i64 j.a.x) ∧ w'.cell? ⟨J, 29, none⟩ = some (.int .i64 j.a.y) ∧ w'.cell? ⟨J, 30, none⟩ = some (.int .i64 j.a.z) ∧ Below w.heap.size w w')
    (first | (with_reducible assumption) | (refine PS.out _ ?_; first | (with_reducible exact Below.refl _ _) | (with_reducible exact (Below.refl _ _).drew) | go_grown))
    (first | fail)
  all_goals
    rename_i hH
    obtain ⟨_, _, _, _, hbW⟩ := hH
    (first
    | (have hq : Below w.heap.size w ((w.alloc (.cells K.toArray T)).alloc (.cells #[.int .i64 j.a.x, .int .i64 j.a.y, .int .i64 j.a.z] 22)).drew := hbW; have r1 := PA1.out; have r2 := PA2.out; generalize ((w.alloc (.cells K.toArray T)).alloc (.cells #[.int .i64 j.a.x, .int .i64 j.a.y, .int .i64 j.a.z] 22)).drew = W1 at *; have j2 : J < w.heap.size + 1 := Nat.lt_succ_of_lt hlt; generalize hb1 : w.heap.size + 1 = B2 at *; clear hb1; have n1 := Nat.ne_of_lt hlt; have n2 := Nat.ne_of_lt j2; generalize w.heap.size = B1 at r1 n1 ⊢)
    | (have hq : Below w.heap.size w ((w.alloc (.cells #[.int .i64 j.a.x, .int .i64 j.a.y, .int .i64 j.a.z] 22)).alloc (.cells K.toArray T)).drew := hbW; have r1 := PB1.out; have r2 := PB2.out; generalize ((w.alloc (.cells #[.int .i64 j.a.x, .int .i64 j.a.y, .int .i64 j.a.z] 22)).alloc (.cells K.toArray T)).drew = W1 at *; have j2 : J < w.heap.size + 1 := Nat.lt_succ_of_lt hlt; generalize hb1 : w.heap.size + 1 = B1 at *; clear hb1; have n2 := Nat.ne_of_lt hlt; have n1 := Nat.ne_of_lt j2; generalize w.heap.size = B2 at r2 n2 ⊢))
    have HJ1 := HJ.out.later hbW hlt
    have HQ := Lib.hid hbW
    clear hbW hq PA1 PA2 PB1 PB2
    have q_0 := r1.cell 0 _ k_0
    have q_20 := r1.cell 20 _ k_20
    have q_23 := r1.cell 23 _ k_23
    have q_24 := r1.cell 24 _ k_24
    have q_25 := r1.cell 25 _ k_25
    have q_3 := r1.cell 3 _ k_3
    have q_4 := r1.cell 4 _ k_4
    have a_0 := r2.cell 0 _ rfl
    have a_1 := r2.cell 1 _ rfl
    have a_2 := r2.cell 2 _ rfl
    have l1 := r1.lt
    have l2 := r2.lt
    have l3 := RowAt.lt HJ1
    have HJ2 := Lib.hid HJ1
    have HR1 := Lib.hid r1
    have HR2 := Lib.hid r2
    clear r1 r2 HJ1 tT tU tV tA tS tZ tK RG PS HJ
    go_wp2_with fail
    have PT : RowKit.Hid (∀ w', Below W1.heap.size W1 w' → (fun w' => w'.cell? ⟨B1, 20, none⟩ = some (.int .i64 j.n.w) ∧ w'.cell? ⟨B1, 23, none⟩ = some (.int .i64 j.n.h0) ∧ w'.cell? ⟨B1, 24, none⟩ = some (.int .i64 j.n.h1) ∧ w'.cell? ⟨B1, 25, none⟩ = some (.int .i64 j.n.h2) ∧ Below W1.heap.size W1 w') w') := Lib.hid (fun w' hb => ⟨(hb.cell (p := ⟨B1, 20, none⟩) l1).trans q_20, (hb.cell (p := ⟨B1, 23, none⟩) l1).trans q_23, (hb.cell (p := ⟨B1, 24, none⟩) l1).trans q_24, (hb.cell (p := ⟨B1, 25, none⟩) l1).trans q_25, hb⟩)
    go_region_held3 (fun w' => w'.cell? ⟨B1, 20, none⟩ = some (.int .i64 j.n.w) ∧ w'.cell? ⟨B1, 23, none⟩ = some (.int .i64 j.n.h0) ∧ w'.cell? ⟨B1, 24, none⟩ = some (.int .i64 j.n.h1) ∧ w'.cell? ⟨B1, 25, none⟩ = some (.int .i64 j.n.h2) ∧ Below W1.heap.size W1 w')
        (first | (with_reducible assumption) | (refine PT.out _ ?_; first | (with_reducible exact Below.refl _ _) | (with_reducible exact (Below.refl _ _).drew) | (with_reducible exact hB4) | (with_reducible exact hB3)))
        (first
        | (go_at_call 20; (with_reducible refine (SN.out _).mono ?_); rintro e w3 ⟨rfl, hb3⟩; (first | (have hB3 := below_call (Below.refl W1.heap.size W1) hb3) | (have hB3 := below_call (Below.refl W1.heap.size W1).drew hb3)))
        | (go_at_call 83; (with_reducible refine (CN.out _ (below_call HQ.out hB3)).mono ?_); rintro e w4 ⟨rfl, hb4⟩; (first | (have hB4 := below_call hB3 hb4) | (have hB4 := below_call hB3.drew hb4))))
    all_goals
      have HB4 := Lib.hid (below_call HQ.out hB4)
      clear hB3 hB4 hb3 hb4
      go_wp2_with fail
      go_ret
      exact ⟨rfl, HB4.out⟩
end Go.Proofs.Ytmifojpmomdmeaa

namespace Go.Proofs.Ytmifojpmomdmeaa
open Go Go.RowKit
set_option linter.unusedVariables false

set_option maxRecDepth 100000 in
set_option maxHeartbeats 4000000 in
theorem jwt_4 (J : Nat) (j : Jg) (w : World) (C : List CnQ) (cc : Nat) (ca : Option Addr) (hcs : j.cs = .slice ca C.length cc) (hJ : JAt w J j) (hC : CnsIn w ca C cc) (h : j.n.op = 4) (ha : j.a.good = true) (hch : 1 ≤ j.n.chans ∧ j.n.chans ≤ 64) :
    Calls Try.prog 60 #[.pointer (some ⟨J, 0, none⟩)] w fun e w' => e = .returned (.int .i64 (conQ C j.n.w (j.n.chans * sizeG j.a) (0))) ∧ Below w.heap.size w w' := by
  obtain ⟨T, Z, Z0, K, NL⟩ := node_letter j.n
  have hL := NL.load
  have hAl := NL.alloc
  have hSt := NL.store
  have tA := NL.agg
  have tS := NL.size
  have tZ := NL.zero
  have tK := NL.len
  have tT := NL.tT w
  have tU := NL.tU w
  have tV := NL.tV w
  have hlt := hJ.lt
  have RG := Lib.hid (jg_rg hJ NL)
  have k_0 : K[0]? = some (.int .i64 4) := by rw [NL.cells, ← h]; rfl
  have k_20 : K[20]? = some (.int .i64 j.n.w) := by rw [NL.cells]; rfl
  have k_22 : K[22]? = some (.int .i64 j.n.chans) := by rw [NL.cells]; rfl
  have k_3 : K[3]? = some (.int .i64 j.n.k0) := by rw [NL.cells]; rfl
  have k_4 : K[4]? = some (.int .i64 j.n.k1) := by rw [NL.cells]; rfl
  have c_28 := hJ.cell 28 _ rfl
  have c_29 := hJ.cell 29 _ rfl
  have c_30 := hJ.cell 30 _ rfl
  have PA1 := Lib.hid (row_1 w K T (.cells #[.int .i64 j.a.x, .int .i64 j.a.y, .int .i64 j.a.z] 22))
  have PA2 := Lib.hid (row_2 w (.cells K.toArray T) [.int .i64 j.a.x, .int .i64 j.a.y, .int .i64 j.a.z] 22)
  have PB2 := Lib.hid (row_1 w [.int .i64 j.a.x, .int .i64 j.a.y, .int .i64 j.a.z] 22 (.cells K.toArray T))
  have PB1 := Lib.hid (row_2 w (.cells #[.int .i64 j.a.x, .int .i64 j.a.y, .int .i64 j.a.z] 22) K T)
  have PS := Lib.hid (show ∀ w', Below w.heap.size w w' → (fun w' => (loadCellsFrom ⟨J, 0, none⟩ 0 Z #[]).run Try.prog w' = .ok K.toArray w' ∧ w'.cell? ⟨J, 28, none⟩ = some (.int .i64 j.a.x) ∧ w'.cell? ⟨J, 29, none⟩ = some (.int .i64 j.a.y) ∧ w'.cell? ⟨J, 30, none⟩ = some (.int .i64 j.a.z) ∧ Below w.heap.size w w') w' from fun w' hb => ⟨NL.read w' J (fun i v hv => (hb.cell (p := ⟨J, 0 + i, none⟩) hlt).trans (RG.out i v hv)), (hb.cell (p := ⟨J, 28, none⟩) hlt).trans c_28, (hb.cell (p := ⟨J, 29, none⟩) hlt).trans c_29, (hb.cell (p := ⟨J, 30, none⟩) hlt).trans c_30, hb⟩)
  have HJ := Lib.hid hJ
  obtain ⟨c, hc⟩ : ∃ c, c = conQ C j.n.w (j.n.chans * sizeG j.a) (0) := ⟨_, rfl⟩
  rw [← hc]
  have CN := Lib.hid (show ∀ W : World, Below w.heap.size w W → Calls Try.prog 83 #[.pointer (some ⟨J, 0, none⟩), .int .i64 j.n.w, .int .i64 (j.n.chans * sizeG j.a), .int .i64 (0)] W fun e w' => e = .returned (.int .i64 c) ∧ Below W.heap.size W w' from fun W hb => by rw [hc]; exact jconst J j W C cc ca hcs (hJ.later hb hJ.lt) (hC.later hb) _ _ _)
  clear hc
  have SN := Lib.hid (fun W => size_sh j.a W)
  obtain ⟨sz, hsz⟩ : ∃ s, s = sizeG j.a := ⟨_, rfl⟩
  have hm : IntKind.i64.wrap (j.n.chans * sz) = j.n.chans * sz := by
    rw [hsz, size_good ha]
    have g := of_decide_eq_true ha
    have : 0 ≤ j.a.size ∧ j.a.size ≤ 16384 := ⟨by unfold Sh.size; exact Int.mul_nonneg (Int.mul_nonneg (by omega) (by omega)) (by omega), g.2.2.2.2.2.2⟩
    have h1 : 0 ≤ j.n.chans * j.a.size := Int.mul_nonneg (by omega) this.1
    have h2 : j.n.chans * j.a.size ≤ 64 * 16384 := Int.mul_le_mul hch.2 this.2 this.1 (by omega)
    exact IntWalk.i64_in _ (by omega)
  rw [← hsz] at SN CN
  clear hsz
  clear hJ hC hcs h
  go_enter Try.func60, Try.ntmps60
  simp only [hL, hAl, hSt]
  clear hL hAl hSt NL
  go_wp2_with fail
  go_region_held3 (fun w' => (loadCellsFrom ⟨J, 0, none⟩ 0 Z #[]).run Try.prog w' = .ok K.toArray w' ∧ w'.cell? ⟨J, 28, none⟩ = some (.int .i64 j.a.x) ∧ w'.cell? ⟨J, 29, none⟩ = some (.int .i64 j.a.y) ∧ w'.cell? ⟨J, 30, none⟩ = some (.int .i64 j.a.z) ∧ Below w.heap.size w w')
    (first | (with_reducible assumption) | (refine PS.out _ ?_; first | (with_reducible exact Below.refl _ _) | (with_reducible exact (Below.refl _ _).drew) | go_grown))
    (first | fail)
  all_goals
    rename_i hH
    obtain ⟨_, _, _, _, hbW⟩ := hH
    (first
    | (have hq : Below w.heap.size w ((w.alloc (.cells K.toArray T)).alloc (.cells #[.int .i64 j.a.x, .int .i64 j.a.y, .int .i64 j.a.z] 22)).drew := hbW; have r1 := PA1.out; have r2 := PA2.out; generalize ((w.alloc (.cells K.toArray T)).alloc (.cells #[.int .i64 j.a.x, .int .i64 j.a.y, .int .i64 j.a.z] 22)).drew = W1 at *; have j2 : J < w.heap.size + 1 := Nat.lt_succ_of_lt hlt; generalize hb1 : w.heap.size + 1 = B2 at *; clear hb1; have n1 := Nat.ne_of_lt hlt; have n2 := Nat.ne_of_lt j2; generalize w.heap.size = B1 at r1 n1 ⊢)
    | (have hq : Below w.heap.size w ((w.alloc (.cells #[.int .i64 j.a.x, .int .i64 j.a.y, .int .i64 j.a.z] 22)).alloc (.cells K.toArray T)).drew := hbW; have r1 := PB1.out; have r2 := PB2.out; generalize ((w.alloc (.cells #[.int .i64 j.a.x, .int .i64 j.a.y, .int .i64 j.a.z] 22)).alloc (.cells K.toArray T)).drew = W1 at *; have j2 : J < w.heap.size + 1 := Nat.lt_succ_of_lt hlt; generalize hb1 : w.heap.size + 1 = B1 at *; clear hb1; have n2 := Nat.ne_of_lt hlt; have n1 := Nat.ne_of_lt j2; generalize w.heap.size = B2 at r2 n2 ⊢))
    have HJ1 := HJ.out.later hbW hlt
    have HQ := Lib.hid hbW
    clear hbW hq PA1 PA2 PB1 PB2
    have q_0 := r1.cell 0 _ k_0
    have q_20 := r1.cell 20 _ k_20
    have q_22 := r1.cell 22 _ k_22
    have q_3 := r1.cell 3 _ k_3
    have q_4 := r1.cell 4 _ k_4
    have a_0 := r2.cell 0 _ rfl
    have a_1 := r2.cell 1 _ rfl
    have a_2 := r2.cell 2 _ rfl
    have l1 := r1.lt
    have l2 := r2.lt
    have l3 := RowAt.lt HJ1
    have HJ2 := Lib.hid HJ1
    have HR1 := Lib.hid r1
    have HR2 := Lib.hid r2
    clear r1 r2 HJ1 tT tU tV tA tS tZ tK RG PS HJ
    go_wp2_with fail
    have PT : RowKit.Hid (∀ w', Below W1.heap.size W1 w' → (fun w' => w'.cell? ⟨B1, 20, none⟩ = some (.int .i64 j.n.w) ∧ w'.cell? ⟨B1, 22, none⟩ = some (.int .i64 j.n.chans) ∧ w'.cell? ⟨B2, 0, none⟩ = some (.int .i64 j.a.x) ∧ w'.cell? ⟨B2, 1, none⟩ = some (.int .i64 j.a.y) ∧ w'.cell? ⟨B2, 2, none⟩ = some (.int .i64 j.a.z) ∧ Below W1.heap.size W1 w') w') := Lib.hid (fun w' hb => ⟨(hb.cell (p := ⟨B1, 20, none⟩) l1).trans q_20, (hb.cell (p := ⟨B1, 22, none⟩) l1).trans q_22, (hb.cell (p := ⟨B2, 0, none⟩) l2).trans a_0, (hb.cell (p := ⟨B2, 1, none⟩) l2).trans a_1, (hb.cell (p := ⟨B2, 2, none⟩) l2).trans a_2, hb⟩)
    go_region_held3 (fun w' => w'.cell? ⟨B1, 20, none⟩ = some (.int .i64 j.n.w) ∧ w'.cell? ⟨B1, 22, none⟩ = some (.int .i64 j.n.chans) ∧ w'.cell? ⟨B2, 0, none⟩ = some (.int .i64 j.a.x) ∧ w'.cell? ⟨B2, 1, none⟩ = some (.int .i64 j.a.y) ∧ w'.cell? ⟨B2, 2, none⟩ = some (.int .i64 j.a.z) ∧ Below W1.heap.size W1 w')
        (first | (with_reducible assumption) | (refine PT.out _ ?_; first | (with_reducible exact Below.refl _ _) | (with_reducible exact (Below.refl _ _).drew) | (with_reducible exact hB4) | (with_reducible exact hB3)))
        (first
        | (go_at_call 20; (with_reducible refine (SN.out _).mono ?_); rintro e w3 ⟨rfl, hb3⟩; (first | (have hB3 := below_call (Below.refl W1.heap.size W1) hb3) | (have hB3 := below_call (Below.refl W1.heap.size W1).drew hb3)))
        | (go_at_call 83; (with_reducible refine (CN.out _ (below_call HQ.out hB3)).mono ?_); rintro e w4 ⟨rfl, hb4⟩; (first | (have hB4 := below_call hB3 hb4) | (have hB4 := below_call hB3.drew hb4))))
    all_goals
      have HB4 := Lib.hid (below_call HQ.out hB4)
      clear hB3 hB4 hb3 hb4
      go_wp2_with fail
      go_ret
      exact ⟨rfl, HB4.out⟩
end Go.Proofs.Ytmifojpmomdmeaa
