/- Package infer: bare. -/
import Derived.Test.YtmifojpmomdmeaaGA
import Derived.Test.YtmifojpmomdmeaaNdOne
import Derived.Deep.MidRow
namespace Go.Proofs.Ytmifojpmomdmeaa
open Go Go.RowKit
set_option linter.unusedVariables false

theorem ndAt_new (w : World) (k : Nd) (t : TypeId) : NdAt (w.alloc (.cells k.cells.toArray t)) w.heap.size k := by
  refine ⟨by simp, fun j => ?_, fun j u hu => ?_⟩
  · rw [frozen?_alloc_cells]; simp [World.frozen?]
  · rw [World.cell?_alloc_new]; simpa using hu
set_option maxRecDepth 100000 in
set_option maxHeartbeats 4000000 in
theorem bare_any (n : Nd) (h14 : 1 ≤ n.op ∧ n.op ≤ 14) (w : World) : Calls Try.prog 54 #[.agg n.cells.toArray] w fun e w' => e = .returned (.agg (bareN n).cells.toArray) ∧ Below w.heap.size w w' := by
  have HA := Lib.hid (fun W => has_any n.op h14 W)
  obtain ⟨h, hh⟩ : ∃ h, h = hasV n.op := ⟨_, rfl⟩
  obtain ⟨n0, hn0⟩ : ∃ n0, n0 = bareN n := ⟨_, rfl⟩
  rw [← hn0]
  have HH : RowKit.Hid (n0 = (keep14 h n (keep13 h n (keep12 h n (keep11 h n (keep10 h n (keep9 h n (keep8 h n (keep7 h n (keep6 h n (keep5 h n (keep4 h n (keep3 h n (keep2 h n (keep1 h n (bare0 n)))))))))))))))) := Lib.hid (by rw [hh, hn0]; rfl)
  rw [← hh] at HA
  clear hh hn0
  have e0 : n.cells.toArray[0]? = some (.int .i64 n.op) := rfl
  go_enter Try.func54, Try.ntmps54
  go_wp2_with fail
  refine (HA.out _).mono ?_
  rintro e w1 ⟨rfl, rfl⟩
  have N0 := ndAt_new w n 47
  have R0 := RowAt.new (w.alloc (.cells n.cells.toArray 47)) [.int .i64 0, .int .i64 0, .int .i64 0, .int .i64 0, .int .i64 0, .int .i64 0, .int .i64 0, .int .i64 0, .int .i64 0, .int .i64 0, .int .i64 0, .int .i64 0, .int .i64 0, .int .i64 0, .int .i32 0, .int .i32 0, .int .i64 0, .int .i64 0, .int .i64 0, .int .i64 0, .int .i64 0, .int .i64 0, .int .i64 0, .int .i64 0, .int .i64 0, .int .i64 0] 47
  rw [show (w.alloc (.cells n.cells.toArray 47)).heap.size = w.heap.size + 1 by simp] at R0
  have B0 := ((Below.refl w.heap.size w).alloc (Nat.le_refl _) (.cells n.cells.toArray 47)).alloc (by simp) (.cells #[.int .i64 0, .int .i64 0, .int .i64 0, .int .i64 0, .int .i64 0, .int .i64 0, .int .i64 0, .int .i64 0, .int .i64 0, .int .i64 0, .int .i64 0, .int .i64 0, .int .i64 0, .int .i64 0, .int .i32 0, .int .i32 0, .int .i64 0, .int .i64 0, .int .i64 0, .int .i64 0, .int .i64 0, .int .i64 0, .int .i64 0, .int .i64 0, .int .i64 0, .int .i64 0] 47)
  have G1 := Lib.hid (World.grownBy_alloc (w.alloc (.cells n.cells.toArray 47)) (.cells #[.int .i64 0, .int .i64 0, .int .i64 0, .int .i64 0, .int .i64 0, .int .i64 0, .int .i64 0, .int .i64 0, .int .i64 0, .int .i64 0, .int .i64 0, .int .i64 0, .int .i64 0, .int .i64 0, .int .i32 0, .int .i32 0, .int .i64 0, .int .i64 0, .int .i64 0, .int .i64 0, .int .i64 0, .int .i64 0, .int .i64 0, .int .i64 0, .int .i64 0, .int .i64 0] 47) none)
  have N1 := N0.far G1.out (by simp)
  have hs1 : ((w.alloc (.cells n.cells.toArray 47)).alloc (.cells #[.int .i64 0, .int .i64 0, .int .i64 0, .int .i64 0, .int .i64 0, .int .i64 0, .int .i64 0, .int .i64 0, .int .i64 0, .int .i64 0, .int .i64 0, .int .i64 0, .int .i64 0, .int .i64 0, .int .i32 0, .int .i32 0, .int .i64 0, .int .i64 0, .int .i64 0, .int .i64 0, .int .i64 0, .int .i64 0, .int .i64 0, .int .i64 0, .int .i64 0, .int .i64 0] 47)).heap.size = w.heap.size + 1 + 1 := by simp
  generalize (w.alloc (.cells n.cells.toArray 47)).alloc (.cells #[.int .i64 0, .int .i64 0, .int .i64 0, .int .i64 0, .int .i64 0, .int .i64 0, .int .i64 0, .int .i64 0, .int .i64 0, .int .i64 0, .int .i64 0, .int .i64 0, .int .i64 0, .int .i64 0, .int .i32 0, .int .i32 0, .int .i64 0, .int .i64 0, .int .i64 0, .int .i64 0, .int .i64 0, .int .i64 0, .int .i64 0, .int .i64 0, .int .i64 0, .int .i64 0] 47) = w1 at *
  have cn := N1.cell 0 _ rfl
  have NN := Lib.hid N1
  have RR := Lib.hid R0
  have BB := Lib.hid B0
  clear N0 N1 e0 R0 B0
  generalize hNN : w.heap.size = N at *
  have HNN := Lib.hid hNN
  clear hNN
  have hs2 : (w1.alloc (.cells #[.int .i64 h] 3)).heap.size = N + 1 + 1 + 1 := by simp; omega
  have S0 := run_storeCells_new (P := Try.prog) (w1.alloc (.cells #[.int .i64 h] 3)) 47 #[.int .i64 0, .int .i64 0, .int .i64 0, .int .i64 0, .int .i64 0, .int .i64 0, .int .i64 0, .int .i64 0, .int .i64 0, .int .i64 0, .int .i64 0, .int .i64 0, .int .i64 0, .int .i64 0, .int .i32 0, .int .i32 0, .int .i64 0, .int .i64 0, .int .i64 0, .int .i64 0, .int .i64 0, .int .i64 0, .int .i64 0, .int .i64 0, .int .i64 0, .int .i64 0] #[.int .i64 n.op, .int .i64 0, .int .i64 0, .int .i64 0, .int .i64 0, .int .i64 0, .int .i64 0, .int .i64 0, .int .i64 0, .int .i64 0, .int .i64 0, .int .i64 0, .int .i64 0, .int .i64 0, .int .i32 0, .int .i32 0, .int .i64 0, .int .i64 0, .int .i64 0, .int .i64 0, .int .i64 0, .int .i64 0, .int .i64 0, .int .i64 0, .int .i64 0, .int .i64 0] (by kernel_rfl) rfl (by simp [Value.oneCell'])
  have NK := ndAt_new (w1.alloc (.cells #[.int .i64 h] 3)) ⟨n.op, 0, 0, 0, 0, 0, 0, 0, 0, 0, 0, 0, 0, 0, 0, 0, 0, 0, 0, 0, 0, 0, 0, 0, 0, 0⟩ 47
  obtain ⟨K, hK, hK2⟩ : ∃ K : List Value, (#[.int .i64 n.op, .int .i64 0, .int .i64 0, .int .i64 0, .int .i64 0, .int .i64 0, .int .i64 0, .int .i64 0, .int .i64 0, .int .i64 0, .int .i64 0, .int .i64 0, .int .i64 0, .int .i64 0, .int .i32 0, .int .i32 0, .int .i64 0, .int .i64 0, .int .i64 0, .int .i64 0, .int .i64 0, .int .i64 0, .int .i64 0, .int .i64 0, .int .i64 0, .int .i64 0] : Array Value) = K.toArray ∧ K = Nd.cells ⟨n.op, 0, 0, 0, 0, 0, 0, 0, 0, 0, 0, 0, 0, 0, 0, 0, 0, 0, 0, 0, 0, 0, 0, 0, 0, 0⟩ := ⟨[.int .i64 n.op, .int .i64 0, .int .i64 0, .int .i64 0, .int .i64 0, .int .i64 0, .int .i64 0, .int .i64 0, .int .i64 0, .int .i64 0, .int .i64 0, .int .i64 0, .int .i64 0, .int .i64 0, .int .i32 0, .int .i32 0, .int .i64 0, .int .i64 0, .int .i64 0, .int .i64 0, .int .i64 0, .int .i64 0, .int .i64 0, .int .i64 0, .int .i64 0, .int .i64 0], rfl, rfl⟩
  rw [← hK2, hs2] at NK
  have NK := Lib.hid NK
  have HK2 := Lib.hid hK2
  rw [hK, hs2] at S0
  have S1 : (storeCells ⟨N + 1 + 1 + 1, 0, none⟩ K 0).run Try.prog ((w1.alloc (.cells #[.int .i64 h] 3)).alloc (.cells #[.int .i64 0, .int .i64 0, .int .i64 0, .int .i64 0, .int .i64 0, .int .i64 0, .int .i64 0, .int .i64 0, .int .i64 0, .int .i64 0, .int .i64 0, .int .i64 0, .int .i64 0, .int .i64 0, .int .i32 0, .int .i32 0, .int .i64 0, .int .i64 0, .int .i64 0, .int .i64 0, .int .i64 0, .int .i64 0, .int .i64 0, .int .i64 0, .int .i64 0, .int .i64 0] 47)) = .ok () ((w1.alloc (.cells #[.int .i64 h] 3)).alloc (.cells K.toArray 47)) := by simpa using S0
  have hKl : K.length = 26 := by have := congrArg Array.size hK; simpa using this.symm
  clear S0 hK2 hs2
  go_wp2_with fail
  have NW0 := NN.out.far (World.grownBy_alloc w1 (.cells #[.int .i64 h] 3) none) (by simp)
  have NW := NW0.far (World.grownBy_alloc (w1.alloc (.cells #[.int .i64 h] 3)) (.cells K.toArray 47) none) (by simp)
  have RW0 := RR.out.far (World.grownBy_alloc w1 (.cells #[.int .i64 h] 3) none) (by simp)
  have RW := RW0.far (World.grownBy_alloc (w1.alloc (.cells #[.int .i64 h] 3)) (.cells K.toArray 47) none) (by simp)
  have BW := (BB.out.alloc (by omega) (.cells #[.int .i64 h] 3)).alloc (by simp; omega) (.cells K.toArray 47)
  have ch : ((w1.alloc (.cells #[.int .i64 h] 3)).alloc (.cells K.toArray 47)).cell? ⟨N + 1 + 1, 0, none⟩ = some (.int .i64 h) := by
    rw [World.cell?_alloc_past _ _ _ (by simp; omega), ← hs1, World.cell?_alloc_new]; rfl
  have K0 := NK.out
  clear S1 hK cn NK HK2 hKl NN NW0 RW0 RR BB
  generalize (w1.alloc (.cells #[.int .i64 h] 3)).alloc (.cells K.toArray 47) = W0 at *
  refine (only_1 N (N + 1 + 1 + 1) (N + 1 + 1) n _ h _ NW K0 (by omega) ch).mono ?_
  rintro e W1 ⟨rfl, kp⟩
  have NW1 := NW.far kp.gr (by simp; omega)
  have RW1 := RW.far kp.gr (by simp)
  have BW1 := BW.trans ((grown_below kp.gr (by omega) (Nat.le_of_lt (by have := NW.lt; omega))).mono (Nat.le_refl _))
  have ch1 := kp.gr.cell ch (by simp)
  have K1 := kp.at_
  clear NW ch K0 kp RW BW
  have NW := Lib.hid NW1
  have RW := Lib.hid RW1
  have BW := Lib.hid BW1
  have ch := Lib.hid ch1
  have K0 := Lib.hid K1
  clear NW1 ch1 K1 RW1 BW1
  go_wp2_with fail
  have NW := NW.out
  have RW := RW.out
  have BW := BW.out
  have ch := ch.out
  have K0 := K0.out
  refine (only_2 N (N + 1 + 1 + 1) (N + 1 + 1) n _ h _ NW K0 (by omega) ch).mono ?_
  rintro e W1 ⟨rfl, kp⟩
  have NW1 := NW.far kp.gr (by simp; omega)
  have RW1 := RW.far kp.gr (by simp)
  have BW1 := BW.trans ((grown_below kp.gr (by omega) (Nat.le_of_lt (by have := NW.lt; omega))).mono (Nat.le_refl _))
  have ch1 := kp.gr.cell ch (by simp)
  have K1 := kp.at_
  clear NW ch K0 kp RW BW
  have NW := Lib.hid NW1
  have RW := Lib.hid RW1
  have BW := Lib.hid BW1
  have ch := Lib.hid ch1
  have K0 := Lib.hid K1
  clear NW1 ch1 K1 RW1 BW1
  go_wp2_with fail
  have NW := NW.out
  have RW := RW.out
  have BW := BW.out
  have ch := ch.out
  have K0 := K0.out
  refine (only_3 N (N + 1 + 1 + 1) (N + 1 + 1) n _ h _ NW K0 (by omega) ch).mono ?_
  rintro e W1 ⟨rfl, kp⟩
  have NW1 := NW.far kp.gr (by simp; omega)
  have RW1 := RW.far kp.gr (by simp)
  have BW1 := BW.trans ((grown_below kp.gr (by omega) (Nat.le_of_lt (by have := NW.lt; omega))).mono (Nat.le_refl _))
  have ch1 := kp.gr.cell ch (by simp)
  have K1 := kp.at_
  clear NW ch K0 kp RW BW
  have NW := Lib.hid NW1
  have RW := Lib.hid RW1
  have BW := Lib.hid BW1
  have ch := Lib.hid ch1
  have K0 := Lib.hid K1
  clear NW1 ch1 K1 RW1 BW1
  go_wp2_with fail
  have NW := NW.out
  have RW := RW.out
  have BW := BW.out
  have ch := ch.out
  have K0 := K0.out
  refine (only_4 N (N + 1 + 1 + 1) (N + 1 + 1) n _ h _ NW K0 (by omega) ch).mono ?_
  rintro e W1 ⟨rfl, kp⟩
  have NW1 := NW.far kp.gr (by simp; omega)
  have RW1 := RW.far kp.gr (by simp)
  have BW1 := BW.trans ((grown_below kp.gr (by omega) (Nat.le_of_lt (by have := NW.lt; omega))).mono (Nat.le_refl _))
  have ch1 := kp.gr.cell ch (by simp)
  have K1 := kp.at_
  clear NW ch K0 kp RW BW
  have NW := Lib.hid NW1
  have RW := Lib.hid RW1
  have BW := Lib.hid BW1
  have ch := Lib.hid ch1
  have K0 := Lib.hid K1
  clear NW1 ch1 K1 RW1 BW1
  go_wp2_with fail
  have NW := NW.out
  have RW := RW.out
  have BW := BW.out
  have ch := ch.out
  have K0 := K0.out
  refine (only_5 N (N + 1 + 1 + 1) (N + 1 + 1) n _ h _ NW K0 (by omega) ch).mono ?_
  rintro e W1 ⟨rfl, kp⟩
  have NW1 := NW.far kp.gr (by simp; omega)
  have RW1 := RW.far kp.gr (by simp)
  have BW1 := BW.trans ((grown_below kp.gr (by omega) (Nat.le_of_lt (by have := NW.lt; omega))).mono (Nat.le_refl _))
  have ch1 := kp.gr.cell ch (by simp)
  have K1 := kp.at_
  clear NW ch K0 kp RW BW
  have NW := Lib.hid NW1
  have RW := Lib.hid RW1
  have BW := Lib.hid BW1
  have ch := Lib.hid ch1
  have K0 := Lib.hid K1
  clear NW1 ch1 K1 RW1 BW1
  go_wp2_with fail
  have NW := NW.out
  have RW := RW.out
  have BW := BW.out
  have ch := ch.out
  have K0 := K0.out
  refine (only_6 N (N + 1 + 1 + 1) (N + 1 + 1) n _ h _ NW K0 (by omega) ch).mono ?_
  rintro e W1 ⟨rfl, kp⟩
  have NW1 := NW.far kp.gr (by simp; omega)
  have RW1 := RW.far kp.gr (by simp)
  have BW1 := BW.trans ((grown_below kp.gr (by omega) (Nat.le_of_lt (by have := NW.lt; omega))).mono (Nat.le_refl _))
  have ch1 := kp.gr.cell ch (by simp)
  have K1 := kp.at_
  clear NW ch K0 kp RW BW
  have NW := Lib.hid NW1
  have RW := Lib.hid RW1
  have BW := Lib.hid BW1
  have ch := Lib.hid ch1
  have K0 := Lib.hid K1
  clear NW1 ch1 K1 RW1 BW1
  go_wp2_with fail
  have NW := NW.out
  have RW := RW.out
  have BW := BW.out
  have ch := ch.out
  have K0 := K0.out
  refine (only_7 N (N + 1 + 1 + 1) (N + 1 + 1) n _ h _ NW K0 (by omega) ch).mono ?_
  rintro e W1 ⟨rfl, kp⟩
  have NW1 := NW.far kp.gr (by simp; omega)
  have RW1 := RW.far kp.gr (by simp)
  have BW1 := BW.trans ((grown_below kp.gr (by omega) (Nat.le_of_lt (by have := NW.lt; omega))).mono (Nat.le_refl _))
  have ch1 := kp.gr.cell ch (by simp)
  have K1 := kp.at_
  clear NW ch K0 kp RW BW
  have NW := Lib.hid NW1
  have RW := Lib.hid RW1
  have BW := Lib.hid BW1
  have ch := Lib.hid ch1
  have K0 := Lib.hid K1
  clear NW1 ch1 K1 RW1 BW1
  go_wp2_with fail
  have NW := NW.out
  have RW := RW.out
  have BW := BW.out
  have ch := ch.out
  have K0 := K0.out
  refine (only_8 N (N + 1 + 1 + 1) (N + 1 + 1) n _ h _ NW K0 (by omega) ch).mono ?_
  rintro e W1 ⟨rfl, kp⟩
  have NW1 := NW.far kp.gr (by simp; omega)
  have RW1 := RW.far kp.gr (by simp)
  have BW1 := BW.trans ((grown_below kp.gr (by omega) (Nat.le_of_lt (by have := NW.lt; omega))).mono (Nat.le_refl _))
  have ch1 := kp.gr.cell ch (by simp)
  have K1 := kp.at_
  clear NW ch K0 kp RW BW
  have NW := Lib.hid NW1
  have RW := Lib.hid RW1
  have BW := Lib.hid BW1
  have ch := Lib.hid ch1
  have K0 := Lib.hid K1
  clear NW1 ch1 K1 RW1 BW1
  go_wp2_with fail
  have NW := NW.out
  have RW := RW.out
  have BW := BW.out
  have ch := ch.out
  have K0 := K0.out
  refine (only_9 N (N + 1 + 1 + 1) (N + 1 + 1) n _ h _ NW K0 (by omega) ch).mono ?_
  rintro e W1 ⟨rfl, kp⟩
  have NW1 := NW.far kp.gr (by simp; omega)
  have RW1 := RW.far kp.gr (by simp)
  have BW1 := BW.trans ((grown_below kp.gr (by omega) (Nat.le_of_lt (by have := NW.lt; omega))).mono (Nat.le_refl _))
  have ch1 := kp.gr.cell ch (by simp)
  have K1 := kp.at_
  clear NW ch K0 kp RW BW
  have NW := Lib.hid NW1
  have RW := Lib.hid RW1
  have BW := Lib.hid BW1
  have ch := Lib.hid ch1
  have K0 := Lib.hid K1
  clear NW1 ch1 K1 RW1 BW1
  go_wp2_with fail
  have NW := NW.out
  have RW := RW.out
  have BW := BW.out
  have ch := ch.out
  have K0 := K0.out
  refine (only_10 N (N + 1 + 1 + 1) (N + 1 + 1) n _ h _ NW K0 (by omega) ch).mono ?_
  rintro e W1 ⟨rfl, kp⟩
  have NW1 := NW.far kp.gr (by simp; omega)
  have RW1 := RW.far kp.gr (by simp)
  have BW1 := BW.trans ((grown_below kp.gr (by omega) (Nat.le_of_lt (by have := NW.lt; omega))).mono (Nat.le_refl _))
  have ch1 := kp.gr.cell ch (by simp)
  have K1 := kp.at_
  clear NW ch K0 kp RW BW
  have NW := Lib.hid NW1
  have RW := Lib.hid RW1
  have BW := Lib.hid BW1
  have ch := Lib.hid ch1
  have K0 := Lib.hid K1
  clear NW1 ch1 K1 RW1 BW1
  go_wp2_with fail
  have NW := NW.out
  have RW := RW.out
  have BW := BW.out
  have ch := ch.out
  have K0 := K0.out
  refine (only_11 N (N + 1 + 1 + 1) (N + 1 + 1) n _ h _ NW K0 (by omega) ch).mono ?_
  rintro e W1 ⟨rfl, kp⟩
  have NW1 := NW.far kp.gr (by simp; omega)
  have RW1 := RW.far kp.gr (by simp)
  have BW1 := BW.trans ((grown_below kp.gr (by omega) (Nat.le_of_lt (by have := NW.lt; omega))).mono (Nat.le_refl _))
  have ch1 := kp.gr.cell ch (by simp)
  have K1 := kp.at_
  clear NW ch K0 kp RW BW
  have NW := Lib.hid NW1
  have RW := Lib.hid RW1
  have BW := Lib.hid BW1
  have ch := Lib.hid ch1
  have K0 := Lib.hid K1
  clear NW1 ch1 K1 RW1 BW1
  go_wp2_with fail
  have NW := NW.out
  have RW := RW.out
  have BW := BW.out
  have ch := ch.out
  have K0 := K0.out
  refine (only_12 N (N + 1 + 1 + 1) (N + 1 + 1) n _ h _ NW K0 (by omega) ch).mono ?_
  rintro e W1 ⟨rfl, kp⟩
  have NW1 := NW.far kp.gr (by simp; omega)
  have RW1 := RW.far kp.gr (by simp)
  have BW1 := BW.trans ((grown_below kp.gr (by omega) (Nat.le_of_lt (by have := NW.lt; omega))).mono (Nat.le_refl _))
  have ch1 := kp.gr.cell ch (by simp)
  have K1 := kp.at_
  clear NW ch K0 kp RW BW
  have NW := Lib.hid NW1
  have RW := Lib.hid RW1
  have BW := Lib.hid BW1
  have ch := Lib.hid ch1
  have K0 := Lib.hid K1
  clear NW1 ch1 K1 RW1 BW1
  go_wp2_with fail
  have NW := NW.out
  have RW := RW.out
  have BW := BW.out
  have ch := ch.out
  have K0 := K0.out
  refine (only_13 N (N + 1 + 1 + 1) (N + 1 + 1) n _ h _ NW K0 (by omega) ch).mono ?_
  rintro e W1 ⟨rfl, kp⟩
  have NW1 := NW.far kp.gr (by simp; omega)
  have RW1 := RW.far kp.gr (by simp)
  have BW1 := BW.trans ((grown_below kp.gr (by omega) (Nat.le_of_lt (by have := NW.lt; omega))).mono (Nat.le_refl _))
  have ch1 := kp.gr.cell ch (by simp)
  have K1 := kp.at_
  clear NW ch K0 kp RW BW
  have NW := Lib.hid NW1
  have RW := Lib.hid RW1
  have BW := Lib.hid BW1
  have ch := Lib.hid ch1
  have K0 := Lib.hid K1
  clear NW1 ch1 K1 RW1 BW1
  go_wp2_with fail
  have NW := NW.out
  have RW := RW.out
  have BW := BW.out
  have ch := ch.out
  have K0 := K0.out
  refine (only_14 N (N + 1 + 1 + 1) (N + 1 + 1) n _ h _ NW K0 (by omega) ch).mono ?_
  rintro e W1 ⟨rfl, kp⟩
  have NW1 := NW.far kp.gr (by simp; omega)
  have RW1 := RW.far kp.gr (by simp)
  have BW1 := BW.trans ((grown_below kp.gr (by omega) (Nat.le_of_lt (by have := NW.lt; omega))).mono (Nat.le_refl _))
  have ch1 := kp.gr.cell ch (by simp)
  have K1 := kp.at_
  clear NW ch K0 kp RW BW
  have NW := Lib.hid NW1
  have RW := Lib.hid RW1
  have BW := Lib.hid BW1
  have ch := Lib.hid ch1
  have K0 := Lib.hid K1
  clear NW1 ch1 K1 RW1 BW1
  have KR : RowAt W1 (N + 1 + 1 + 1) (Nd.cells (keep14 h n (keep13 h n (keep12 h n (keep11 h n (keep10 h n (keep9 h n (keep8 h n (keep7 h n (keep6 h n (keep5 h n (keep4 h n (keep3 h n (keep2 h n (keep1 h n (bare0 n)))))))))))))))) := K0.out.row
  have h1 := Nd.one (keep14 h n (keep13 h n (keep12 h n (keep11 h n (keep10 h n (keep9 h n (keep8 h n (keep7 h n (keep6 h n (keep5 h n (keep4 h n (keep3 h n (keep2 h n (keep1 h n (bare0 n)))))))))))))))
  have hl : (Nd.cells (keep14 h n (keep13 h n (keep12 h n (keep11 h n (keep10 h n (keep9 h n (keep8 h n (keep7 h n (keep6 h n (keep5 h n (keep4 h n (keep3 h n (keep2 h n (keep1 h n (bare0 n)))))))))))))))).length = 26 := Nd.cells_len _
  have EE : Nd.cells (keep14 h n (keep13 h n (keep12 h n (keep11 h n (keep10 h n (keep9 h n (keep8 h n (keep7 h n (keep6 h n (keep5 h n (keep4 h n (keep3 h n (keep2 h n (keep1 h n (bare0 n))))))))))))))) = n0.cells := by rw [HH.out]
  rw [EE] at KR h1 hl
  obtain ⟨KK, hKK⟩ : ∃ KK, n0.cells = KK := ⟨_, rfl⟩
  rw [hKK] at KR h1 hl
  have R1 := RW.out
  have hi1 : (Try.prog.info? 47).map (·.size) = some KK.length := by rw [hl]; kernel_rfl
  have hi2 : (Try.prog.info? 47).map (·.size) = some KK.toArray.size := by rw [List.size_toArray]; exact hi1
  have RNG := KR.range
  have THR := R1.there KK.toArray.size (by simp [hl])
  have hld := run_loadVar_mid (P := Try.prog) (W1.setCells (N + 1) 0 KK) (N + 1) 0 47 KK _ (R1.stored (l' := KK) (by rw [hl]; rfl)).range Try.underlying47 rfl hi1
  have H1 := all_oneCell_toArray h1
  have HKK := Lib.hid hKK
  have GB := Lib.hid (BW.out.trans (grown_below (grown_setCells (N + 1) KK W1 0) (by omega) (Nat.le_of_lt (by have := R1.lt; omega))))
  have F1 := Lib.hid hi1
  have F2 := Lib.hid hi2
  have F3 := Lib.hid RNG
  have F4 := Lib.hid THR
  have F5 := Lib.hid hld
  have F6 := Lib.hid H1
  clear hKK EE KR h1 R1 hl K0 NW RW BW ch hi1 hi2 RNG THR hld H1
  go_wp2_with (first
    | (refine wpList_load_mid rfl 47 (.tmp 4) rfl (N + 1 + 1 + 1) 0 rfl KK _ F3.out Try.underlying47 rfl F1.out ?_)
    | (refine wpList_store_mid rfl 47 (.tmp 2) (.tmp 55) rfl (N + 1) 0 KK.toArray rfl rfl F4.out F2.out F6.out ?_))
  refine bodyPost_ret (v := .agg KK.toArray) ?_ rfl ⟨by rw [HKK.out], GB.out.mono (Nat.le_of_eq HNN.out)⟩
  exact results_cell_mid rfl _ _ (N + 1) _ rfl F5.out
end Go.Proofs.Ytmifojpmomdmeaa
