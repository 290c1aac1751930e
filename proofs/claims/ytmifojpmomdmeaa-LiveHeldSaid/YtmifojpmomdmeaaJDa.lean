/- Package infer: the judge's method makes. -/
import Derived.Test.YtmifojpmomdmeaaJP
import Derived.Test.YtmifojpmomdmeaaTW
import Derived.BigRegion
namespace Go.Proofs.Ytmifojpmomdmeaa
open Go Go.RowKit
set_option linter.unusedVariables false

set_option maxRecDepth 100000 in
set_option maxHeartbeats 4000000 in
theorem jmk_4 (J : Nat) (j : Jg) (w : World) (hJ : JAt w J j) (h : j.n.op = 4) :
    Calls Try.prog 59 #[.pointer (some ⟨J, 0, none⟩)] w fun e w' => e = .returned (.int .i64 (mkF j ⟨1, 1, j.n.chans⟩)) ∧ w.grownBy w' (some J) ∧ JAt w' J { j with o := ⟨1, 1, j.n.chans⟩ } := by
  obtain ⟨T, Z, Z0, K, NL⟩ := node_letter j.n
  have hL := NL.load
  have hAl := NL.alloc
  have hSt := NL.store
  have tA := NL.agg
  have tS := NL.size
  have tZ := NL.zero
  have tK := NL.len
  have tT := NL.tT w
  have tU := NL.tU w
  have tV := NL.tV w
  have hlt := hJ.lt
  have RG := Lib.hid (jg_rg hJ NL)
  have k_0 : K[0]? = some (.int .i64 4) := by rw [NL.cells, ← h]; rfl
  have k_22 : K[22]? = some (.int .i64 j.n.chans) := by rw [NL.cells]; rfl
  have c_28 := hJ.cell 28 _ rfl
  have c_29 := hJ.cell 29 _ rfl
  have c_30 := hJ.cell 30 _ rfl
  have PA1 := Lib.hid (row_1 w K T (.cells #[.int .i64 j.a.x, .int .i64 j.a.y, .int .i64 j.a.z] 22))
  have PA2 := Lib.hid (row_2 w (.cells K.toArray T) [.int .i64 j.a.x, .int .i64 j.a.y, .int .i64 j.a.z] 22)
  have PB2 := Lib.hid (row_1 w [.int .i64 j.a.x, .int .i64 j.a.y, .int .i64 j.a.z] 22 (.cells K.toArray T))
  have PB1 := Lib.hid (row_2 w (.cells #[.int .i64 j.a.x, .int .i64 j.a.y, .int .i64 j.a.z] 22) K T)
  have PS := Lib.hid (show ∀ w', Below w.heap.size w w' → (fun w' => (loadCellsFrom ⟨J, 0, none⟩ 0 Z #[]).run Try.prog w' = .ok K.toArray w' ∧ w'.cell? ⟨J, 28, none⟩ = some (.int .i64 j.a.x) ∧ w'.cell? ⟨J, 29, none⟩ = some (.int .i64 j.a.y) ∧ w'.cell? ⟨J, 30, none⟩ = some (.int .i64 j.a.z) ∧ Below w.heap.size w w') w' from fun w' hb => ⟨NL.read w' J (fun i v hv => (hb.cell (p := ⟨J, 0 + i, none⟩) hlt).trans (RG.out i v hv)), (hb.cell (p := ⟨J, 28, none⟩) hlt).trans c_28, (hb.cell (p := ⟨J, 29, none⟩) hlt).trans c_29, (hb.cell (p := ⟨J, 30, none⟩) hlt).trans c_30, hb⟩)
  have HJ := Lib.hid hJ
  obtain ⟨f, hf⟩ : ∃ f, f = Sh.fit ⟨1, 1, j.n.chans⟩ := ⟨_, rfl⟩
  have FS := Lib.hid (show ∀ W : World, Calls Try.prog 36 #[.agg #[.int .i64 1, .int .i64 1, .int .i64 j.n.chans]] W fun e w' => e = .returned (.int .i64 f) ∧ Below W.heap.size W w' from fun W => by rw [hf]; exact fits_sh ⟨1, 1, j.n.chans⟩ W)
  obtain ⟨sz, hsz⟩ : ∃ s, s = sizeG j.a := ⟨_, rfl⟩
  have SA := Lib.hid (show ∀ W : World, Calls Try.prog 20 #[.agg #[.int .i64 j.a.x, .int .i64 j.a.y, .int .i64 j.a.z]] W fun e w' => e = .returned (.int .i64 sz) ∧ Below W.heap.size W w' from fun W => by rw [hsz]; exact size_sh j.a W)
  obtain ⟨c, hc⟩ : ∃ c, c = mkF j ⟨1, 1, j.n.chans⟩ := ⟨_, rfl⟩
  rw [← hc]
  unfold mkF at hc
  rw [← hf, ← hsz, h] at hc
  have HC := Lib.hid hc
  clear hJ h hf hsz hc
  go_enter Try.func59, Try.ntmps59
  simp only [hL, hAl, hSt]
  clear hL hAl hSt NL
  go_wp2_with fail
  go_region_held3 (fun w' => (loadCellsFrom ⟨J, 0, none⟩ 0 Z #[]).run Try.prog w' = .ok K.toArray w' ∧ w'.cell? ⟨J, 28, none⟩ = some (.int .i64 j.a.x) ∧ w'.cell? ⟨J, 29, none⟩ = some (.int .i64 j.a.y) ∧ w'.cell? ⟨J, 30, none⟩ = some (.int .i64 j.a.z) ∧ Below w.heap.size w w')
    (first | (with_reducible assumption) | (refine PS.out _ ?_; first | (with_reducible exact Below.refl _ _) | (with_reducible exact (Below.refl _ _).drew) | go_grown))
    (first | fail)
  all_goals
    rename_i hH
    obtain ⟨_, _, _, _, hbW⟩ := hH
    (first
    | (have hq : Below w.heap.size w ((w.alloc (.cells K.toArray T)).alloc (.cells #[.int .i64 j.a.x, .int .i64 j.a.y, .int .i64 j.a.z] 22)).drew := hbW; have r1 := PA1.out; have r2 := PA2.out; generalize ((w.alloc (.cells K.toArray T)).alloc (.cells #[.int .i64 j.a.x, .int .i64 j.a.y, .int .i64 j.a.z] 22)).drew = W1 at *; have j2 : J < w.heap.size + 1 := Nat.lt_succ_of_lt hlt; generalize hb1 : w.heap.size + 1 = B2 at *; clear hb1; have n1 := Nat.ne_of_lt hlt; have n2 := Nat.ne_of_lt j2)
    | (have hq : Below w.heap.size w ((w.alloc (.cells #[.int .i64 j.a.x, .int .i64 j.a.y, .int .i64 j.a.z] 22)).alloc (.cells K.toArray T)).drew := hbW; have r1 := PB1.out; have r2 := PB2.out; generalize ((w.alloc (.cells #[.int .i64 j.a.x, .int .i64 j.a.y, .int .i64 j.a.z] 22)).alloc (.cells K.toArray T)).drew = W1 at *; have j2 : J < w.heap.size + 1 := Nat.lt_succ_of_lt hlt; generalize hb1 : w.heap.size + 1 = B2 at *; clear hb1; have n2 := Nat.ne_of_lt hlt; have n1 := Nat.ne_of_lt j2))
    have HJ1 := HJ.out.later hbW hlt
    have HQ := Lib.hid hbW
    clear hbW hq PA1 PA2 PB1 PB2
    have q_0 := r1.cell 0 _ k_0
    have q_22 := r1.cell 22 _ k_22
    have a_0 := r2.cell 0 _ rfl
    have a_1 := r2.cell 1 _ rfl
    have a_2 := r2.cell 2 _ rfl
    have c_34 := HJ1.cell 34 _ rfl
    have c_35 := HJ1.cell 35 _ rfl
    have c_36 := HJ1.cell 36 _ rfl
    have f_34 := RowAt.fr HJ1 34
    have f_35 := RowAt.fr HJ1 35
    have f_36 := RowAt.fr HJ1 36
    have l1 := r1.lt
    have l2 := r2.lt
    have l3 := RowAt.lt HJ1
    have R1 := Lib.hid r1
    have R2 := Lib.hid r2
    have HJ2 := Lib.hid HJ1
    clear r1 r2 HJ1 tT tU tV tA tS tZ tK RG PS HJ
    go_wp2_with (first | (go_at_call 36; (with_reducible refine (FS.out _).mono ?_); rintro e w2 ⟨rfl, hb2⟩; have r1' := (((R1.out.aside J 34 _ n1).aside J 35 _ n1).aside J 36 _ n1).over hb2; have q' := r1'.cell 0 _ k_0; have r2' := (((R2.out.aside J 34 _ n2).aside J 35 _ n2).aside J 36 _ n2).over hb2; have a0' := r2'.cell 0 _ rfl; have a1' := r2'.cell 1 _ rfl; have a2' := r2'.cell 2 _ rfl; have HB2 := Lib.hid hb2; clear hb2 r1' r2') | (go_at_call 20; (with_reducible refine (SA.out _).mono ?_); rintro e w3 ⟨rfl, hb3⟩; have HB3 := Lib.hid hb3; clear hb3))
    all_goals
      go_ret
      (first | (refine ⟨ret_i64 ?_, grown_trans (grown_trans (grownN_set (grownN_set (grownN_set (below_grown HQ.out (some J))))) (below_grown HB2.out (some J))) (below_grown HB3.out (some J)), JAt.over (JAt.over ((JAt.set { j with o := ⟨1, 1, j.n.chans⟩ } (JAt.set { j with o := ⟨1, 1, j.o.z⟩ } (JAt.set { j with o := ⟨1, j.o.y, j.o.z⟩ } HJ2.out 34 _ (by decide) rfl) 35 _ (by decide) rfl) 36 _ (by decide) rfl)) HB2.out) HB3.out⟩) | (refine ⟨ret_i64 ?_, grown_trans (grownN_set (grownN_set (grownN_set (below_grown HQ.out (some J))))) (below_grown HB2.out (some J)), JAt.over ((JAt.set { j with o := ⟨1, 1, j.n.chans⟩ } (JAt.set { j with o := ⟨1, 1, j.o.z⟩ } (JAt.set { j with o := ⟨1, j.o.y, j.o.z⟩ } HJ2.out 34 _ (by decide) rfl) 35 _ (by decide) rfl) 36 _ (by decide) rfl)) HB2.out⟩))
      rw [HC.out]
      simp_all
set_option maxRecDepth 100000 in
set_option maxHeartbeats 4000000 in
theorem jmk_1 (J : Nat) (j : Jg) (w : World) (hJ : JAt w J j) (h : j.n.op = 1) :
    Calls Try.prog 59 #[.pointer (some ⟨J, 0, none⟩)] w fun e w' => e = .returned (.int .i64 (mkF j ⟨j.n.h0, j.n.h1, j.n.h2⟩)) ∧ w.grownBy w' (some J) ∧ JAt w' J { j with o := ⟨j.n.h0, j.n.h1, j.n.h2⟩ } := by
  obtain ⟨T, Z, Z0, K, NL⟩ := node_letter j.n
  have hL := NL.load
  have hAl := NL.alloc
  have hSt := NL.store
  have tA := NL.agg
  have tS := NL.size
  have tZ := NL.zero
  have tK := NL.len
  have tT := NL.tT w
  have tU := NL.tU w
  have tV := NL.tV w
  have hlt := hJ.lt
  have RG := Lib.hid (jg_rg hJ NL)
  have k_0 : K[0]? = some (.int .i64 1) := by rw [NL.cells, ← h]; rfl
  have k_23 : K[23]? = some (.int .i64 j.n.h0) := by rw [NL.cells]; rfl
  have k_24 : K[24]? = some (.int .i64 j.n.h1) := by rw [NL.cells]; rfl
  have k_25 : K[25]? = some (.int .i64 j.n.h2) := by rw [NL.cells]; rfl
  have c_28 := hJ.cell 28 _ rfl
  have c_29 := hJ.cell 29 _ rfl
  have c_30 := hJ.cell 30 _ rfl
  have PA1 := Lib.hid (row_1 w K T (.cells #[.int .i64 j.a.x, .int .i64 j.a.y, .int .i64 j.a.z] 22))
  have PA2 := Lib.hid (row_2 w (.cells K.toArray T) [.int .i64 j.a.x, .int .i64 j.a.y, .int .i64 j.a.z] 22)
  have PB2 := Lib.hid (row_1 w [.int .i64 j.a.x, .int .i64 j.a.y, .int .i64 j.a.z] 22 (.cells K.toArray T))
  have PB1 := Lib.hid (row_2 w (.cells #[.int .i64 j.a.x, .int .i64 j.a.y, .int .i64 j.a.z] 22) K T)
  have PS := Lib.hid (show ∀ w', Below w.heap.size w w' → (fun w' => (loadCellsFrom ⟨J, 0, none⟩ 0 Z #[]).run Try.prog w' = .ok K.toArray w' ∧ w'.cell? ⟨J, 28, none⟩ = some (.int .i64 j.a.x) ∧ w'.cell? ⟨J, 29, none⟩ = some (.int .i64 j.a.y) ∧ w'.cell? ⟨J, 30, none⟩ = some (.int .i64 j.a.z) ∧ Below w.heap.size w w') w' from fun w' hb => ⟨NL.read w' J (fun i v hv => (hb.cell (p := ⟨J, 0 + i, none⟩) hlt).trans (RG.out i v hv)), (hb.cell (p := ⟨J, 28, none⟩) hlt).trans c_28, (hb.cell (p := ⟨J, 29, none⟩) hlt).trans c_29, (hb.cell (p := ⟨J, 30, none⟩) hlt).trans c_30, hb⟩)
  have HJ := Lib.hid hJ
  obtain ⟨f, hf⟩ : ∃ f, f = Sh.fit ⟨j.n.h0, j.n.h1, j.n.h2⟩ := ⟨_, rfl⟩
  have FS := Lib.hid (show ∀ W : World, Calls Try.prog 36 #[.agg #[.int .i64 j.n.h0, .int .i64 j.n.h1, .int .i64 j.n.h2]] W fun e w' => e = .returned (.int .i64 f) ∧ Below W.heap.size W w' from fun W => by rw [hf]; exact fits_sh ⟨j.n.h0, j.n.h1, j.n.h2⟩ W)
  obtain ⟨sz, hsz⟩ : ∃ s, s = sizeG j.a := ⟨_, rfl⟩
  have SA := Lib.hid (show ∀ W : World, Calls Try.prog 20 #[.agg #[.int .i64 j.a.x, .int .i64 j.a.y, .int .i64 j.a.z]] W fun e w' => e = .returned (.int .i64 sz) ∧ Below W.heap.size W w' from fun W => by rw [hsz]; exact size_sh j.a W)
  obtain ⟨c, hc⟩ : ∃ c, c = mkF j ⟨j.n.h0, j.n.h1, j.n.h2⟩ := ⟨_, rfl⟩
  rw [← hc]
  unfold mkF at hc
  rw [← hf, ← hsz, h] at hc
  have HC := Lib.hid hc
  clear hJ h hf hsz hc
  go_enter Try.func59, Try.ntmps59
  simp only [hL, hAl, hSt]
  clear hL hAl hSt NL
  go_wp2_with fail
  go_region_held3 (fun w' => (loadCellsFrom ⟨J, 0, none⟩ 0 Z #[]).run Try.prog w' = .ok K.toArray w' ∧ w'.cell? ⟨J, 28, none⟩ = some (.int .i64 j.a.x) ∧ w'.cell? ⟨J, 29, none⟩ = some (.int .i64 j.a.y) ∧ w'.cell? ⟨J, 30, none⟩ = some (.int .i64 j.a.z) ∧ Below w.heap.size w w')
    (first | (with_reducible assumption) | (refine PS.out _ ?_; first | (with_reducible exact Below.refl _ _) | (with_reducible exact (Below.refl _ _).drew) | go_grown))
    (first | fail)
  all_goals
    rename_i hH
    obtain ⟨_, _, _, _, hbW⟩ := hH
    (first
    | (have hq : Below w.heap.size w ((w.alloc (.cells K.toArray T)).alloc (.cells #[.int .i64 j.a.x, .int .i64 j.a.y, .int .i64 j.a.z] 22)).drew := hbW; have r1 := PA1.out; have r2 := PA2.out; generalize ((w.alloc (.cells K.toArray T)).alloc (.cells #[.int .i64 j.a.x, .int .i64 j.a.y, .int .i64 j.a.z] 22)).drew = W1 at *; have j2 : J < w.heap.size + 1 := Nat.lt_succ_of_lt hlt; generalize hb1 : w.heap.size + 1 = B2 at *; clear hb1; have n1 := Nat.ne_of_lt hlt; have n2 := Nat.ne_of_lt j2)
    | (have hq : Below w.heap.size w ((w.alloc (.cells #[.int .i64 j.a.x, .int .i64 j.a.y, .int .i64 j.a.z] 22)).alloc (.cells K.toArray T)).drew := hbW; have r1 := PB1.out; have r2 := PB2.out; generalize ((w.alloc (.cells #[.int .i64 j.a.x, .int .i64 j.a.y, .int .i64 j.a.z] 22)).alloc (.cells K.toArray T)).drew = W1 at *; have j2 : J < w.heap.size + 1 := Nat.lt_succ_of_lt hlt; generalize hb1 : w.heap.size + 1 = B2 at *; clear hb1; have n2 := Nat.ne_of_lt hlt; have n1 := Nat.ne_of_lt j2))
    have HJ1 := HJ.out.later hbW hlt
    have HQ := Lib.hid hbW
    clear hbW hq PA1 PA2 PB1 PB2
    have q_0 := r1.cell 0 _ k_0
    have q_23 := r1.cell 23 _ k_23
    have q_24 := r1.cell 24 _ k_24
    have q_25 := r1.cell 25 _ k_25
    have a_0 := r2.cell 0 _ rfl
    have a_1 := r2.cell 1 _ rfl
    have a_2 := r2.cell 2 _ rfl
    have c_34 := HJ1.cell 34 _ rfl
    have c_35 := HJ1.cell 35 _ rfl
    have c_36 := HJ1.cell 36 _ rfl
    have f_34 := RowAt.fr HJ1 34
    have f_35 := RowAt.fr HJ1 35
    have f_36 := RowAt.fr HJ1 36
    have l1 := r1.lt
    have l2 := r2.lt
    have l3 := RowAt.lt HJ1
    have R1 := Lib.hid r1
    have R2 := Lib.hid r2
    have HJ2 := Lib.hid HJ1
    clear r1 r2 HJ1 tT tU tV tA tS tZ tK RG PS HJ
    go_wp2_with (go_at_call 36; (with_reducible refine (FS.out _).mono ?_); rintro e w2 ⟨rfl, hb2⟩; have r1' := (((R1.out.aside J 34 _ n1).aside J 35 _ n1).aside J 36 _ n1).over hb2; have q' := r1'.cell 0 _ k_0; have r2' := (((R2.out.aside J 34 _ n2).aside J 35 _ n2).aside J 36 _ n2).over hb2; have a0' := r2'.cell 0 _ rfl; have a1' := r2'.cell 1 _ rfl; have a2' := r2'.cell 2 _ rfl; have HB2 := Lib.hid hb2; clear hb2 r1' r2')
    all_goals
      go_ret
      refine ⟨ret_i64 ?_, grown_trans (grownN_set (grownN_set (grownN_set (below_grown HQ.out (some J))))) (below_grown HB2.out (some J)), JAt.over ((JAt.set { j with o := ⟨j.n.h0, j.n.h1, j.n.h2⟩ } (JAt.set { j with o := ⟨j.n.h0, j.n.h1, j.o.z⟩ } (JAt.set { j with o := ⟨j.n.h0, j.o.y, j.o.z⟩ } HJ2.out 34 _ (by decide) rfl) 35 _ (by decide) rfl) 36 _ (by decide) rfl)) HB2.out⟩
      rw [HC.out]
      simp_all
set_option maxRecDepth 100000 in
set_option maxHeartbeats 4000000 in
theorem jmk_11 (J : Nat) (j : Jg) (w : World) (hJ : JAt w J j) (h : j.n.op = 11) :
    Calls Try.prog 59 #[.pointer (some ⟨J, 0, none⟩)] w fun e w' => e = .returned (.int .i64 (mkF j ⟨j.n.h0, j.n.h1, j.n.h2⟩)) ∧ w.grownBy w' (some J) ∧ JAt w' J { j with o := ⟨j.n.h0, j.n.h1, j.n.h2⟩ } := by
  obtain ⟨T, Z, Z0, K, NL⟩ := node_letter j.n
  have hL := NL.load
  have hAl := NL.alloc
  have hSt := NL.store
  have tA := NL.agg
  have tS := NL.size
  have tZ := NL.zero
  have tK := NL.len
  have tT := NL.tT w
  have tU := NL.tU w
  have tV := NL.tV w
  have hlt := hJ.lt
  have RG := Lib.hid (jg_rg hJ NL)
  have k_0 : K[0]? = some (.int .i64 11) := by rw [NL.cells, ← h]; rfl
  have k_23 : K[23]? = some (.int .i64 j.n.h0) := by rw [NL.cells]; rfl
  have k_24 : K[24]? = some (.int .i64 j.n.h1) := by rw [NL.cells]; rfl
  have k_25 : K[25]? = some (.int .i64 j.n.h2) := by rw [NL.cells]; rfl
  have c_28 := hJ.cell 28 _ rfl
  have c_29 := hJ.cell 29 _ rfl
  have c_30 := hJ.cell 30 _ rfl
  have PA1 := Lib.hid (row_1 w K T (.cells #[.int .i64 j.a.x, .int .i64 j.a.y, .int .i64 j.a.z] 22))
  have PA2 := Lib.hid (row_2 w (.cells K.toArray T) [.int .i64 j.a.x, .int .i64 j.a.y, .int .i64 j.a.z] 22)
  have PB2 := Lib.hid (row_1 w [.int .i64 j.a.x, .int .i64 j.a.y, .int .i64 j.a.z] 22 (.cells K.toArray T))
  have PB1 := Lib.hid (row_2 w (.cells #[.int .i64 j.a.x, .int .i64 j.a.y, .int .i64 j.a.z] 22) K T)
  have PS := Lib.hid (show ∀ w', Below w.heap.size w w' → (fun w' => (loadCellsFrom ⟨J, 0, none⟩ 0 Z #[]).run Try.prog w' = .ok K.toArray w' ∧ w'.cell? ⟨J, 28, none⟩ = some (.int .i64 j.a.x) ∧ w'.cell? ⟨J, 29, none⟩ = some (.int .i64 j.a.y) ∧ w'.cell? ⟨J, 30, none⟩ = some (.int .i64 j.a.z) ∧ Below w.heap.size w w') w' from fun w' hb => ⟨NL.read w' J (fun i v hv => (hb.cell (p := ⟨J, 0 + i, none⟩) hlt).trans (RG.out i v hv)), (hb.cell (p := ⟨J, 28, none⟩) hlt).trans c_28, (hb.cell (p := ⟨J, 29, none⟩) hlt).trans c_29, (hb.cell (p := ⟨J, 30, none⟩) hlt).trans c_30, hb⟩)
  have HJ := Lib.hid hJ
  obtain ⟨f, hf⟩ : ∃ f, f = Sh.fit ⟨j.n.h0, j.n.h1, j.n.h2⟩ := ⟨_, rfl⟩
  have FS := Lib.hid (show ∀ W : World, Calls Try.prog 36 #[.agg #[.int .i64 j.n.h0, .int .i64 j.n.h1, .int .i64 j.n.h2]] W fun e w' => e = .returned (.int .i64 f) ∧ Below W.heap.size W w' from fun W => by rw [hf]; exact fits_sh ⟨j.n.h0, j.n.h1, j.n.h2⟩ W)
  obtain ⟨sz, hsz⟩ : ∃ s, s = sizeG j.a := ⟨_, rfl⟩
  have SA := Lib.hid (show ∀ W : World, Calls Try.prog 20 #[.agg #[.int .i64 j.a.x, .int .i64 j.a.y, .int .i64 j.a.z]] W fun e w' => e = .returned (.int .i64 sz) ∧ Below W.heap.size W w' from fun W => by rw [hsz]; exact size_sh j.a W)
  obtain ⟨c, hc⟩ : ∃ c, c = mkF j ⟨j.n.h0, j.n.h1, j.n.h2⟩ := ⟨_, rfl⟩
  rw [← hc]
  unfold mkF at hc
  rw [← hf, ← hsz, h] at hc
  have HC := Lib.hid hc
  clear hJ h hf hsz hc
  go_enter Try.func59, Try.ntmps59
  simp only [hL, hAl, hSt]
  clear hL hAl hSt NL
  go_wp2_with fail
  go_region_held3 (fun w' => (loadCellsFrom ⟨J, 0, none⟩ 0 Z #[]).run Try.prog w' = .ok K.toArray w' ∧ w'.cell? ⟨J, 28, none⟩ = some (.int .i64 j.a.x) ∧ w'.cell? ⟨J, 29, none⟩ = some (.int .i64 j.a.y) ∧ w'.cell? ⟨J, 30, none⟩ = some (.int .i64 j.a.z) ∧ Below w.heap.size w w')
    (first | (with_reducible assumption) | (refine PS.out _ ?_; first | (with_reducible exact Below.refl _ _) | (with_reducible exact (Below.refl _ _).drew) | go_grown))
    (first | fail)
  all_goals
    rename_i hH
    obtain ⟨_, _, _, _, hbW⟩ := hH
    (first
    | (have hq : Below w.heap.size w ((w.alloc (.cells K.toArray T)).alloc (.cells #[.int .i64 j.a.x, .int .i64 j.a.y, .int .i64 j.a.z] 22)).drew := hbW; have r1 := PA1.out; have r2 := PA2.out; generalize ((w.alloc (.cells K.toArray T)).alloc (.cells #[.int .i64 j.a.x, .int .i64 j.a.y, .int .i64 j.a.z] 22)).drew = W1 at *; have j2 : J < w.heap.size + 1 := Nat.lt_succ_of_lt hlt; generalize hb1 : w.heap.size + 1 = B2 at *; clear hb1; have n1 := Nat.ne_of_lt hlt; have n2 := Nat.ne_of_lt j2)
    | (have hq : Below w.heap.size w ((w.alloc (.cells #[.int .i64 j.a.x, .int .i64 j.a.y, .int .i64 j.a.z] 22)).alloc (.cells K.toArray T)).drew := hbW; have r1 := PB1.out; have r2 := PB2.out; generalize ((w.alloc (.cells #[.int .i64 j.a.x, .int .i64 j.a.y, .int .i64 j.a.z] 22)).alloc (.cells K.toArray T)).drew = W1 at *; have j2 : J < w.heap.size + 1 := Nat.lt_succ_of_lt hlt; generalize hb1 : w.heap.size + 1 = B2 at *; clear hb1; have n2 := Nat.ne_of_lt hlt; have n1 := Nat.ne_of_lt j2))
    have HJ1 := HJ.out.later hbW hlt
    have HQ := Lib.hid hbW
    clear hbW hq PA1 PA2 PB1 PB2
    have q_0 := r1.cell 0 _ k_0
    have q_23 := r1.cell 23 _ k_23
    have q_24 := r1.cell 24 _ k_24
    have q_25 := r1.cell 25 _ k_25
    have a_0 := r2.cell 0 _ rfl
    have a_1 := r2.cell 1 _ rfl
    have a_2 := r2.cell 2 _ rfl
    have c_34 := HJ1.cell 34 _ rfl
    have c_35 := HJ1.cell 35 _ rfl
    have c_36 := HJ1.cell 36 _ rfl
    have f_34 := RowAt.fr HJ1 34
    have f_35 := RowAt.fr HJ1 35
    have f_36 := RowAt.fr HJ1 36
    have l1 := r1.lt
    have l2 := r2.lt
    have l3 := RowAt.lt HJ1
    have R1 := Lib.hid r1
    have R2 := Lib.hid r2
    have HJ2 := Lib.hid HJ1
    clear r1 r2 HJ1 tT tU tV tA tS tZ tK RG PS HJ
    go_wp2_with (go_at_call 36; (with_reducible refine (FS.out _).mono ?_); rintro e w2 ⟨rfl, hb2⟩; have r1' := (((R1.out.aside J 34 _ n1).aside J 35 _ n1).aside J 36 _ n1).over hb2; have q' := r1'.cell 0 _ k_0; have r2' := (((R2.out.aside J 34 _ n2).aside J 35 _ n2).aside J 36 _ n2).over hb2; have a0' := r2'.cell 0 _ rfl; have a1' := r2'.cell 1 _ rfl; have a2' := r2'.cell 2 _ rfl; have HB2 := Lib.hid hb2; clear hb2 r1' r2')
    all_goals
      go_ret
      refine ⟨ret_i64 ?_, grown_trans (grownN_set (grownN_set (grownN_set (below_grown HQ.out (some J))))) (below_grown HB2.out (some J)), JAt.over ((JAt.set { j with o := ⟨j.n.h0, j.n.h1, j.n.h2⟩ } (JAt.set { j with o := ⟨j.n.h0, j.n.h1, j.o.z⟩ } (JAt.set { j with o := ⟨j.n.h0, j.o.y, j.o.z⟩ } HJ2.out 34 _ (by decide) rfl) 35 _ (by decide) rfl) 36 _ (by decide) rfl)) HB2.out⟩
      rw [HC.out]
      simp_all
end Go.Proofs.Ytmifojpmomdmeaa

namespace Go.Proofs.Ytmifojpmomdmeaa
open Go Go.RowKit
set_option linter.unusedVariables false

set_option maxRecDepth 100000 in
set_option maxHeartbeats 4000000 in
theorem jmk_2 (J : Nat) (j : Jg) (w : World) (hJ : JAt w J j) (h : j.n.op = 2) :
    Calls Try.prog 59 #[.pointer (some ⟨J, 0, none⟩)] w fun e w' => e = .returned (.int .i64 (mkF j ⟨j.r0, j.r1, j.n.chans⟩)) ∧ w.grownBy w' (some J) ∧ JAt w' J { j with o := ⟨j.r0, j.r1, j.n.chans⟩ } := by
  obtain ⟨T, Z, Z0, K, NL⟩ := node_letter j.n
  have hL := NL.load
  have hAl := NL.alloc
  have hSt := NL.store
  have tA := NL.agg
  have tS := NL.size
  have tZ := NL.zero
  have tK := NL.len
  have tT := NL.tT w
  have tU := NL.tU w
  have tV := NL.tV w
  have hlt := hJ.lt
  have RG := Lib.hid (jg_rg hJ NL)
  have k_0 : K[0]? = some (.int .i64 2) := by rw [NL.cells, ← h]; rfl
  have k_22 : K[22]? = some (.int .i64 j.n.chans) := by rw [NL.cells]; rfl
  have c_28 := hJ.cell 28 _ rfl
  have c_29 := hJ.cell 29 _ rfl
  have c_30 := hJ.cell 30 _ rfl
  have PA1 := Lib.hid (row_1 w K T (.cells #[.int .i64 j.a.x, .int .i64 j.a.y, .int .i64 j.a.z] 22))
  have PA2 := Lib.hid (row_2 w (.cells K.toArray T) [.int .i64 j.a.x, .int .i64 j.a.y, .int .i64 j.a.z] 22)
  have PB2 := Lib.hid (row_1 w [.int .i64 j.a.x, .int .i64 j.a.y, .int .i64 j.a.z] 22 (.cells K.toArray T))
  have PB1 := Lib.hid (row_2 w (.cells #[.int .i64 j.a.x, .int .i64 j.a.y, .int .i64 j.a.z] 22) K T)
  have PS := Lib.hid (show ∀ w', Below w.heap.size w w' → (fun w' => (loadCellsFrom ⟨J, 0, none⟩ 0 Z #[]).run Try.prog w' = .ok K.toArray w' ∧ w'.cell? ⟨J, 28, none⟩ = some (.int .i64 j.a.x) ∧ w'.cell? ⟨J, 29, none⟩ = some (.int .i64 j.a.y) ∧ w'.cell? ⟨J, 30, none⟩ = some (.int .i64 j.a.z) ∧ Below w.heap.size w w') w' from fun w' hb => ⟨NL.read w' J (fun i v hv => (hb.cell (p := ⟨J, 0 + i, none⟩) hlt).trans (RG.out i v hv)), (hb.cell (p := ⟨J, 28, none⟩) hlt).trans c_28, (hb.cell (p := ⟨J, 29, none⟩) hlt).trans c_29, (hb.cell (p := ⟨J, 30, none⟩) hlt).trans c_30, hb⟩)
  have HJ := Lib.hid hJ
  obtain ⟨f, hf⟩ : ∃ f, f = Sh.fit ⟨j.r0, j.r1, j.n.chans⟩ := ⟨_, rfl⟩
  have FS := Lib.hid (show ∀ W : World, Calls Try.prog 36 #[.agg #[.int .i64 j.r0, .int .i64 j.r1, .int .i64 j.n.chans]] W fun e w' => e = .returned (.int .i64 f) ∧ Below W.heap.size W w' from fun W => by rw [hf]; exact fits_sh ⟨j.r0, j.r1, j.n.chans⟩ W)
  obtain ⟨sz, hsz⟩ : ∃ s, s = sizeG j.a := ⟨_, rfl⟩
  have SA := Lib.hid (show ∀ W : World, Calls Try.prog 20 #[.agg #[.int .i64 j.a.x, .int .i64 j.a.y, .int .i64 j.a.z]] W fun e w' => e = .returned (.int .i64 sz) ∧ Below W.heap.size W w' from fun W => by rw [hsz]; exact size_sh j.a W)
  obtain ⟨c, hc⟩ : ∃ c, c = mkF j ⟨j.r0, j.r1, j.n.chans⟩ := ⟨_, rfl⟩
  rw [← hc]
  unfold mkF at hc
  rw [← hf, ← hsz, h] at hc
  have HC := Lib.hid hc
  clear hJ h hf hsz hc
  go_enter Try.func59, Try.ntmps59
  simp only [hL, hAl, hSt]
  clear hL hAl hSt NL
  go_wp2_with fail
  go_region_held3 (fun w' => (loadCellsFrom ⟨J, 0, none⟩ 0 Z #[]).run Try.prog w' = .ok K.toArray w' ∧ w'.cell? ⟨J, 28, none⟩ = some (.int .i64 j.a.x) ∧ w'.cell? ⟨J, 29, none⟩ = some (.int .i64 j.a.y) ∧ w'.cell? ⟨J, 30, none⟩ = some (.int .i64 j.a.z) ∧ Below w.heap.size w w')
    (first | (with_reducible assumption) | (refine PS.out _ ?_; first | (with_reducible exact Below.refl _ _) | (with_reducible exact (Below.refl _ _).drew) | go_grown))
    (first | fail)
  all_goals
    rename_i hH
    obtain ⟨_, _, _, _, hbW⟩ := hH
    (first
    | (have hq : Below w.heap.size w ((w.alloc (.cells K.toArray T)).alloc (.cells #[.int .i64 j.a.x, .int .i64 j.a.y, .int .i64 j.a.z] 22)).drew := hbW; have r1 := PA1.out; have r2 := PA2.out; generalize ((w.alloc (.cells K.toArray T)).alloc (.cells #[.int .i64 j.a.x, .int .i64 j.a.y, .int .i64 j.a.z] 22)).drew = W1 at *; have j2 : J < w.heap.size + 1 := Nat.lt_succ_of_lt hlt; generalize hb1 : w.heap.size + 1 = B2 at *; clear hb1; have n1 := Nat.ne_of_lt hlt; have n2 := Nat.ne_of_lt j2)
    | (have hq : Below w.heap.size w ((w.alloc (.cells #[.int .i64 j.a.x, .int .i64 j.a.y, .int .i64 j.a.z] 22)).alloc (.cells K.toArray T)).drew := hbW; have r1 := PB1.out; have r2 := PB2.out; generalize ((w.alloc (.cells #[.int .i64 j.a.x, .int .i64 j.a.y, .int .i64 j.a.z] 22)).alloc (.cells K.toArray T)).drew = W1 at *; have j2 : J < w.heap.size + 1 := Nat.lt_succ_of_lt hlt; generalize hb1 : w.heap.size + 1 = B2 at *; clear hb1; have n2 := Nat.ne_of_lt hlt; have n1 := Nat.ne_of_lt j2))
    have HJ1 := HJ.out.later hbW hlt
    have HQ := Lib.hid hbW
    clear hbW hq PA1 PA2 PB1 PB2
    have q_0 := r1.cell 0 _ k_0
    have q_22 := r1.cell 22 _ k_22
    have a_0 := r2.cell 0 _ rfl
    have a_1 := r2.cell 1 _ rfl
    have a_2 := r2.cell 2 _ rfl
    have c_37 := HJ1.cell 37 _ rfl
    have c_38 := HJ1.cell 38 _ rfl
    have c_34 := HJ1.cell 34 _ rfl
    have c_35 := HJ1.cell 35 _ rfl
    have c_36 := HJ1.cell 36 _ rfl
    have f_34 := RowAt.fr HJ1 34
    have f_35 := RowAt.fr HJ1 35
    have f_36 := RowAt.fr HJ1 36
    have l1 := r1.lt
    have l2 := r2.lt
    have l3 := RowAt.lt HJ1
    have R1 := Lib.hid r1
    have R2 := Lib.hid r2
    have HJ2 := Lib.hid HJ1
    clear r1 r2 HJ1 tT tU tV tA tS tZ tK RG PS HJ
    go_wp2_with fail
    go_region
    all_goals
      go_wp2_with (go_at_call 36; (with_reducible refine (FS.out _).mono ?_); rintro e w2 ⟨rfl, hb2⟩; have r1' := (((R1.out.aside J 34 _ n1).aside J 35 _ n1).aside J 36 _ n1).drew.over hb2; have q' := r1'.cell 0 _ k_0; have r2' := (((R2.out.aside J 34 _ n2).aside J 35 _ n2).aside J 36 _ n2).drew.over hb2; have a0' := r2'.cell 0 _ rfl; have a1' := r2'.cell 1 _ rfl; have a2' := r2'.cell 2 _ rfl; have HB2 := Lib.hid hb2; clear hb2 r1' r2')
      all_goals
        go_ret
        refine ⟨ret_i64 ?_, grown_trans (grown_drew (grownN_set (grownN_set (grownN_set (below_grown HQ.out (some J)))))) (below_grown HB2.out (some J)), JAt.over ((JAt.set { j with o := ⟨j.r0, j.r1, j.n.chans⟩ } (JAt.set { j with o := ⟨j.r0, j.r1, j.o.z⟩ } (JAt.set { j with o := ⟨j.r0, j.o.y, j.o.z⟩ } HJ2.out 34 _ (by decide) rfl) 35 _ (by decide) rfl) 36 _ (by decide) rfl).drew) HB2.out⟩
        rw [HC.out]
        simp_all
set_option maxRecDepth 100000 in
set_option maxHeartbeats 4000000 in
theorem jmk_3 (J : Nat) (j : Jg) (w : World) (hJ : JAt w J j) (h : j.n.op = 3) :
    Calls Try.prog 59 #[.pointer (some ⟨J, 0, none⟩)] w fun e w' => e = .returned (.int .i64 (mkF j ⟨j.r0, j.r1, j.a.z⟩)) ∧ w.grownBy w' (some J) ∧ JAt w' J { j with o := ⟨j.r0, j.r1, j.a.z⟩ } := by
  obtain ⟨T, Z, Z0, K, NL⟩ := node_letter j.n
  have hL := NL.load
  have hAl := NL.alloc
  have hSt := NL.store
  have tA := NL.agg
  have tS := NL.size
  have tZ := NL.zero
  have tK := NL.len
  have tT := NL.tT w
  have tU := NL.tU w
  have tV := NL.tV w
  have hlt := hJ.lt
  have RG := Lib.hid (jg_rg hJ NL)
  have k_0 : K[0]? = some (.int .i64 3) := by rw [NL.cells, ← h]; rfl
  have c_28 := hJ.cell 28 _ rfl
  have c_29 := hJ.cell 29 _ rfl
  have c_30 := hJ.cell 30 _ rfl
  have PA1 := Lib.hid (row_1 w K T (.cells #[.int .i64 j.a.x, .int .i64 j.a.y, .int .i64 j.a.z] 22))
  have PA2 := Lib.hid (row_2 w (.cells K.toArray T) [.int .i64 j.a.x, .int .i64 j.a.y, .int .i64 j.a.z] 22)
  have PB2 := Lib.hid (row_1 w [.int .i64 j.a.x, .int .i64 j.a.y, .int .i64 j.a.z] 22 (.cells K.toArray T))
  have PB1 := Lib.hid (row_2 w (.cells #[.int .i64 j.a.x, .int .i64 j.a.y, .int .i64 j.a.z] 22) K T)
  have PS := Lib.hid (show ∀ w', Below w.heap.size w w' → (fun w' => (loadCellsFrom ⟨J, 0, none⟩ 0 Z #[]).run Try.prog w' = .ok K.toArray w' ∧ w'.cell? ⟨J, 28, none⟩ = some (.int .i64 j.a.x) ∧ w'.cell? ⟨J, 29, none⟩ = some (.int .i64 j.a.y) ∧ w'.cell? ⟨J, 30, none⟩ = some (.int .i64 j.a.z) ∧ Below w.heap.size w w') w' from fun w' hb => ⟨NL.read w' J (fun i v hv => (hb.cell (p := ⟨J, 0 + i, none⟩) hlt).trans (RG.out i v hv)), (hb.cell (p := ⟨J, 28, none⟩) hlt).trans c_28, (hb.cell (p := ⟨J, 29, none⟩) hlt).trans c_29, (hb.cell (p := ⟨J, 30, none⟩) hlt).trans c_30, hb⟩)
  have HJ := Lib.hid hJ
  obtain ⟨f, hf⟩ : ∃ f, f = Sh.fit ⟨j.r0, j.r1, j.a.z⟩ := ⟨_, rfl⟩
  have FS := Lib.hid (show ∀ W : World, Calls Try.prog 36 #[.agg #[.int .i64 j.r0, .int .i64 j.r1, .int .i64 j.a.z]] W fun e w' => e = .returned (.int .i64 f) ∧ Below W.heap.size W w' from fun W => by rw [hf]; exact fits_sh ⟨j.r0, j.r1, j.a.z⟩ W)
  obtain ⟨sz, hsz⟩ : ∃ s, s = sizeG j.a := ⟨_, rfl⟩
  have SA := Lib.hid (show ∀ W : World, Calls Try.prog 20 #[.agg #[.int .i64 j.a.x, .int .i64 j.a.y, .int .i64 j.a.z]] W fun e w' => e = .returned (.int .i64 sz) ∧ Below W.heap.size W w' from fun W => by rw [hsz]; exact size_sh j.a W)
  obtain ⟨c, hc⟩ : ∃ c, c = mkF j ⟨j.r0, j.r1, j.a.z⟩ := ⟨_, rfl⟩
  rw [← hc]
  unfold mkF at hc
  rw [← hf, ← hsz, h] at hc
  have HC := Lib.hid hc
  clear hJ h hf hsz hc
  go_enter Try.func59, Try.ntmps59
  simp only [hL, hAl, hSt]
  clear hL hAl hSt NL
  go_wp2_with fail
  go_region_held3 (fun w' => (loadCellsFrom ⟨J, 0, none⟩ 0 Z #[]).run Try.prog w' = .ok K.toArray w' ∧ w'.cell? ⟨J, 28, none⟩ = some (.int .i64 j.a.x) ∧ w'.cell? ⟨J, 29, none⟩ = some (.int .i64 j.a.y) ∧ w'.cell? ⟨J, 30, none⟩ = some (.int .i64 j.a.z) ∧ Below w.heap.size w w')
    (first | (with_reducible assumption) | (refine PS.out _ ?_; first | (with_reducible exact Below.refl _ _) | (with_reducible exact (Below.refl _ _).drew) | go_grown))
    (first | fail)
  all_goals
    rename_i hH
    obtain ⟨_, _, _, _, hbW⟩ := hH
    (first
    | (have hq : Below w.heap.size w ((w.alloc (.cells K.toArray T)).alloc (.cells #[.int .i64 j.a.x, .int .i64 j.a.y, .int .i64 j.a.z] 22)).drew := hbW; have r1 := PA1.out; have r2 := PA2.out; generalize ((w.alloc (.cells K.toArray T)).alloc (.cells #[.int .i64 j.a.x, .int .i64 j.a.y, .int .i64 j.a.z] 22)).drew = W1 at *; have j2 : J < w.heap.size + 1 := Nat.lt_succ_of_lt hlt; generalize hb1 : w.heap.size + 1 = B2 at *; clear hb1; have n1 := Nat.ne_of_lt hlt; have n2 := Nat.ne_of_lt j2)
    | (have hq : Below w.heap.size w ((w.alloc (.cells #[.int .i64 j.a.x, .int .i64 j.a.y, .int .i64 j.a.z] 22)).alloc (.cells K.toArray T)).drew := hbW; have r1 := PB1.out; have r2 := PB2.out; generalize ((w.alloc (.cells #[.int .i64 j.a.x, .int .i64 j.a.y, .int .i64 j.a.z] 22)).alloc (.cells K.toArray T)).drew = W1 at *; have j2 : J < w.heap.size + 1 := Nat.lt_succ_of_lt hlt; generalize hb1 : w.heap.size + 1 = B2 at *; clear hb1; have n2 := Nat.ne_of_lt hlt; have n1 := Nat.ne_of_lt j2))
    have HJ1 := HJ.out.later hbW hlt
    have HQ := Lib.hid hbW
    clear hbW hq PA1 PA2 PB1 PB2
    have q_0 := r1.cell 0 _ k_0
    have a_0 := r2.cell 0 _ rfl
    have a_1 := r2.cell 1 _ rfl
    have a_2 := r2.cell 2 _ rfl
    have c_37 := HJ1.cell 37 _ rfl
    have c_38 := HJ1.cell 38 _ rfl
    have c_34 := HJ1.cell 34 _ rfl
    have c_35 := HJ1.cell 35 _ rfl
    have c_36 := HJ1.cell 36 _ rfl
    have f_34 := RowAt.fr HJ1 34
    have f_35 := RowAt.fr HJ1 35
    have f_36 := RowAt.fr HJ1 36
    have l1 := r1.lt
    have l2 := r2.lt
    have l3 := RowAt.lt HJ1
    have R1 := Lib.hid r1
    have R2 := Lib.hid r2
    have HJ2 := Lib.hid HJ1
    clear r1 r2 HJ1 tT tU tV tA tS tZ tK RG PS HJ
    go_wp2_with fail
    go_region
    all_goals
      go_wp2_with (go_at_call 36; (with_reducible refine (FS.out _).mono ?_); rintro e w2 ⟨rfl, hb2⟩; have r1' := (((R1.out.aside J 34 _ n1).aside J 35 _ n1).aside J 36 _ n1).drew.over hb2; have q' := r1'.cell 0 _ k_0; have r2' := (((R2.out.aside J 34 _ n2).aside J 35 _ n2).aside J 36 _ n2).drew.over hb2; have a0' := r2'.cell 0 _ rfl; have a1' := r2'.cell 1 _ rfl; have a2' := r2'.cell 2 _ rfl; have HB2 := Lib.hid hb2; clear hb2 r1' r2')
      all_goals
        go_ret
        refine ⟨ret_i64 ?_, grown_trans (grown_drew (grownN_set (grownN_set (grownN_set (below_grown HQ.out (some J)))))) (below_grown HB2.out (some J)), JAt.over ((JAt.set { j with o := ⟨j.r0, j.r1, j.a.z⟩ } (JAt.set { j with o := ⟨j.r0, j.r1, j.o.z⟩ } (JAt.set { j with o := ⟨j.r0, j.o.y, j.o.z⟩ } HJ2.out 34 _ (by decide) rfl) 35 _ (by decide) rfl) 36 _ (by decide) rfl).drew) HB2.out⟩
        rw [HC.out]
        simp_all
end Go.Proofs.Ytmifojpmomdmeaa

namespace Go.Proofs.Ytmifojpmomdmeaa
open Go Go.RowKit
set_option linter.unusedVariables false

set_option maxRecDepth 100000 in
set_option maxHeartbeats 4000000 in
theorem jmk_5 (J : Nat) (j : Jg) (w : World) (hJ : JAt w J j) (h : j.n.op = 5) :
    Calls Try.prog 59 #[.pointer (some ⟨J, 0, none⟩)] w fun e w' => e = .returned (.int .i64 (mkF j ⟨j.r0, j.r1, j.a.z⟩)) ∧ w.grownBy w' (some J) ∧ JAt w' J { j with o := ⟨j.r0, j.r1, j.a.z⟩ } := by
  obtain ⟨T, Z, Z0, K, NL⟩ := node_letter j.n
  have hL := NL.load
  have hAl := NL.alloc
  have hSt := NL.store
  have tA := NL.agg
  have tS := NL.size
  have tZ := NL.zero
  have tK := NL.len
  have tT := NL.tT w
  have tU := NL.tU w
  have tV := NL.tV w
  have hlt := hJ.lt
  have RG := Lib.hid (jg_rg hJ NL)
  have k_0 : K[0]? = some (.int .i64 5) := by rw [NL.cells, ← h]; rfl
  have c_28 := hJ.cell 28 _ rfl
  have c_29 := hJ.cell 29 _ rfl
  have c_30 := hJ.cell 30 _ rfl
  have PA1 := Lib.hid (row_1 w K T (.cells #[.int .i64 j.a.x, .int .i64 j.a.y, .int .i64 j.a.z] 22))
  have PA2 := Lib.hid (row_2 w (.cells K.toArray T) [.int .i64 j.a.x, .int .i64 j.a.y, .int .i64 j.a.z] 22)
  have PB2 := Lib.hid (row_1 w [.int .i64 j.a.x, .int .i64 j.a.y, .int .i64 j.a.z] 22 (.cells K.toArray T))
  have PB1 := Lib.hid (row_2 w (.cells #[.int .i64 j.a.x, .int .i64 j.a.y, .int .i64 j.a.z] 22) K T)
  have PS := Lib.hid (show ∀ w', Below w.heap.size w w' → (fun w' => (loadCellsFrom ⟨J, 0, none⟩ 0 Z #[]).run Try.prog w' = .ok K.toArray w' ∧ w'.cell? ⟨J, 28, none⟩ = some (.int .i64 j.a.x) ∧ w'.cell? ⟨J, 29, none⟩ = some (.int .i64 j.a.y) ∧ w'.cell? ⟨J, 30, none⟩ = some (.int .i64 j.a.z) ∧ Below w.heap.size w w') w' from fun w' hb => ⟨NL.read w' J (fun i v hv => (hb.cell (p := ⟨J, 0 + i, none⟩) hlt).trans (RG.out i v hv)), (hb.cell (p := ⟨J, 28, none⟩) hlt).trans c_28, (hb.cell (p := ⟨J, 29, none⟩) hlt).trans c_29, (hb.cell (p := ⟨J, 30, none⟩) hlt).trans c_30, hb⟩)
  have HJ := Lib.hid hJ
  obtain ⟨f, hf⟩ : ∃ f, f = Sh.fit ⟨j.r0, j.r1, j.a.z⟩ := ⟨_, rfl⟩
  have FS := Lib.hid (show ∀ W : World, Calls Try.prog 36 #[.agg #[.int .i64 j.r0, .int .i64 j.r1, .int .i64 j.a.z]] W fun e w' => e = .returned (.int .i64 f) ∧ Below W.heap.size W w' from fun W => by rw [hf]; exact fits_sh ⟨j.r0, j.r1, j.a.z⟩ W)
  obtain ⟨sz, hsz⟩ : ∃ s, s = sizeG j.a := ⟨_, rfl⟩
  have SA := Lib.hid (show ∀ W : World, Calls Try.prog 20 #[.agg #[.int .i64 j.a.x, .int .i64 j.a.y, .int .i64 j.a.z]] W fun e w' => e = .returned (.int .i64 sz) ∧ Below W.heap.size W w' from fun W => by rw [hsz]; exact size_sh j.a W)
  obtain ⟨c, hc⟩ : ∃ c, c = mkF j ⟨j.r0, j.r1, j.a.z⟩ := ⟨_, rfl⟩
  rw [← hc]
  unfold mkF at hc
  rw [← hf, ← hsz, h] at hc
  have HC := Lib.hid hc
  clear hJ h hf hsz hc
  go_enter Try.func59, Try.ntmps59
  simp only [hL, hAl, hSt]
  clear hL hAl hSt NL
  go_wp2_with fail
  go_region_held3 (fun w' => (loadCellsFrom ⟨J, 0, none⟩ 0 Z #[]).run Try.prog w' = .ok K.toArray w' ∧ w'.cell? ⟨J, 28, none⟩ = some (.int .i64 j.a.x) ∧ w'.cell? ⟨J, 29, none⟩ = some (.int .i64 j.a.y) ∧ w'.cell? ⟨J, 30, none⟩ = some (.int .i64 j.a.z) ∧ Below w.heap.size w w')
    (first | (with_reducible assumption) | (refine PS.out _ ?_; first | (with_reducible exact Below.refl _ _) | (with_reducible exact (Below.refl _ _).drew) | go_grown))
    (first | fail)
  all_goals
    rename_i hH
    obtain ⟨_, _, _, _, hbW⟩ := hH
    (first
    | (have hq : Below w.heap.size w ((w.alloc (.cells K.toArray T)).alloc (.cells #[.int .i64 j.a.x, .int .i64 j.a.y, .int .i64 j.a.z] 22)).drew := hbW; have r1 := PA1.out; have r2 := PA2.out; generalize ((w.alloc (.cells K.toArray T)).alloc (.cells #[.int .i64 j.a.x, .int .i64 j.a.y, .int .i64 j.a.z] 22)).drew = W1 at *; have j2 : J < w.heap.size + 1 := Nat.lt_succ_of_lt hlt; generalize hb1 : w.heap.size + 1 = B2 at *; clear hb1; have n1 := Nat.ne_of_lt hlt; have n2 := Nat.ne_of_lt j2)
    | (have hq : Below w.heap.size w ((w.alloc (.cells #[.int .i64 j.a.x, .int .i64 j.a.y, .int .i64 j.a.z] 22)).alloc (.cells K.toArray T)).drew := hbW; have r1 := PB1.out; have r2 := PB2.out; generalize ((w.alloc (.cells #[.int .i64 j.a.x, .int .i64 j.a.y, .int .i64 j.a.z] 22)).alloc (.cells K.toArray T)).drew = W1 at *; have j2 : J < w.heap.size + 1 := Nat.lt_succ_of_lt hlt; generalize hb1 : w.heap.size + 1 = B2 at *; clear hb1; have n2 := Nat.ne_of_lt hlt; have n1 := Nat.ne_of_lt j2))
    have HJ1 := HJ.out.later hbW hlt
    have HQ := Lib.hid hbW
    clear hbW hq PA1 PA2 PB1 PB2
    have q_0 := r1.cell 0 _ k_0
    have a_0 := r2.cell 0 _ rfl
    have a_1 := r2.cell 1 _ rfl
    have a_2 := r2.cell 2 _ rfl
    have c_37 := HJ1.cell 37 _ rfl
    have c_38 := HJ1.cell 38 _ rfl
    have c_34 := HJ1.cell 34 _ rfl
    have c_35 := HJ1.cell 35 _ rfl
    have c_36 := HJ1.cell 36 _ rfl
    have f_34 := RowAt.fr HJ1 34
    have f_35 := RowAt.fr HJ1 35
    have f_36 := RowAt.fr HJ1 36
    have l1 := r1.lt
    have l2 := r2.lt
    have l3 := RowAt.lt HJ1
    have R1 := Lib.hid r1
    have R2 := Lib.hid r2
    have HJ2 := Lib.hid HJ1
    clear r1 r2 HJ1 tT tU tV tA tS tZ tK RG PS HJ
    go_wp2_with fail
    go_region
    all_goals
      go_wp2_with (go_at_call 36; (with_reducible refine (FS.out _).mono ?_); rintro e w2 ⟨rfl, hb2⟩; have r1' := (((R1.out.aside J 34 _ n1).aside J 35 _ n1).aside J 36 _ n1).drew.over hb2; have q' := r1'.cell 0 _ k_0; have r2' := (((R2.out.aside J 34 _ n2).aside J 35 _ n2).aside J 36 _ n2).drew.over hb2; have a0' := r2'.cell 0 _ rfl; have a1' := r2'.cell 1 _ rfl; have a2' := r2'.cell 2 _ rfl; have HB2 := Lib.hid hb2; clear hb2 r1' r2')
      all_goals
        go_ret
        refine ⟨ret_i64 ?_, grown_trans (grown_drew (grownN_set (grownN_set (grownN_set (below_grown HQ.out (some J)))))) (below_grown HB2.out (some J)), JAt.over ((JAt.set { j with o := ⟨j.r0, j.r1, j.a.z⟩ } (JAt.set { j with o := ⟨j.r0, j.r1, j.o.z⟩ } (JAt.set { j with o := ⟨j.r0, j.o.y, j.o.z⟩ } HJ2.out 34 _ (by decide) rfl) 35 _ (by decide) rfl) 36 _ (by decide) rfl).drew) HB2.out⟩
        rw [HC.out]
        simp_all
set_option maxRecDepth 100000 in
set_option maxHeartbeats 4000000 in
theorem jmk_6 (J : Nat) (j : Jg) (w : World) (hJ : JAt w J j) (h : j.n.op = 6) :
    Calls Try.prog 59 #[.pointer (some ⟨J, 0, none⟩)] w fun e w' => e = .returned (.int .i64 (mkF j ⟨j.r0, j.r1, j.a.z⟩)) ∧ w.grownBy w' (some J) ∧ JAt w' J { j with o := ⟨j.r0, j.r1, j.a.z⟩ } := by
  obtain ⟨T, Z, Z0, K, NL⟩ := node_letter j.n
  have hL := NL.load
  have hAl := NL.alloc
  have hSt := NL.store
  have tA := NL.agg
  have tS := NL.size
  have tZ := NL.zero
  have tK := NL.len
  have tT := NL.tT w
  have tU := NL.tU w
  have tV := NL.tV w
  have hlt := hJ.lt
  have RG := Lib.hid (jg_rg hJ NL)
  have k_0 : K[0]? = some (.int .i64 6) := by rw [NL.cells, ← h]; rfl
  have c_28 := hJ.cell 28 _ rfl
  have c_29 := hJ.cell 29 _ rfl
  have c_30 := hJ.cell 30 _ rfl
  have PA1 := Lib.hid (row_1 w K T (.cells #[.int .i64 j.a.x, .int .i64 j.a.y, .int .i64 j.a.z] 22))
  have PA2 := Lib.hid (row_2 w (.cells K.toArray T) [.int .i64 j.a.x, .int .i64 j.a.y, .int .i64 j.a.z] 22)
  have PB2 := Lib.hid (row_1 w [.int .i64 j.a.x, .int .i64 j.a.y, .int .i64 j.a.z] 22 (.cells K.toArray T))
  have PB1 := Lib.hid (row_2 w (.cells #[.int .i64 j.a.x, .int .i64 j.a.y, .int .i64 j.a.z] 22) K T)
  have PS := Lib.hid (show ∀ w', Below w.heap.size w w' → (fun w' => (loadCellsFrom ⟨J, 0, none⟩ 0 Z #[]).run Try.prog w' = .ok K.toArray w' ∧ w'.cell? ⟨J, 28, none⟩ = some (.int .i64 j.a.x) ∧ w'.cell? ⟨J, 29, none⟩ = some (.int .i64 j.a.y) ∧ w'.cell? ⟨J, 30, none⟩ = some (.int .i64 j.a.z) ∧ Below w.heap.size w w') w' from fun w' hb => ⟨NL.read w' J (fun i v hv => (hb.cell (p := ⟨J, 0 + i, none⟩) hlt).trans (RG.out i v hv)), (hb.cell (p := ⟨J, 28, none⟩) hlt).trans c_28, (hb.cell (p := ⟨J, 29, none⟩) hlt).trans c_29, (hb.cell (p := ⟨J, 30, none⟩) hlt).trans c_30, hb⟩)
  have HJ := Lib.hid hJ
  obtain ⟨f, hf⟩ : ∃ f, f = Sh.fit ⟨j.r0, j.r1, j.a.z⟩ := ⟨_, rfl⟩
  have FS := Lib.hid (show ∀ W : World, Calls Try.prog 36 #[.agg #[.int .i64 j.r0, .int .i64 j.r1, .int .i64 j.a.z]] W fun e w' => e = .returned (.int .i64 f) ∧ Below W.heap.size W w' from fun W => by rw [hf]; exact fits_sh ⟨j.r0, j.r1, j.a.z⟩ W)
  obtain ⟨sz, hsz⟩ : ∃ s, s = sizeG j.a := ⟨_, rfl⟩
  have SA := Lib.hid (show ∀ W : World, Calls Try.prog 20 #[.agg #[.int .i64 j.a.x, .int .i64 j.a.y, .int .i64 j.a.z]] W fun e w' => e = .returned (.int .i64 sz) ∧ Below W.heap.size W w' from fun W => by rw [hsz]; exact size_sh j.a W)
  obtain ⟨c, hc⟩ : ∃ c, c = mkF j ⟨j.r0, j.r1, j.a.z⟩ := ⟨_, rfl⟩
  rw [← hc]
  unfold mkF at hc
  rw [← hf, ← hsz, h] at hc
  have HC := Lib.hid hc
  clear hJ h hf hsz hc
  go_enter Try.func59, Try.ntmps59
  simp only [hL, hAl, hSt]
  clear hL hAl hSt NL
  go_wp2_with fail
  go_region_held3 (fun w' => (loadCellsFrom ⟨J, 0, none⟩ 0 Z #[]).run Try.prog w' = .ok K.toArray w' ∧ w'.cell? ⟨J, 28, none⟩ = some (.int .i64 j.a.x) ∧ w'.cell? ⟨J, 29, none⟩ = some (.int .i64 j.a.y) ∧ w'.cell? ⟨J, 30, none⟩ = some (.int .i64 j.a.z) ∧ Below w.heap.size w w')
    (first | (with_reducible assumption) | (refine PS.out _ ?_; first | (with_reducible exact Below.refl _ _) | (with_reducible exact (Below.refl _ _).drew) | go_grown))
    (first | fail)
  all_goals
    rename_i hH
    obtain ⟨_, _, _, _, hbW⟩ := hH
    (first
    | (have hq : Below w.heap.size w ((w.alloc (.cells K.toArray T)).alloc (.cells #[.int .i64 j.a.x, .int .i64 j.a.y, .int .i64 j.a.z] 22)).drew := hbW; have r1 := PA1.out; have r2 := PA2.out; generalize ((w.alloc (.cells K.toArray T)).alloc (.cells #[.int .i64 j.a.x, .int .i64 j.a.y, .int .i64 j.a.z] 22)).drew = W1 at *; have j2 : J < w.heap.size + 1 := Nat.lt_succ_of_lt hlt; generalize hb1 : w.heap.size + 1 = B2 at *; clear hb1; have n1 := Nat.ne_of_lt hlt; have n2 := Nat.ne_of_lt j2)
    | (have hq : Below w.heap.size w ((w.alloc (.cells #[.int .i64 j.a.x, .int .i64 j.a.y, .int .i64 j.a.z] 22)).alloc (.cells K.toArray T)).drew := hbW; have r1 := PB1.out; have r2 := PB2.out; generalize ((w.alloc (.cells #[.int .i64 j.a.x, .int .i64 j.a.y, .int .i64 j.a.z] 22)).alloc (.cells K.toArray T)).drew = W1 at *; have j2 : J < w.heap.size + 1 := Nat.lt_succ_of_lt hlt; generalize hb1 : w.heap.size + 1 = B2 at *; clear hb1; have n2 := Nat.ne_of_lt hlt; have n1 := Nat.ne_of_lt j2))
    have HJ1 := HJ.out.later hbW hlt
    have HQ := Lib.hid hbW
    clear hbW hq PA1 PA2 PB1 PB2
    have q_0 := r1.cell 0 _ k_0
    have a_0 := r2.cell 0 _ rfl
    have a_1 := r2.cell 1 _ rfl
    have a_2 := r2.cell 2 _ rfl
    have c_37 := HJ1.cell 37 _ rfl
    have c_38 := HJ1.cell 38 _ rfl
    have c_34 := HJ1.cell 34 _ rfl
    have c_35 := HJ1.cell 35 _ rfl
    have c_36 := HJ1.cell 36 _ rfl
    have f_34 := RowAt.fr HJ1 34
    have f_35 := RowAt.fr HJ1 35
    have f_36 := RowAt.fr HJ1 36
    have l1 := r1.lt
    have l2 := r2.lt
    have l3 := RowAt.lt HJ1
    have R1 := Lib.hid r1
    have R2 := Lib.hid r2
    have HJ2 := Lib.hid HJ1
    clear r1 r2 HJ1 tT tU tV tA tS tZ tK RG PS HJ
    go_wp2_with fail
    go_region
    all_goals
      go_wp2_with (go_at_call 36; (with_reducible refine (FS.out _).mono ?_); rintro e w2 ⟨rfl, hb2⟩; have r1' := (((R1.out.aside J 34 _ n1).aside J 35 _ n1).aside J 36 _ n1).drew.over hb2; have q' := r1'.cell 0 _ k_0; have r2' := (((R2.out.aside J 34 _ n2).aside J 35 _ n2).aside J 36 _ n2).drew.over hb2; have a0' := r2'.cell 0 _ rfl; have a1' := r2'.cell 1 _ rfl; have a2' := r2'.cell 2 _ rfl; have HB2 := Lib.hid hb2; clear hb2 r1' r2')
      all_goals
        go_ret
        refine ⟨ret_i64 ?_, grown_trans (grown_drew (grownN_set (grownN_set (grownN_set (below_grown HQ.out (some J)))))) (below_grown HB2.out (some J)), JAt.over ((JAt.set { j with o := ⟨j.r0, j.r1, j.a.z⟩ } (JAt.set { j with o := ⟨j.r0, j.r1, j.o.z⟩ } (JAt.set { j with o := ⟨j.r0, j.o.y, j.o.z⟩ } HJ2.out 34 _ (by decide) rfl) 35 _ (by decide) rfl) 36 _ (by decide) rfl).drew) HB2.out⟩
        rw [HC.out]
        simp_all
set_option maxRecDepth 100000 in
set_option maxHeartbeats 4000000 in
theorem jmk_12 (J : Nat) (j : Jg) (w : World) (hJ : JAt w J j) (h : j.n.op = 12) (ha : j.a.good = true) (hb : j.b.good = true) :
    Calls Try.prog 59 #[.pointer (some ⟨J, 0, none⟩)] w fun e w' => e = .returned (.int .i64 (mkF j ⟨j.a.x, j.a.y, j.a.z + j.b.z⟩)) ∧ w.grownBy w' (some J) ∧ JAt w' J { j with o := ⟨j.a.x, j.a.y, j.a.z + j.b.z⟩ } := by
  obtain ⟨T, Z, Z0, K, NL⟩ := node_letter j.n
  have hL := NL.load
  have hAl := NL.alloc
  have hSt := NL.store
  have tA := NL.agg
  have tS := NL.size
  have tZ := NL.zero
  have tK := NL.len
  have tT := NL.tT w
  have tU := NL.tU w
  have tV := NL.tV w
  have hlt := hJ.lt
  have RG := Lib.hid (jg_rg hJ NL)
  have k_0 : K[0]? = some (.int .i64 12) := by rw [NL.cells, ← h]; rfl
  have c_28 := hJ.cell 28 _ rfl
  have c_29 := hJ.cell 29 _ rfl
  have c_30 := hJ.cell 30 _ rfl
  have PA1 := Lib.hid (row_1 w K T (.cells #[.int .i64 j.a.x, .int .i64 j.a.y, .int .i64 j.a.z] 22))
  have PA2 := Lib.hid (row_2 w (.cells K.toArray T) [.int .i64 j.a.x, .int .i64 j.a.y, .int .i64 j.a.z] 22)
  have PB2 := Lib.hid (row_1 w [.int .i64 j.a.x, .int .i64 j.a.y, .int .i64 j.a.z] 22 (.cells K.toArray T))
  have PB1 := Lib.hid (row_2 w (.cells #[.int .i64 j.a.x, .int .i64 j.a.y, .int .i64 j.a.z] 22) K T)
  have PS := Lib.hid (show ∀ w', Below w.heap.size w w' → (fun w' => (loadCellsFrom ⟨J, 0, none⟩ 0 Z #[]).run Try.prog w' = .ok K.toArray w' ∧ w'.cell? ⟨J, 28, none⟩ = some (.int .i64 j.a.x) ∧ w'.cell? ⟨J, 29, none⟩ = some (.int .i64 j.a.y) ∧ w'.cell? ⟨J, 30, none⟩ = some (.int .i64 j.a.z) ∧ Below w.heap.size w w') w' from fun w' hb => ⟨NL.read w' J (fun i v hv => (hb.cell (p := ⟨J, 0 + i, none⟩) hlt).trans (RG.out i v hv)), (hb.cell (p := ⟨J, 28, none⟩) hlt).trans c_28, (hb.cell (p := ⟨J, 29, none⟩) hlt).trans c_29, (hb.cell (p := ⟨J, 30, none⟩) hlt).trans c_30, hb⟩)
  have HJ := Lib.hid hJ
  obtain ⟨f, hf⟩ : ∃ f, f = Sh.fit ⟨j.a.x, j.a.y, j.a.z + j.b.z⟩ := ⟨_, rfl⟩
  have FS := Lib.hid (show ∀ W : World, Calls Try.prog 36 #[.agg #[.int .i64 j.a.x, .int .i64 j.a.y, .int .i64 (j.a.z + j.b.z)]] W fun e w' => e = .returned (.int .i64 f) ∧ Below W.heap.size W w' from fun W => by rw [hf]; exact fits_sh ⟨j.a.x, j.a.y, j.a.z + j.b.z⟩ W)
  obtain ⟨sz, hsz⟩ : ∃ s, s = sizeG j.a := ⟨_, rfl⟩
  have SA := Lib.hid (show ∀ W : World, Calls Try.prog 20 #[.agg #[.int .i64 j.a.x, .int .i64 j.a.y, .int .i64 j.a.z]] W fun e w' => e = .returned (.int .i64 sz) ∧ Below W.heap.size W w' from fun W => by rw [hsz]; exact size_sh j.a W)
  obtain ⟨c, hc⟩ : ∃ c, c = mkF j ⟨j.a.x, j.a.y, j.a.z + j.b.z⟩ := ⟨_, rfl⟩
  rw [← hc]
  unfold mkF at hc
  rw [← hf, ← hsz, h] at hc
  have HC := Lib.hid hc
  clear hJ h hf hsz hc
  obtain ⟨g1, g2⟩ : (1 ≤ j.a.z ∧ j.a.z ≤ 64) ∧ 1 ≤ j.b.z ∧ j.b.z ≤ 64 := by have x := of_decide_eq_true ha; have y := of_decide_eq_true hb; exact ⟨⟨x.2.2.2.2.1, x.2.2.2.2.2.1⟩, y.2.2.2.2.1, y.2.2.2.2.2.1⟩
  obtain ⟨g3, g4⟩ := g1
  obtain ⟨g5, g6⟩ := g2
  go_enter Try.func59, Try.ntmps59
  simp only [hL, hAl, hSt]
  clear hL hAl hSt NL
  go_wp2_with fail
  go_region_held3 (fun w' => (loadCellsFrom ⟨J, 0, none⟩ 0 Z #[]).run Try.prog w' = .ok K.toArray w' ∧ w'.cell? ⟨J, 28, none⟩ = some (.int .i64 j.a.x) ∧ w'.cell? ⟨J, 29, none⟩ = some (.int .i64 j.a.y) ∧ w'.cell? ⟨J, 30, none⟩ = some (.int .i64 j.a.z) ∧ Below w.heap.size w w')
    (first | (with_reducible assumption) | (refine PS.out _ ?_; first | (with_reducible exact Below.refl _ _) | (with_reducible exact (Below.refl _ _).drew) | go_grown))
    (first | fail)
  all_goals
    rename_i hH
    obtain ⟨_, _, _, _, hbW⟩ := hH
    (first
    | (have hq : Below w.heap.size w ((w.alloc (.cells K.toArray T)).alloc (.cells #[.int .i64 j.a.x, .int .i64 j.a.y, .int .i64 j.a.z] 22)).drew := hbW; have r1 := PA1.out; have r2 := PA2.out; generalize ((w.alloc (.cells K.toArray T)).alloc (.cells #[.int .i64 j.a.x, .int .i64 j.a.y, .int .i64 j.a.z] 22)).drew = W1 at *; have j2 : J < w.heap.size + 1 := Nat.lt_succ_of_lt hlt; generalize hb1 : w.heap.size + 1 = B2 at *; clear hb1; have n1 := Nat.ne_of_lt hlt; have n2 := Nat.ne_of_lt j2)
    | (have hq : Below w.heap.size w ((w.alloc (.cells #[.int .i64 j.a.x, .int .i64 j.a.y, .int .i64 j.a.z] 22)).alloc (.cells K.toArray T)).drew := hbW; have r1 := PB1.out; have r2 := PB2.out; generalize ((w.alloc (.cells #[.int .i64 j.a.x, .int .i64 j.a.y, .int .i64 j.a.z] 22)).alloc (.cells K.toArray T)).drew = W1 at *; have j2 : J < w.heap.size + 1 := Nat.lt_succ_of_lt hlt; generalize hb1 : w.heap.size + 1 = B2 at *; clear hb1; have n2 := Nat.ne_of_lt hlt; have n1 := Nat.ne_of_lt j2))
    have HJ1 := HJ.out.later hbW hlt
    have HQ := Lib.hid hbW
    clear hbW hq PA1 PA2 PB1 PB2
    have q_0 := r1.cell 0 _ k_0
    have a_0 := r2.cell 0 _ rfl
    have a_1 := r2.cell 1 _ rfl
    have a_2 := r2.cell 2 _ rfl
    have c_33 := HJ1.cell 33 _ rfl
    have c_34 := HJ1.cell 34 _ rfl
    have c_35 := HJ1.cell 35 _ rfl
    have c_36 := HJ1.cell 36 _ rfl
    have f_34 := RowAt.fr HJ1 34
    have f_35 := RowAt.fr HJ1 35
    have f_36 := RowAt.fr HJ1 36
    have l1 := r1.lt
    have l2 := r2.lt
    have l3 := RowAt.lt HJ1
    have R1 := Lib.hid r1
    have R2 := Lib.hid r2
    have HJ2 := Lib.hid HJ1
    clear r1 r2 HJ1 tT tU tV tA tS tZ tK RG PS HJ
    go_wp2_with fail
    go_region
    all_goals
      go_wp2_with (go_at_call 36; (with_reducible refine (FS.out _).mono ?_); rintro e w2 ⟨rfl, hb2⟩; have r1' := (((R1.out.aside J 34 _ n1).aside J 35 _ n1).aside J 36 _ n1).drew.over hb2; have q' := r1'.cell 0 _ k_0; have r2' := (((R2.out.aside J 34 _ n2).aside J 35 _ n2).aside J 36 _ n2).drew.over hb2; have a0' := r2'.cell 0 _ rfl; have a1' := r2'.cell 1 _ rfl; have a2' := r2'.cell 2 _ rfl; have HB2 := Lib.hid hb2; clear hb2 r1' r2')
      all_goals
        go_ret
        refine ⟨ret_i64 ?_, grown_trans (grown_drew (grownN_set (grownN_set (grownN_set (below_grown HQ.out (some J)))))) (below_grown HB2.out (some J)), JAt.over ((JAt.set { j with o := ⟨j.a.x, j.a.y, j.a.z + j.b.z⟩ } (JAt.set { j with o := ⟨j.a.x, j.a.y, j.o.z⟩ } (JAt.set { j with o := ⟨j.a.x, j.o.y, j.o.z⟩ } HJ2.out 34 _ (by decide) rfl) 35 _ (by decide) rfl) 36 _ (by decide) rfl).drew) HB2.out⟩
        rw [HC.out]
        simp_all
end Go.Proofs.Ytmifojpmomdmeaa
