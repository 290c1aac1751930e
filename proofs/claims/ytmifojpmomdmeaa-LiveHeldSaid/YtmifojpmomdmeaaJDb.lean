/- Package infer: the judge's method makes. -/
import Derived.Test.YtmifojpmomdmeaaJP
import Derived.Test.YtmifojpmomdmeaaTW
import Derived.BigRegion
namespace Go.Proofs.Ytmifojpmomdmeaa
open Go Go.RowKit
set_option linter.unusedVariables false

set_option maxRecDepth 100000 in
set_option maxHeartbeats 4000000 in
theorem jmk_7 (J : Nat) (j : Jg) (w : World) (hJ : JAt w J j) (h : j.n.op = 7) :
    Calls Try.prog 59 #[.pointer (some ⟨J, 0, none⟩)] w fun e w' => e = .returned (.int .i64 (mkF j ⟨j.a.x, j.a.y, j.a.z⟩)) ∧ w.grownBy w' (some J) ∧ JAt w' J { j with o := ⟨j.a.x, j.a.y, j.a.z⟩ } := by
  obtain ⟨T, Z, Z0, K, NL⟩ := node_letter j.n
  have hL := NL.load
  have hAl := NL.alloc
  have hSt := NL.store
  have tA := NL.agg
  have tS := NL.size
  have tZ := NL.zero
  have tK := NL.len
  have tT := NL.tT w
  have tU := NL.tU w
  have tV := NL.tV w
  have hlt := hJ.lt
  have RG := Lib.hid (jg_rg hJ NL)
  have k_0 : K[0]? = some (.int .i64 7) := by rw [NL.cells, ← h]; rfl
  have c_28 := hJ.cell 28 _ rfl
  have c_29 := hJ.cell 29 _ rfl
  have c_30 := hJ.cell 30 _ rfl
  have PA1 := Lib.hid (row_1 w K T (.cells #[.int .i64 j.a.x, .int .i64 j.a.y, .int .i64 j.a.z] 22))
  have PA2 := Lib.hid (row_2 w (.cells K.toArray T) [.int .i64 j.a.x, .int .i64 j.a.y, .int .i64 j.a.z] 22)
  have PB2 := Lib.hid (row_1 w [.int .i64 j.a.x, .int .i64 j.a.y, .int .i64 j.a.z] 22 (.cells K.toArray T))
  have PB1 := Lib.hid (row_2 w (.cells #[.int .i64 j.a.x, .int .i64 j.a.y, .int .i64 j.a.z] 22) K T)
  have PS := Lib.hid (show ∀ w', Below w.heap.size w w' → (fun w' => (loadCellsFrom ⟨J, 0, none⟩ 0 Z #[]).run Try.prog w' = .ok K.toArray w' ∧ w'.cell? ⟨J, 28, none⟩ = some (.int .i64 j.a.x) ∧ w'.cell? ⟨J, 29, none⟩ = some (.int .i64 j.a.y) ∧ w'.cell? ⟨J, 30, none⟩ = some (.int .i64 j.a.z) ∧ Below w.heap.size w w') w' from fun w' hb => ⟨NL.read w' J (fun i v hv => (hb.cell (p := ⟨J, 0 + i, none⟩) hlt).trans (RG.out i v hv)), (hb.cell (p := ⟨J, 28, none⟩) hlt).trans c_28, (hb.cell (p := ⟨J, 29, none⟩) hlt).trans c_29, (hb.cell (p := ⟨J, 30, none⟩) hlt).trans c_30, hb⟩)
  have HJ := Lib.hid hJ
  obtain ⟨f, hf⟩ : ∃ f, f = Sh.fit ⟨j.a.x, j.a.y, j.a.z⟩ := ⟨_, rfl⟩
  have FS := Lib.hid (show ∀ W : World, Calls Try.prog 36 #[.agg #[.int .i64 j.a.x, .int .i64 j.a.y, .int .i64 j.a.z]] W fun e w' => e = .returned (.int .i64 f) ∧ Below W.heap.size W w' from fun W => by rw [hf]; exact fits_sh ⟨j.a.x, j.a.y, j.a.z⟩ W)
  obtain ⟨sz, hsz⟩ : ∃ s, s = sizeG j.a := ⟨_, rfl⟩
  have SA := Lib.hid (show ∀ W : World, Calls Try.prog 20 #[.agg #[.int .i64 j.a.x, .int .i64 j.a.y, .int .i64 j.a.z]] W fun e w' => e = .returned (.int .i64 sz) ∧ Below W.heap.size W w' from fun W => by rw [hsz]; exact size_sh j.a W)
  obtain ⟨c, hc⟩ : ∃ c, c = mkF j ⟨j.a.x, j.a.y, j.a.z⟩ := ⟨_, rfl⟩
  rw [← hc]
  unfold mkF at hc
  rw [← hf, ← hsz, h] at hc
  have HC := Lib.hid hc
  clear hJ h hf hsz hc
  go_enter Try.func59, Try.ntmps59
  simp only [hL, hAl, hSt]
  clear hL hAl hSt NL
  go_wp2_with fail
  go_region_held3 (fun w' => (loadCellsFrom ⟨J, 0, none⟩ 0 Z #[]).run Try.prog w' = .ok K.toArray w' ∧ w'.cell? ⟨J, 28, none⟩ = some (.int .i64 j.a.x) ∧ w'.cell? ⟨J, 29, none⟩ = some (.int .i64 j.a.y) ∧ w'.cell? ⟨J, 30, none⟩ = some (.int .i64 j.a.z) ∧ Below w.heap.size w w')
    (first | (with_reducible assumption) | (refine PS.out _ ?_; first | (with_reducible exact Below.refl _ _) | (with_reducible exact (Below.refl _ _).drew) | go_grown))
    (first | fail)
  all_goals
    rename_i hH
    obtain ⟨_, _, _, _, hbW⟩ := hH
    (first
    | (have hq : Below w.heap.size w ((w.alloc (.cells K.toArray T)).alloc (.cells #[.int .i64 j.a.x, .int .i64 j.a.y, .int .i64 j.a.z] 22)).drew := hbW; have r1 := PA1.out; have r2 := PA2.out; generalize ((w.alloc (.cells K.toArray T)).alloc (.cells #[.int .i64 j.a.x, .int .i64 j.a.y, .int .i64 j.a.z] 22)).drew = W1 at *; have j2 : J < w.heap.size + 1 := Nat.lt_succ_of_lt hlt; generalize hb1 : w.heap.size + 1 = B2 at *; clear hb1; have n1 := Nat.ne_of_lt hlt; have n2 := Nat.ne_of_lt j2)
    | (have hq : Below w.heap.size w ((w.alloc (.cells #[.int .i64 j.a.x, .int .i64 j.a.y, .int .i64 j.a.z] 22)).alloc (.cells K.toArray T)).drew := hbW; have r1 := PB1.out; have r2 := PB2.out; generalize ((w.alloc (.cells #[.int .i64 j.a.x, .int .i64 j.a.y, .int .i64 j.a.z] 22)).alloc (.cells K.toArray T)).drew = W1 at *; have j2 : J < w.heap.size + 1 := Nat.lt_succ_of_lt hlt; generalize hb1 : w.heap.size + 1 = B2 at *; clear hb1; have n2 := Nat.ne_of_lt hlt; have n1 := Nat.ne_of_lt j2))
    have HJ1 := HJ.out.later hbW hlt
    have HQ := Lib.hid hbW
    clear hbW hq PA1 PA2 PB1 PB2
    have q_0 := r1.cell 0 _ k_0
    have a_0 := r2.cell 0 _ rfl
    have a_1 := r2.cell 1 _ rfl
    have a_2 := r2.cell 2 _ rfl
    have c_34 := HJ1.cell 34 _ rfl
    have c_35 := HJ1.cell 35 _ rfl
    have c_36 := HJ1.cell 36 _ rfl
    have f_34 := RowAt.fr HJ1 34
    have f_35 := RowAt.fr HJ1 35
    have f_36 := RowAt.fr HJ1 36
    have l1 := r1.lt
    have l2 := r2.lt
    have l3 := RowAt.lt HJ1
    have R1 := Lib.hid r1
    have R2 := Lib.hid r2
    have HJ2 := Lib.hid HJ1
    clear r1 r2 HJ1 tT tU tV tA tS tZ tK RG PS HJ
    go_wp2_with (go_at_call 36; (with_reducible refine (FS.out _).mono ?_); rintro e w2 ⟨rfl, hb2⟩; have r1' := (((R1.out.aside J 34 _ n1).aside J 35 _ n1).aside J 36 _ n1).over hb2; have q' := r1'.cell 0 _ k_0; have r2' := (((R2.out.aside J 34 _ n2).aside J 35 _ n2).aside J 36 _ n2).over hb2; have a0' := r2'.cell 0 _ rfl; have a1' := r2'.cell 1 _ rfl; have a2' := r2'.cell 2 _ rfl; have HB2 := Lib.hid hb2; clear hb2 r1' r2')
    all_goals
      go_ret
      refine ⟨ret_i64 ?_, grown_trans (grownN_set (grownN_set (grownN_set (below_grown HQ.out (some J))))) (below_grown HB2.out (some J)), JAt.over ((JAt.set { j with o := ⟨j.a.x, j.a.y, j.a.z⟩ } (JAt.set { j with o := ⟨j.a.x, j.a.y, j.o.z⟩ } (JAt.set { j with o := ⟨j.a.x, j.o.y, j.o.z⟩ } HJ2.out 34 _ (by decide) rfl) 35 _ (by decide) rfl) 36 _ (by decide) rfl)) HB2.out⟩
      rw [HC.out]
      simp_all
set_option maxRecDepth 100000 in
set_option maxHeartbeats 4000000 in
theorem jmk_8 (J : Nat) (j : Jg) (w : World) (hJ : JAt w J j) (h : j.n.op = 8) :
    Calls Try.prog 59 #[.pointer (some ⟨J, 0, none⟩)] w fun e w' => e = .returned (.int .i64 (mkF j ⟨j.a.x, j.a.y, j.a.z⟩)) ∧ w.grownBy w' (some J) ∧ JAt w' J { j with o := ⟨j.a.x, j.a.y, j.a.z⟩ } := by
  obtain ⟨T, Z, Z0, K, NL⟩ := node_letter j.n
  have hL := NL.load
  have hAl := NL.alloc
  have hSt := NL.store
  have tA := NL.agg
  have tS := NL.size
  have tZ := NL.zero
  have tK := NL.len
  have tT := NL.tT w
  have tU := NL.tU w
  have tV := NL.tV w
  have hlt := hJ.lt
  have RG := Lib.hid (jg_rg hJ NL)
  have k_0 : K[0]? = some (.int .i64 8) := by rw [NL.cells, ← h]; rfl
  have c_28 := hJ.cell 28 _ rfl
  have c_29 := hJ.cell 29 _ rfl
  have c_30 := hJ.cell 30 _ rfl
  have PA1 := Lib.hid (row_1 w K T (.cells #[.int .i64 j.a.x, .int .i64 j.a.y, .int .i64 j.a.z] 22))
  have PA2 := Lib.hid (row_2 w (.cells K.toArray T) [.int .i64 j.a.x, .int .i64 j.a.y, .int .i64 j.a.z] 22)
  have PB2 := Lib.hid (row_1 w [.int .i64 j.a.x, .int .i64 j.a.y, .int .i64 j.a.z] 22 (.cells K.toArray T))
  have PB1 := Lib.hid (row_2 w (.cells #[.int .i64 j.a.x, .int .i64 j.a.y, .int .i64 j.a.z] 22) K T)
  have PS := Lib.hid (show ∀ w', Below w.heap.size w w' → (fun w' => (loadCellsFrom ⟨J, 0, none⟩ 0 Z #[]).run Try.prog w' = .ok K.toArray w' ∧ w'.cell? ⟨J, 28, none⟩ = some (.int .i64 j.a.x) ∧ w'.cell? ⟨J, 29, none⟩ = some (.int .i64 j.a.y) ∧ w'.cell? ⟨J, 30, none⟩ = some (.int .i64 j.a.z) ∧ Below w.heap.size w w') w' from fun w' hb => ⟨NL.read w' J (fun i v hv => (hb.cell (p := ⟨J, 0 + i, none⟩) hlt).trans (RG.out i v hv)), (hb.cell (p := ⟨J, 28, none⟩) hlt).trans c_28, (hb.cell (p := ⟨J, 29, none⟩) hlt).trans c_29, (hb.cell (p := ⟨J, 30, none⟩) hlt).trans c_30, hb⟩)
  have HJ := Lib.hid hJ
  obtain ⟨f, hf⟩ : ∃ f, f = Sh.fit ⟨j.a.x, j.a.y, j.a.z⟩ := ⟨_, rfl⟩
  have FS := Lib.hid (show ∀ W : World, Calls Try.prog 36 #[.agg #[.int .i64 j.a.x, .int .i64 j.a.y, .int .i64 j.a.z]] W fun e w' => e = .returned (.int .i64 f) ∧ Below W.heap.size W w' from fun W => by rw [hf]; exact fits_sh ⟨j.a.x, j.a.y, j.a.z⟩ W)
  obtain ⟨sz, hsz⟩ : ∃ s, s = sizeG j.a := ⟨_, rfl⟩
  have SA := Lib.hid (show ∀ W : World, Calls Try.prog 20 #[.agg #[.int .i64 j.a.x, .int .i64 j.a.y, .int .i64 j.a.z]] W fun e w' => e = .returned (.int .i64 sz) ∧ Below W.heap.size W w' from fun W => by rw [hsz]; exact size_sh j.a W)
  obtain ⟨c, hc⟩ : ∃ c, c = mkF j ⟨j.a.x, j.a.y, j.a.z⟩ := ⟨_, rfl⟩
  rw [← hc]
  unfold mkF at hc
  rw [← hf, ← hsz, h] at hc
  have HC := Lib.hid hc
  clear hJ h hf hsz hc
  go_enter Try.func59, Try.ntmps59
  simp only [hL, hAl, hSt]
  clear hL hAl hSt NL
  go_wp2_with fail
  go_region_held3 (fun w' => (loadCellsFrom ⟨J, 0, none⟩ 0 Z #[]).run Try.prog w' = .ok K.toArray w' ∧ w'.cell? ⟨J, 28, none⟩ = some (.int .i64 j.a.x) ∧ w'.cell? ⟨J, 29, none⟩ = some (.int .i64 j.a.y) ∧ w'.cell? ⟨J, 30, none⟩ = some (.int .i64 j.a.z) ∧ Below w.heap.size w w')
    (first | (with_reducible assumption) | (refine PS.out _ ?_; first | (with_reducible exact Below.refl _ _) | (with_reducible exact (Below.refl _ _).drew) | go_grown))
    (first | fail)
  all_goals
    rename_i hH
    obtain ⟨_, _, _, _, hbW⟩ := hH
    (first
    | (have hq : Below w.heap.size w ((w.alloc (.cells K.toArray T)).alloc (.cells #[.int .i64 j.a.x, .int .i64 j.a.y, .int .i64 j.a.z] 22)).drew := hbW; have r1 := PA1.out; have r2 := PA2.out; generalize ((w.alloc (.cells K.toArray T)).alloc (.cells #[.int .i64 j.a.x, .int .i64 j.a.y, .int .i64 j.a.z] 22)).drew = W1 at *; have j2 : J < w.heap.size + 1 := Nat.lt_succ_of_lt hlt; generalize hb1 : w.heap.size + 1 = B2 at *; clear hb1; have n1 := Nat.ne_of_lt hlt; have n2 := Nat.ne_of_lt j2)
    | (have hq : Below w.heap.size w ((w.alloc (.cells #[.int .i64 j.a.x, .int .i64 j.a.y, .int .i64 j.a.z] 22)).alloc (.cells K.toArray T)).drew := hbW; have r1 := PB1.out; have r2 := PB2.out; generalize ((w.alloc (.cells #[.int .i64 j.a.x, .int .i64 j.a.y, .int .i64 j.a.z] 22)).alloc (.cells K.toArray T)).drew = W1 at *; have j2 : J < w.heap.size + 1 := Nat.lt_succ_of_lt hlt; generalize hb1 : w.heap.size + 1 = B2 at *; clear hb1; have n2 := Nat.ne_of_lt hlt; have n1 := Nat.ne_of_lt j2))
    have HJ1 := HJ.out.later hbW hlt
    have HQ := Lib.hid hbW
    clear hbW hq PA1 PA2 PB1 PB2
    have q_0 := r1.cell 0 _ k_0
    have a_0 := r2.cell 0 _ rfl
    have a_1 := r2.cell 1 _ rfl
    have a_2 := r2.cell 2 _ rfl
    have c_34 := HJ1.cell 34 _ rfl
    have c_35 := HJ1.cell 35 _ rfl
    have c_36 := HJ1.cell 36 _ rfl
    have f_34 := RowAt.fr HJ1 34
    have f_35 := RowAt.fr HJ1 35
    have f_36 := RowAt.fr HJ1 36
    have l1 := r1.lt
    have l2 := r2.lt
    have l3 := RowAt.lt HJ1
    have R1 := Lib.hid r1
    have R2 := Lib.hid r2
    have HJ2 := Lib.hid HJ1
    clear r1 r2 HJ1 tT tU tV tA tS tZ tK RG PS HJ
    go_wp2_with (go_at_call 36; (with_reducible refine (FS.out _).mono ?_); rintro e w2 ⟨rfl, hb2⟩; have r1' := (((R1.out.aside J 34 _ n1).aside J 35 _ n1).aside J 36 _ n1).over hb2; have q' := r1'.cell 0 _ k_0; have r2' := (((R2.out.aside J 34 _ n2).aside J 35 _ n2).aside J 36 _ n2).over hb2; have a0' := r2'.cell 0 _ rfl; have a1' := r2'.cell 1 _ rfl; have a2' := r2'.cell 2 _ rfl; have HB2 := Lib.hid hb2; clear hb2 r1' r2')
    all_goals
      go_ret
      refine ⟨ret_i64 ?_, grown_trans (grownN_set (grownN_set (grownN_set (below_grown HQ.out (some J))))) (below_grown HB2.out (some J)), JAt.over ((JAt.set { j with o := ⟨j.a.x, j.a.y, j.a.z⟩ } (JAt.set { j with o := ⟨j.a.x, j.a.y, j.o.z⟩ } (JAt.set { j with o := ⟨j.a.x, j.o.y, j.o.z⟩ } HJ2.out 34 _ (by decide) rfl) 35 _ (by decide) rfl) 36 _ (by decide) rfl)) HB2.out⟩
      rw [HC.out]
      simp_all
set_option maxRecDepth 100000 in
set_option maxHeartbeats 4000000 in
theorem jmk_9 (J : Nat) (j : Jg) (w : World) (hJ : JAt w J j) (h : j.n.op = 9) :
    Calls Try.prog 59 #[.pointer (some ⟨J, 0, none⟩)] w fun e w' => e = .returned (.int .i64 (mkF j ⟨j.a.x, j.a.y, j.a.z⟩)) ∧ w.grownBy w' (some J) ∧ JAt w' J { j with o := ⟨j.a.x, j.a.y, j.a.z⟩ } := by
  obtain ⟨T, Z, Z0, K, NL⟩ := node_letter j.n
  have hL := NL.load
  have hAl := NL.alloc
  have hSt := NL.store
  have tA := NL.agg
  have tS := NL.size
  have tZ := NL.zero
  have tK := NL.len
  have tT := NL.tT w
  have tU := NL.tU w
  have tV := NL.tV w
  have hlt := hJ.lt
  have RG := Lib.hid (jg_rg hJ NL)
  have k_0 : K[0]? = some (.int .i64 9) := by rw [NL.cells, ← h]; rfl
  have c_28 := hJ.cell 28 _ rfl
  have c_29 := hJ.cell 29 _ rfl
  have c_30 := hJ.cell 30 _ rfl
  have PA1 := Lib.hid (row_1 w K T (.cells #[.int .i64 j.a.x, .int .i64 j.a.y, .int .i64 j.a.z] 22))
  have PA2 := Lib.hid (row_2 w (.cells K.toArray T) [.int .i64 j.a.x, .int .i64 j.a.y, .int .i64 j.a.z] 22)
  have PB2 := Lib.hid (row_1 w [.int .i64 j.a.x, .int .i64 j.a.y, .int .i64 j.a.z] 22 (.cells K.toArray T))
  have PB1 := Lib.hid (row_2 w (.cells #[.int .i64 j.a.x, .int .i64 j.a.y, .int .i64 j.a.z] 22) K T)
  have PS := Lib.hid (show ∀ w', Below w.heap.size w w' → (fun w' => (loadCellsFrom ⟨J, 0, none⟩ 0 Z #[]).run Try.prog w' = .ok K.toArray w' ∧ w'.cell? ⟨J, 28, none⟩ = some (.int .i64 j.a.x) ∧ w'.cell? ⟨J, 29, none⟩ = some (.int .i64 j.a.y) ∧ w'.cell? ⟨J, 30, none⟩ = some (.int .i64 j.a.z) ∧ Below w.heap.size w w') w' from fun w' hb => ⟨NL.read w' J (fun i v hv => (hb.cell (p := ⟨J, 0 + i, none⟩) hlt).trans (RG.out i v hv)), (hb.cell (p := ⟨J, 28, none⟩) hlt).trans c_28, (hb.cell (p := ⟨J, 29, none⟩) hlt).trans c_29, (hb.cell (p := ⟨J, 30, none⟩) hlt).trans c_30, hb⟩)
  have HJ := Lib.hid hJ
  obtain ⟨f, hf⟩ : ∃ f, f = Sh.fit ⟨j.a.x, j.a.y, j.a.z⟩ := ⟨_, rfl⟩
  have FS := Lib.hid (show ∀ W : World, Calls Try.prog 36 #[.agg #[.int .i64 j.a.x, .int .i64 j.a.y, .int .i64 j.a.z]] W fun e w' => e = .returned (.int .i64 f) ∧ Below W.heap.size W w' from fun W => by rw [hf]; exact fits_sh ⟨j.a.x, j.a.y, j.a.z⟩ W)
  obtain ⟨sz, hsz⟩ : ∃ s, s = sizeG j.a := ⟨_, rfl⟩
  have SA := Lib.hid (show ∀ W : World, Calls Try.prog 20 #[.agg #[.int .i64 j.a.x, .int .i64 j.a.y, .int .i64 j.a.z]] W fun e w' => e = .returned (.int .i64 sz) ∧ Below W.heap.size W w' from fun W => by rw [hsz]; exact size_sh j.a W)
  obtain ⟨c, hc⟩ : ∃ c, c = mkF j ⟨j.a.x, j.a.y, j.a.z⟩ := ⟨_, rfl⟩
  rw [← hc]
  unfold mkF at hc
  rw [← hf, ← hsz, h] at hc
  have HC := Lib.hid hc
  clear hJ h hf hsz hc
  go_enter Try.func59, Try.ntmps59
  simp only [hL, hAl, hSt]
  clear hL hAl hSt NL
  go_wp2_with fail
  go_region_held3 (fun w' => (loadCellsFrom ⟨J, 0, none⟩ 0 Z #[]).run Try.prog w' = .ok K.toArray w' ∧ w'.cell? ⟨J, 28, none⟩ = some (.int .i64 j.a.x) ∧ w'.cell? ⟨J, 29, none⟩ = some (.int .i64 j.a.y) ∧ w'.cell? ⟨J, 30, none⟩ = some (.int .i64 j.a.z) ∧ Below w.heap.size w w')
    (first | (with_reducible assumption) | (refine PS.out _ ?_; first | (with_reducible exact Below.refl _ _) | (with_reducible exact (Below.refl _ _).drew) | go_grown))
    (first | fail)
  all_goals
    rename_i hH
    obtain ⟨_, _, _, _, hbW⟩ := hH
    (first
    | (have hq : Below w.heap.size w ((w.alloc (.cells K.toArray T)).alloc (.cells #[.int .i64 j.a.x, .int .i64 j.a.y, .int .i64 j.a.z] 22)).drew := hbW; have r1 := PA1.out; have r2 := PA2.out; generalize ((w.alloc (.cells K.toArray T)).alloc (.cells #[.int .i64 j.a.x, .int .i64 j.a.y, .int .i64 j.a.z] 22)).drew = W1 at *; have j2 : J < w.heap.size + 1 := Nat.lt_succ_of_lt hlt; generalize hb1 : w.heap.size + 1 = B2 at *; clear hb1; have n1 := Nat.ne_of_lt hlt; have n2 := Nat.ne_of_lt j2)
    | (have hq : Below w.heap.size w ((w.alloc (.cells #[.int .i64 j.a.x, .int .i64 j.a.y, .int .i64 j.a.z] 22)).alloc (.cells K.toArray T)).drew := hbW; have r1 := PB1.out; have r2 := PB2.out; generalize ((w.alloc (.cells #[.int .i64 j.a.x, .int .i64 j.a.y, .int .i64 j.a.z] 22)).alloc (.cells K.toArray T)).drew = W1 at *; have j2 : J < w.heap.size + 1 := Nat.lt_succ_of_lt hlt; generalize hb1 : w.heap.size + 1 = B2 at *; clear hb1; have n2 := Nat.ne_of_lt hlt; have n1 := Nat.ne_of_lt j2))
    have HJ1 := HJ.out.later hbW hlt
    have HQ := Lib.hid hbW
    clear hbW hq PA1 PA2 PB1 PB2
    have q_0 := r1.cell 0 _ k_0
    have a_0 := r2.cell 0 _ rfl
    have a_1 := r2.cell 1 _ rfl
    have a_2 := r2.cell 2 _ rfl
    have c_34 := HJ1.cell 34 _ rfl
    have c_35 := HJ1.cell 35 _ rfl
    have c_36 := HJ1.cell 36 _ rfl
    have f_34 := RowAt.fr HJ1 34
    have f_35 := RowAt.fr HJ1 35
    have f_36 := RowAt.fr HJ1 36
    have l1 := r1.lt
    have l2 := r2.lt
    have l3 := RowAt.lt HJ1
    have R1 := Lib.hid r1
    have R2 := Lib.hid r2
    have HJ2 := Lib.hid HJ1
    clear r1 r2 HJ1 tT tU tV tA tS tZ tK RG PS HJ
    go_wp2_with (go_at_call 36; (with_reducible refine (FS.out _).mono ?_); rintro e w2 ⟨rfl, hb2⟩; have r1' := (((R1.out.aside J 34 _ n1).aside J 35 _ n1).aside J 36 _ n1).over hb2; have q' := r1'.cell 0 _ k_0; have r2' := (((R2.out.aside J 34 _ n2).aside J 35 _ n2).aside J 36 _ n2).over hb2; have a0' := r2'.cell 0 _ rfl; have a1' := r2'.cell 1 _ rfl; have a2' := r2'.cell 2 _ rfl; have HB2 := Lib.hid hb2; clear hb2 r1' r2')
    all_goals
      go_ret
      refine ⟨ret_i64 ?_, grown_trans (grownN_set (grownN_set (grownN_set (below_grown HQ.out (some J))))) (below_grown HB2.out (some J)), JAt.over ((JAt.set { j with o := ⟨j.a.x, j.a.y, j.a.z⟩ } (JAt.set { j with o := ⟨j.a.x, j.a.y, j.o.z⟩ } (JAt.set { j with o := ⟨j.a.x, j.o.y, j.o.z⟩ } HJ2.out 34 _ (by decide) rfl) 35 _ (by decide) rfl) 36 _ (by decide) rfl)) HB2.out⟩
      rw [HC.out]
      simp_all
set_option maxRecDepth 100000 in
set_option maxHeartbeats 4000000 in
theorem jmk_13 (J : Nat) (j : Jg) (w : World) (hJ : JAt w J j) (h : j.n.op = 13) :
    Calls Try.prog 59 #[.pointer (some ⟨J, 0, none⟩)] w fun e w' => e = .returned (.int .i64 (mkF j ⟨j.a.x, j.a.y, 1⟩)) ∧ w.grownBy w' (some J) ∧ JAt w' J { j with o := ⟨j.a.x, j.a.y, 1⟩ } := by
  obtain ⟨T, Z, Z0, K, NL⟩ := node_letter j.n
  have hL := NL.load
  have hAl := NL.alloc
  have hSt := NL.store
  have tA := NL.agg
  have tS := NL.size
  have tZ := NL.zero
  have tK := NL.len
  have tT := NL.tT w
  have tU := NL.tU w
  have tV := NL.tV w
  have hlt := hJ.lt
  have RG := Lib.hid (jg_rg hJ NL)
  have k_0 : K[0]? = some (.int .i64 13) := by rw [NL.cells, ← h]; rfl
  have c_28 := hJ.cell 28 _ rfl
  have c_29 := hJ.cell 29 _ rfl
  have c_30 := hJ.cell 30 _ rfl
  have PA1 := Lib.hid (row_1 w K T (.cells #[.int .i64 j.a.x, .int .i64 j.a.y, .int .i64 j.a.z] 22))
  have PA2 := Lib.hid (row_2 w (.cells K.toArray T) [.int .i64 j.a.x, .int .i64 j.a.y, .int .i64 j.a.z] 22)
  have PB2 := Lib.hid (row_1 w [.int .i64 j.a.x, .int .i64 j.a.y, .int .i64 j.a.z] 22 (.cells K.toArray T))
  have PB1 := Lib.hid (row_2 w (.cells #[.int .i64 j.a.x, .int .i64 j.a.y, .int .i64 j.a.z] 22) K T)
  have PS := Lib.hid (show ∀ w', Below w.heap.size w w' → (fun w' => (loadCellsFrom ⟨J, 0, none⟩ 0 Z #[]).run Try.prog w' = .ok K.toArray w' ∧ w'.cell? ⟨J, 28, none⟩ = some (.int .i64 j.a.x) ∧ w'.cell? ⟨J, 29, none⟩ = some (.int .i64 j.a.y) ∧ w'.cell? ⟨J, 30, none⟩ = some (.int .i64 j.a.z) ∧ Below w.heap.size w w') w' from fun w' hb => ⟨NL.read w' J (fun i v hv => (hb.cell (p := ⟨J, 0 + i, none⟩) hlt).trans (RG.out i v hv)), (hb.cell (p := ⟨J, 28, none⟩) hlt).trans c_28, (hb.cell (p := ⟨J, 29, none⟩) hlt).trans c_29, (hb.cell (p := ⟨J, 30, none⟩) hlt).trans c_30, hb⟩)
  have HJ := Lib.hid hJ
  obtain ⟨f, hf⟩ : ∃ f, f = Sh.fit ⟨j.a.x, j.a.y, 1⟩ := ⟨_, rfl⟩
  have FS := Lib.hid (show ∀ W : World, Calls Try.prog 36 #[.agg #[.int .i64 j.a.x, .int .i64 j.a.y, .int .i64 1]] W fun e w' => e = .returned (.int .i64 f) ∧ Below W.heap.size W w' from fun W => by rw [hf]; exact fits_sh ⟨j.a.x, j.a.y, 1⟩ W)
  obtain ⟨sz, hsz⟩ : ∃ s, s = sizeG j.a := ⟨_, rfl⟩
  have SA := Lib.hid (show ∀ W : World, Calls Try.prog 20 #[.agg #[.int .i64 j.a.x, .int .i64 j.a.y, .int .i64 j.a.z]] W fun e w' => e = .returned (.int .i64 sz) ∧ Below W.heap.size W w' from fun W => by rw [hsz]; exact size_sh j.a W)
  obtain ⟨c, hc⟩ : ∃ c, c = mkF j ⟨j.a.x, j.a.y, 1⟩ := ⟨_, rfl⟩
  rw [← hc]
  unfold mkF at hc
  rw [← hf, ← hsz, h] at hc
  have HC := Lib.hid hc
  clear hJ h hf hsz hc
  go_enter Try.func59, Try.ntmps59
  simp only [hL, hAl, hSt]
  clear hL hAl hSt NL
  go_wp2_with fail
  go_region_held3 (fun w' => (loadCellsFrom ⟨J, 0, none⟩ 0 Z #[]).run Try.prog w' = .ok K.toArray w' ∧ w'.cell? ⟨J, 28, none⟩ = some (.int .i64 j.a.x) ∧ w'.cell? ⟨J, 29, none⟩ = some (.int .i64 j.a.y) ∧ w'.cell? ⟨J, 30, none⟩ = some (.int .i64 j.a.z) ∧ Below w.heap.size w w')
    (first | (with_reducible assumption) | (refine PS.out _ ?_; first | (with_reducible exact Below.refl _ _) | (with_reducible exact (Below.refl _ _).drew) | go_grown))
    (first | fail)
  all_goals
    rename_i hH
    obtain ⟨_, _, _, _, hbW⟩ := hH
    (first
    | (have hq : Below w.heap.size w ((w.alloc (.cells K.toArray T)).alloc (.cells #[.int .i64 j.a.x, .int .i64 j.a.y, .int .i64 j.a.z] 22)).drew := hbW; have r1 := PA1.out; have r2 := PA2.out; generalize ((w.alloc (.cells K.toArray T)).alloc (.cells #[.int .i64 j.a.x, .int .i64 j.a.y, .int .i64 j.a.z] 22)).drew = W1 at *; have j2 : J < w.heap.size + 1 := Nat.lt_succ_of_lt hlt; generalize hb1 : w.heap.size + 1 = B2 at *; clear hb1; have n1 := Nat.ne_of_lt hlt; have n2 := Nat.ne_of_lt j2)
    | (have hq : Below w.heap.size w ((w.alloc (.cells #[.int .i64 j.a.x, .int .i64 j.a.y, .int .i64 j.a.z] 22)).alloc (.cells K.toArray T)).drew := hbW; have r1 := PB1.out; have r2 := PB2.out; generalize ((w.alloc (.cells #[.int .i64 j.a.x, .int .i64 j.a.y, .int .i64 j.a.z] 22)).alloc (.cells K.toArray T)).drew = W1 at *; have j2 : J < w.heap.size + 1 := Nat.lt_succ_of_lt hlt; generalize hb1 : w.heap.size + 1 = B2 at *; clear hb1; have n2 := Nat.ne_of_lt hlt; have n1 := Nat.ne_of_lt j2))
    have HJ1 := HJ.out.later hbW hlt
    have HQ := Lib.hid hbW
    clear hbW hq PA1 PA2 PB1 PB2
    have q_0 := r1.cell 0 _ k_0
    have a_0 := r2.cell 0 _ rfl
    have a_1 := r2.cell 1 _ rfl
    have a_2 := r2.cell 2 _ rfl
    have c_34 := HJ1.cell 34 _ rfl
    have c_35 := HJ1.cell 35 _ rfl
    have c_36 := HJ1.cell 36 _ rfl
    have f_34 := RowAt.fr HJ1 34
    have f_35 := RowAt.fr HJ1 35
    have f_36 := RowAt.fr HJ1 36
    have l1 := r1.lt
    have l2 := r2.lt
    have l3 := RowAt.lt HJ1
    have R1 := Lib.hid r1
    have R2 := Lib.hid r2
    have HJ2 := Lib.hid HJ1
    clear r1 r2 HJ1 tT tU tV tA tS tZ tK RG PS HJ
    go_wp2_with (go_at_call 36; (with_reducible refine (FS.out _).mono ?_); rintro e w2 ⟨rfl, hb2⟩; have r1' := (((R1.out.aside J 34 _ n1).aside J 35 _ n1).aside J 36 _ n1).over hb2; have q' := r1'.cell 0 _ k_0; have r2' := (((R2.out.aside J 34 _ n2).aside J 35 _ n2).aside J 36 _ n2).over hb2; have a0' := r2'.cell 0 _ rfl; have a1' := r2'.cell 1 _ rfl; have a2' := r2'.cell 2 _ rfl; have HB2 := Lib.hid hb2; clear hb2 r1' r2')
    all_goals
      go_ret
      refine ⟨ret_i64 ?_, grown_trans (grownN_set (grownN_set (grownN_set (below_grown HQ.out (some J))))) (below_grown HB2.out (some J)), JAt.over ((JAt.set { j with o := ⟨j.a.x, j.a.y, 1⟩ } (JAt.set { j with o := ⟨j.a.x, j.a.y, j.o.z⟩ } (JAt.set { j with o := ⟨j.a.x, j.o.y, j.o.z⟩ } HJ2.out 34 _ (by decide) rfl) 35 _ (by decide) rfl) 36 _ (by decide) rfl)) HB2.out⟩
      rw [HC.out]
      simp_all
set_option maxRecDepth 100000 in
set_option maxHeartbeats 4000000 in
theorem jmk_14 (J : Nat) (j : Jg) (w : World) (hJ : JAt w J j) (h : j.n.op = 14) :
    Calls Try.prog 59 #[.pointer (some ⟨J, 0, none⟩)] w fun e w' => e = .returned (.int .i64 (mkF j ⟨j.a.x, j.a.y, j.a.z⟩)) ∧ w.grownBy w' (some J) ∧ JAt w' J { j with o := ⟨j.a.x, j.a.y, j.a.z⟩ } := by
  obtain ⟨T, Z, Z0, K, NL⟩ := node_letter j.n
  have hL := NL.load
  have hAl := NL.alloc
  have hSt := NL.store
  have tA := NL.agg
  have tS := NL.size
  have tZ := NL.zero
  have tK := NL.len
  have tT := NL.tT w
  have tU := NL.tU w
  have tV := NL.tV w
  have hlt := hJ.lt
  have RG := Lib.hid (jg_rg hJ NL)
  have k_0 : K[0]? = some (.int .i64 14) := by rw [NL.cells, ← h]; rfl
  have c_28 := hJ.cell 28 _ rfl
  have c_29 := hJ.cell 29 _ rfl
  have c_30 := hJ.cell 30 _ rfl
  have PA1 := Lib.hid (row_1 w K T (.cells #[.int .i64 j.a.x, .int .i64 j.a.y, .int .i64 j.a.z] 22))
  have PA2 := Lib.hid (row_2 w (.cells K.toArray T) [.int .i64 j.a.x, .int .i64 j.a.y, .int .i64 j.a.z] 22)
  have PB2 := Lib.hid (row_1 w [.int .i64 j.a.x, .int .i64 j.a.y, .int .i64 j.a.z] 22 (.cells K.toArray T))
  have PB1 := Lib.hid (row_2 w (.cells #[.int .i64 j.a.x, .int .i64 j.a.y, .int .i64 j.a.z] 22) K T)
  have PS := Lib.hid (show ∀ w', Below w.heap.size w w' → (fun w' => (loadCellsFrom ⟨J, 0, none⟩ 0 Z #[]).run Try.prog w' = .ok K.toArray w' ∧ w'.cell? ⟨J, 28, none⟩ = some (.int .i64 j.a.x) ∧ w'.cell? ⟨J, 29, none⟩ = some (.int .i64 j.a.y) ∧ w'.cell? ⟨J, 30, none⟩ = some (.int .i64 j.a.z) ∧ Below w.heap.size w w') w' from fun w' hb => ⟨NL.read w' J (fun i v hv => (hb.cell (p := ⟨J, 0 + i, none⟩) hlt).trans (RG.out i v hv)), (hb.cell (p := ⟨J, 28, none⟩) hlt).trans c_28, (hb.cell (p := ⟨J, 29, none⟩) hlt).trans c_29, (hb.cell (p := ⟨J, 30, none⟩) hlt).trans c_30, hb⟩)
  have HJ := Lib.hid hJ
  obtain ⟨f, hf⟩ : ∃ f, f = Sh.fit ⟨j.a.x, j.a.y, j.a.z⟩ := ⟨_, rfl⟩
  have FS := Lib.hid (show ∀ W : World, Calls Try.prog 36 #[.agg #[.int .i64 j.a.x, .int .i64 j.a.y, .int .i64 j.a.z]] W fun e w' => e = .returned (.int .i64 f) ∧ Below W.heap.size W w' from fun W => by rw [hf]; exact fits_sh ⟨j.a.x, j.a.y, j.a.z⟩ W)
  obtain ⟨sz, hsz⟩ : ∃ s, s = sizeG j.a := ⟨_, rfl⟩
  have SA := Lib.hid (show ∀ W : World, Calls Try.prog 20 #[.agg #[.int .i64 j.a.x, .int .i64 j.a.y, .int .i64 j.a.z]] W fun e w' => e = .returned (.int .i64 sz) ∧ Below W.heap.size W w' from fun W => by rw [hsz]; exact size_sh j.a W)
  obtain ⟨c, hc⟩ : ∃ c, c = mkF j ⟨j.a.x, j.a.y, j.a.z⟩ := ⟨_, rfl⟩
  rw [← hc]
  unfold mkF at hc
  rw [← hf, ← hsz, h] at hc
  have HC := Lib.hid hc
  clear hJ h hf hsz hc
  go_enter Try.func59, Try.ntmps59
  simp only [hL, hAl, hSt]
  clear hL hAl hSt NL
  go_wp2_with fail
  go_region_held3 (fun w' => (loadCellsFrom ⟨J, 0, none⟩ 0 Z #[]).run Try.prog w' = .ok K.toArray w' ∧ w'.cell? ⟨J, 28, none⟩ = some (.int .i64 j.a.x) ∧ w'.cell? ⟨J, 29, none⟩ = some (.int .i64 j.a.y) ∧ w'.cell? ⟨J, 30, none⟩ = some (.int .i64 j.a.z) ∧ Below w.heap.size w w')
    (first | (with_reducible assumption) | (refine PS.out _ ?_; first | (with_reducible exact Below.refl _ _) | (with_reducible exact (Below.refl _ _).drew) | go_grown))
    (first | fail)
  all_goals
    rename_i hH
    obtain ⟨_, _, _, _, hbW⟩ := hH
    (first
    | (have hq : Below w.heap.size w ((w.alloc (.cells K.toArray T)).alloc (.cells #[.int .i64 j.a.x, .int .i64 j.a.y, .int .i64 j.a.z] 22)).drew := hbW; have r1 := PA1.out; have r2 := PA2.out; generalize ((w.alloc (.cells K.toArray T)).alloc (.cells #[.int .i64 j.a.x, .int .i64 j.a.y, .int .i64 j.a.z] 22)).drew = W1 at *; have j2 : J < w.heap.size + 1 := Nat.lt_succ_of_lt hlt; generalize hb1 : w.heap.size + 1 = B2 at *; clear hb1; have n1 := Nat.ne_of_lt hlt; have n2 := Nat.ne_of_lt j2)
    | (have hq : Below w.heap.size w ((w.alloc (.cells #[.int .i64 j.a.x, .int .i64 j.a.y, .int .i64 j.a.z] 22)).alloc (.cells K.toArray T)).drew := hbW; have r1 := PB1.out; have r2 := PB2.out; generalize ((w.alloc (.cells #[.int .i64 j.a.x, .int .i64 j.a.y, .int .i64 j.a.z] 22)).alloc (.cells K.toArray T)).drew = W1 at *; have j2 : J < w.heap.size + 1 := Nat.lt_succ_of_lt hlt; generalize hb1 : w.heap.size + 1 = B2 at *; clear hb1; have n2 := Nat.ne_of_lt hlt; have n1 := Nat.ne_of_lt j2))
    have HJ1 := HJ.out.later hbW hlt
    have HQ := Lib.hid hbW
    clear hbW hq PA1 PA2 PB1 PB2
    have q_0 := r1.cell 0 _ k_0
    have a_0 := r2.cell 0 _ rfl
    have a_1 := r2.cell 1 _ rfl
    have a_2 := r2.cell 2 _ rfl
    have c_34 := HJ1.cell 34 _ rfl
    have c_35 := HJ1.cell 35 _ rfl
    have c_36 := HJ1.cell 36 _ rfl
    have f_34 := RowAt.fr HJ1 34
    have f_35 := RowAt.fr HJ1 35
    have f_36 := RowAt.fr HJ1 36
    have l1 := r1.lt
    have l2 := r2.lt
    have l3 := RowAt.lt HJ1
    have R1 := Lib.hid r1
    have R2 := Lib.hid r2
    have HJ2 := Lib.hid HJ1
    clear r1 r2 HJ1 tT tU tV tA tS tZ tK RG PS HJ
    go_wp2_with (go_at_call 36; (with_reducible refine (FS.out _).mono ?_); rintro e w2 ⟨rfl, hb2⟩; have r1' := (((R1.out.aside J 34 _ n1).aside J 35 _ n1).aside J 36 _ n1).over hb2; have q' := r1'.cell 0 _ k_0; have r2' := (((R2.out.aside J 34 _ n2).aside J 35 _ n2).aside J 36 _ n2).over hb2; have a0' := r2'.cell 0 _ rfl; have a1' := r2'.cell 1 _ rfl; have a2' := r2'.cell 2 _ rfl; have HB2 := Lib.hid hb2; clear hb2 r1' r2')
    all_goals
      go_ret
      refine ⟨ret_i64 ?_, grown_trans (grownN_set (grownN_set (grownN_set (below_grown HQ.out (some J))))) (below_grown HB2.out (some J)), JAt.over ((JAt.set { j with o := ⟨j.a.x, j.a.y, j.a.z⟩ } (JAt.set { j with o := ⟨j.a.x, j.a.y, j.o.z⟩ } (JAt.set { j with o := ⟨j.a.x, j.o.y, j.o.z⟩ } HJ2.out 34 _ (by decide) rfl) 35 _ (by decide) rfl) 36 _ (by decide) rfl)) HB2.out⟩
      rw [HC.out]
      simp_all
end Go.Proofs.Ytmifojpmomdmeaa

namespace Go.Proofs.Ytmifojpmomdmeaa
open Go Go.RowKit
set_option linter.unusedVariables false

set_option maxRecDepth 100000 in
set_option maxHeartbeats 4000000 in
theorem jmk_10bad0 (J : Nat) (j : Jg) (w : World) (hJ : JAt w J j) (h : j.n.op = 10) (hb0 : decide (0 ≤ j.n.p0 ∧ j.n.p0 ≤ 7) = false) :
    Calls Try.prog 59 #[.pointer (some ⟨J, 0, none⟩)] w fun e w' => e = .returned (.int .i64 10) ∧ Below w.heap.size w w' := by
  obtain ⟨T, Z, Z0, K, NL⟩ := node_letter j.n
  have hL := NL.load
  have hAl := NL.alloc
  have hSt := NL.store
  have tA := NL.agg
  have tS := NL.size
  have tZ := NL.zero
  have tK := NL.len
  have tT := NL.tT w
  have tU := NL.tU w
  have tV := NL.tV w
  have hlt := hJ.lt
  have RG := Lib.hid (jg_rg hJ NL)
  have k_0 : K[0]? = some (.int .i64 10) := by rw [NL.cells, ← h]; rfl
  have k_7 : K[7]? = some (.int .i64 j.n.p0) := by rw [NL.cells]; rfl
  have k_8 : K[8]? = some (.int .i64 j.n.p1) := by rw [NL.cells]; rfl
  have k_9 : K[9]? = some (.int .i64 j.n.p2) := by rw [NL.cells]; rfl
  have k_10 : K[10]? = some (.int .i64 j.n.p3) := by rw [NL.cells]; rfl
  have c_28 := hJ.cell 28 _ rfl
  have c_29 := hJ.cell 29 _ rfl
  have c_30 := hJ.cell 30 _ rfl
  have PA1 := Lib.hid (row_1 w K T (.cells #[.int .i64 j.a.x, .int .i64 j.a.y, .int .i64 j.a.z] 22))
  have PA2 := Lib.hid (row_2 w (.cells K.toArray T) [.int .i64 j.a.x, .int .i64 j.a.y, .int .i64 j.a.z] 22)
  have PB2 := Lib.hid (row_1 w [.int .i64 j.a.x, .int .i64 j.a.y, .int .i64 j.a.z] 22 (.cells K.toArray T))
  have PB1 := Lib.hid (row_2 w (.cells #[.int .i64 j.a.x, .int .i64 j.a.y, .int .i64 j.a.z] 22) K T)
  have PS := Lib.hid (show ∀ w', Below w.heap.size w w' → (fun w' => (loadCellsFrom ⟨J, 0, none⟩ 0 Z #[]).run Try.prog w' = .ok K.toArray w' ∧ w'.cell? ⟨J, 28, none⟩ = some (.int .i64 j.a.x) ∧ w'.cell? ⟨J, 29, none⟩ = some (.int .i64 j.a.y) ∧ w'.cell? ⟨J, 30, none⟩ = some (.int .i64 j.a.z) ∧ Below w.heap.size w w') w' from fun w' hb => ⟨NL.read w' J (fun i v hv => (hb.cell (p := ⟨J, 0 + i, none⟩) hlt).trans (RG.out i v hv)), (hb.cell (p := ⟨J, 28, none⟩) hlt).trans c_28, (hb.cell (p := ⟨J, 29, none⟩) hlt).trans c_29, (hb.cell (p := ⟨J, 30, none⟩) hlt).trans c_30, hb⟩)
  have HJ := Lib.hid hJ
  have ix0 : ∀ w, (Instr.index 45 (.agg #[.int .i64 j.n.p0, .int .i64 j.n.p1, .int .i64 j.n.p2, .int .i64 j.n.p3]) (.int .i64 0)).run Try.prog w = .ok (.int .i64 j.n.p0) w := fun _ => by kernel_rfl
  have ix1 : ∀ w, (Instr.index 45 (.agg #[.int .i64 j.n.p0, .int .i64 j.n.p1, .int .i64 j.n.p2, .int .i64 j.n.p3]) (.int .i64 1)).run Try.prog w = .ok (.int .i64 j.n.p1) w := fun _ => by kernel_rfl
  have ix2 : ∀ w, (Instr.index 45 (.agg #[.int .i64 j.n.p0, .int .i64 j.n.p1, .int .i64 j.n.p2, .int .i64 j.n.p3]) (.int .i64 2)).run Try.prog w = .ok (.int .i64 j.n.p2) w := fun _ => by kernel_rfl
  have ix3 : ∀ w, (Instr.index 45 (.agg #[.int .i64 j.n.p0, .int .i64 j.n.p1, .int .i64 j.n.p2, .int .i64 j.n.p3]) (.int .i64 3)).run Try.prog w = .ok (.int .i64 j.n.p3) w := fun _ => by kernel_rfl
  have WI0 := Lib.hid (show ∀ W : World, Calls Try.prog 82 #[.int .i64 j.n.p0, .int .i64 0, .int .i64 7] W fun e w' => e = .returned (.bool false) ∧ w' = W from fun W => by have := jwithin j.n.p0 0 7 W; rwa [hb0] at this)
  clear hJ h hb0
  go_enter Try.func59, Try.ntmps59
  simp only [hL, hAl, hSt]
  clear hL hAl hSt NL
  go_wp2_with fail
  go_region_held3 (fun w' => (loadCellsFrom ⟨J, 0, none⟩ 0 Z #[]).run Try.prog w' = .ok K.toArray w' ∧ w'.cell? ⟨J, 28, none⟩ = some (.int .i64 j.a.x) ∧ w'.cell? ⟨J, 29, none⟩ = some (.int .i64 j.a.y) ∧ w'.cell? ⟨J, 30, none⟩ = some (.int .i64 j.a.z) ∧ Below w.heap.size w w')
    (first | (with_reducible assumption) | (refine PS.out _ ?_; first | (with_reducible exact Below.refl _ _) | (with_reducible exact (Below.refl _ _).drew) | go_grown))
    (first | fail)
  all_goals
    rename_i hH
    obtain ⟨_, _, _, _, hbW⟩ := hH
    (first
    | (have hq : Below w.heap.size w ((w.alloc (.cells K.toArray T)).alloc (.cells #[.int .i64 j.a.x, .int .i64 j.a.y, .int .i64 j.a.z] 22)).drew := hbW; have r1 := PA1.out; have r2 := PA2.out; generalize ((w.alloc (.cells K.toArray T)).alloc (.cells #[.int .i64 j.a.x, .int .i64 j.a.y, .int .i64 j.a.z] 22)).drew = W1 at *; have j2 : J < w.heap.size + 1 := Nat.lt_succ_of_lt hlt; generalize hb1 : w.heap.size + 1 = B2 at *; clear hb1; have n1 := Nat.ne_of_lt hlt; have n2 := Nat.ne_of_lt j2)
    | (have hq : Below w.heap.size w ((w.alloc (.cells #[.int .i64 j.a.x, .int .i64 j.a.y, .int .i64 j.a.z] 22)).alloc (.cells K.toArray T)).drew := hbW; have r1 := PB1.out; have r2 := PB2.out; generalize ((w.alloc (.cells #[.int .i64 j.a.x, .int .i64 j.a.y, .int .i64 j.a.z] 22)).alloc (.cells K.toArray T)).drew = W1 at *; have j2 : J < w.heap.size + 1 := Nat.lt_succ_of_lt hlt; generalize hb1 : w.heap.size + 1 = B2 at *; clear hb1; have n2 := Nat.ne_of_lt hlt; have n1 := Nat.ne_of_lt j2))
    have HJ1 := HJ.out.later hbW hlt
    have HQ := Lib.hid hbW
    clear hbW hq PA1 PA2 PB1 PB2
    have q_0 := r1.cell 0 _ k_0
    have q_7 := r1.cell 7 _ k_7
    have q_8 := r1.cell 8 _ k_8
    have q_9 := r1.cell 9 _ k_9
    have q_10 := r1.cell 10 _ k_10
    have a_0 := r2.cell 0 _ rfl
    have a_1 := r2.cell 1 _ rfl
    have a_2 := r2.cell 2 _ rfl
    have c_34 := HJ1.cell 34 _ rfl
    have c_35 := HJ1.cell 35 _ rfl
    have c_36 := HJ1.cell 36 _ rfl
    have f_34 := RowAt.fr HJ1 34
    have f_35 := RowAt.fr HJ1 35
    have f_36 := RowAt.fr HJ1 36
    have l1 := r1.lt
    have l2 := r2.lt
    have l3 := RowAt.lt HJ1
    have R1 := Lib.hid r1
    have R2 := Lib.hid r2
    have HJ2 := Lib.hid HJ1
    clear r1 r2 HJ1 tT tU tV tA tS tZ tK RG PS HJ
    go_wp2_with fail
    refine wp_loop_rounds 5 ?_
    rw [rounds_succ]
    go_wp2_with (first | (go_at_call 82; (with_reducible refine (WI0.out _).mono ?_); rintro e w' ⟨rfl, rfl⟩))
    go_ret
    exact ⟨rfl, HQ.out⟩
set_option maxRecDepth 100000 in
set_option maxHeartbeats 4000000 in
theorem jmk_10bad1 (J : Nat) (j : Jg) (w : World) (hJ : JAt w J j) (h : j.n.op = 10) (hb0 : decide (0 ≤ j.n.p0 ∧ j.n.p0 ≤ 7) = true) (hb1 : decide (0 ≤ j.n.p1 ∧ j.n.p1 ≤ 7) = false) :
    Calls Try.prog 59 #[.pointer (some ⟨J, 0, none⟩)] w fun e w' => e = .returned (.int .i64 10) ∧ Below w.heap.size w w' := by
  obtain ⟨T, Z, Z0, K, NL⟩ := node_letter j.n
  have hL := NL.load
  have hAl := NL.alloc
  have hSt := NL.store
  have tA := NL.agg
  have tS := NL.size
  have tZ := NL.zero
  have tK := NL.len
  have tT := NL.tT w
  have tU := NL.tU w
  have tV := NL.tV w
  have hlt := hJ.lt
  have RG := Lib.hid (jg_rg hJ NL)
  have k_0 : K[0]? = some (.int .i64 10) := by rw [NL.cells, ← h]; rfl
  have k_7 : K[7]? = some (.int .i64 j.n.p0) := by rw [NL.cells]; rfl
  have k_8 : K[8]? = some (.int .i64 j.n.p1) := by rw [NL.cells]; rfl
  have k_9 : K[9]? = some (.int .i64 j.n.p2) := by rw [NL.cells]; rfl
  have k_10 : K[10]? = some (.int .i64 j.n.p3) := by rw [NL.cells]; rfl
  have c_28 := hJ.cell 28 _ rfl
  have c_29 := hJ.cell 29 _ rfl
  have c_30 := hJ.cell 30 _ rfl
  have PA1 := Lib.hid (row_1 w K T (.cells #[.int .i64 j.a.x, .int .i64 j.a.y, .int .i64 j.a.z] 22))
  have PA2 := Lib.hid (row_2 w (.cells K.toArray T) [.int .i64 j.a.x, .int .i64 j.a.y, .int .i64 j.a.z] 22)
  have PB2 := Lib.hid (row_1 w [.int .i64 j.a.x, .int .i64 j.a.y, .int .i64 j.a.z] 22 (.cells K.toArray T))
  have PB1 := Lib.hid (row_2 w (.cells #[.int .i64 j.a.x, .int .i64 j.a.y, .int .i64 j.a.z] 22) K T)
  have PS := Lib.hid (show ∀ w', Below w.heap.size w w' → (fun w' => (loadCellsFrom ⟨J, 0, none⟩ 0 Z #[]).run Try.prog w' = .ok K.toArray w' ∧ w'.cell? ⟨J, 28, none⟩ = some (.int .i64 j.a.x) ∧ w'.cell? ⟨J, 29, none⟩ = some (.int .i64 j.a.y) ∧ w'.cell? ⟨J, 30, none⟩ = some (.int .i64 j.a.z) ∧ Below w.heap.size w w') w' from fun w' hb => ⟨NL.read w' J (fun i v hv => (hb.cell (p := ⟨J, 0 + i, none⟩) hlt).trans (RG.out i v hv)), (hb.cell (p := ⟨J, 28, none⟩) hlt).trans c_28, (hb.cell (p := ⟨J, 29, none⟩) hlt).trans c_29, (hb.cell (p := ⟨J, 30, none⟩) hlt).trans c_30, hb⟩)
  have HJ := Lib.hid hJ
  have ix0 : ∀ w, (Instr.index 45 (.agg #[.int .i64 j.n.p0, .int .i64 j.n.p1, .int .i64 j.n.p2, .int .i64 j.n.p3]) (.int .i64 0)).run Try.prog w = .ok (.int .i64 j.n.p0) w := fun _ => by kernel_rfl
  have ix1 : ∀ w, (Instr.index 45 (.agg #[.int .i64 j.n.p0, .int .i64 j.n.p1, .int .i64 j.n.p2, .int .i64 j.n.p3]) (.int .i64 1)).run Try.prog w = .ok (.int .i64 j.n.p1) w := fun _ => by kernel_rfl
  have ix2 : ∀ w, (Instr.index 45 (.agg #[.int .i64 j.n.p0, .int .i64 j.n.p1, .int .i64 j.n.p2, .int .i64 j.n.p3]) (.int .i64 2)).run Try.prog w = .ok (.int .i64 j.n.p2) w := fun _ => by kernel_rfl
  have ix3 : ∀ w, (Instr.index 45 (.agg #[.int .i64 j.n.p0, .int .i64 j.n.p1, .int .i64 j.n.p2, .int .i64 j.n.p3]) (.int .i64 3)).run Try.prog w = .ok (.int .i64 j.n.p3) w := fun _ => by kernel_rfl
  have WI0 := Lib.hid (show ∀ W : World, Calls Try.prog 82 #[.int .i64 j.n.p0, .int .i64 0, .int .i64 7] W fun e w' => e = .returned (.bool true) ∧ w' = W from fun W => by have := jwithin j.n.p0 0 7 W; rwa [hb0] at this)
  have WI1 := Lib.hid (show ∀ W : World, Calls Try.prog 82 #[.int .i64 j.n.p1, .int .i64 0, .int .i64 7] W fun e w' => e = .returned (.bool false) ∧ w' = W from fun W => by have := jwithin j.n.p1 0 7 W; rwa [hb1] at this)
  clear hJ h hb0 hb1
  go_enter Try.func59, Try.ntmps59
  simp only [hL, hAl, hSt]
  clear hL hAl hSt NL
  go_wp2_with fail
  go_region_held3 (fun w' => (loadCellsFrom ⟨J, 0, none⟩ 0 Z #[]).run Try.prog w' = .ok K.toArray w' ∧ w'.cell? ⟨J, 28, none⟩ = some (.int .i64 j.a.x) ∧ w'.cell? ⟨J, 29, none⟩ = some (.int .i64 j.a.y) ∧ w'.cell? ⟨J, 30, none⟩ = some (.int .i64 j.a.z) ∧ Below w.heap.size w w')
    (first | (with_reducible assumption) | (refine PS.out _ ?_; first | (with_reducible exact Below.refl _ _) | (with_reducible exact (Below.refl _ _).drew) | go_grown))
    (first | fail)
  all_goals
    rename_i hH
    obtain ⟨_, _, _, _, hbW⟩ := hH
    (first
    | (have hq : Below w.heap.size w ((w.alloc (.cells K.toArray T)).alloc (.cells #[.int .i64 j.a.x, .int .i64 j.a.y, .int .i64 j.a.z] 22)).drew := hbW; have r1 := PA1.out; have r2 := PA2.out; generalize ((w.alloc (.cells K.toArray T)).alloc (.cells #[.int .i64 j.a.x, .int .i64 j.a.y, .int .i64 j.a.z] 22)).drew = W1 at *; have j2 : J < w.heap.size + 1 := Nat.lt_succ_of_lt hlt; generalize hb1 : w.heap.size + 1 = B2 at *; clear hb1; have n1 := Nat.ne_of_lt hlt; have n2 := Nat.ne_of_lt j2)
    | (have hq : Below w.heap.size w ((w.alloc (.cells #[.int .i64 j.a.x, .int .i64 j.a.y, .int .i64 j.a.z] 22)).alloc (.cells K.toArray T)).drew := hbW; have r1 := PB1.out; have r2 := PB2.out; generalize ((w.alloc (.cells #[.int .i64 j.a.x, .int .i64 j.a.y, .int .i64 j.a.z] 22)).alloc (.cells K.toArray T)).drew = W1 at *; have j2 : J < w.heap.size + 1 := Nat.lt_succ_of_lt hlt; generalize hb1 : w.heap.size + 1 = B2 at *; clear hb1; have n2 := Nat.ne_of_lt hlt; have n1 := Nat.ne_of_lt j2))
    have HJ1 := HJ.out.later hbW hlt
    have HQ := Lib.hid hbW
    clear hbW hq PA1 PA2 PB1 PB2
    have q_0 := r1.cell 0 _ k_0
    have q_7 := r1.cell 7 _ k_7
    have q_8 := r1.cell 8 _ k_8
    have q_9 := r1.cell 9 _ k_9
    have q_10 := r1.cell 10 _ k_10
    have a_0 := r2.cell 0 _ rfl
    have a_1 := r2.cell 1 _ rfl
    have a_2 := r2.cell 2 _ rfl
    have c_34 := HJ1.cell 34 _ rfl
    have c_35 := HJ1.cell 35 _ rfl
    have c_36 := HJ1.cell 36 _ rfl
    have f_34 := RowAt.fr HJ1 34
    have f_35 := RowAt.fr HJ1 35
    have f_36 := RowAt.fr HJ1 36
    have l1 := r1.lt
    have l2 := r2.lt
    have l3 := RowAt.lt HJ1
    have R1 := Lib.hid r1
    have R2 := Lib.hid r2
    have HJ2 := Lib.hid HJ1
    clear r1 r2 HJ1 tT tU tV tA tS tZ tK RG PS HJ
    go_wp2_with fail
    refine wp_loop_rounds 5 ?_
    iterate 2 (
      rw [rounds_succ]
      go_wp2_with (first | (go_at_call 82; (with_reducible refine (WI0.out _).mono ?_); rintro e w' ⟨rfl, rfl⟩) | (go_at_call 82; (with_reducible refine (WI1.out _).mono ?_); rintro e w' ⟨rfl, rfl⟩)))
    go_ret
    exact ⟨rfl, HQ.out⟩
set_option maxRecDepth 100000 in
set_option maxHeartbeats 4000000 in
theorem jmk_10bad2 (J : Nat) (j : Jg) (w : World) (hJ : JAt w J j) (h : j.n.op = 10) (hb0 : decide (0 ≤ j.n.p0 ∧ j.n.p0 ≤ 7) = true) (hb1 : decide (0 ≤ j.n.p1 ∧ j.n.p1 ≤ 7) = true) (hb2 : decide (0 ≤ j.n.p2 ∧ j.n.p2 ≤ 7) = false) :
    Calls Try.prog 59 #[.pointer (some ⟨J, 0, none⟩)] w fun e w' => e = .returned (.int .i64 10) ∧ Below w.heap.size w w' := by
  obtain ⟨T, Z, Z0, K, NL⟩ := node_letter j.n
  have hL := NL.load
  have hAl := NL.alloc
  have hSt := NL.store
  have tA := NL.agg
  have tS := NL.size
  have tZ := NL.zero
  have tK := NL.len
  have tT := NL.tT w
  have tU := NL.tU w
  have tV := NL.tV w
  have hlt := hJ.lt
  have RG := Lib.hid (jg_rg hJ NL)
  have k_0 : K[0]? = some (.int .i64 10) := by rw [NL.cells, ← h]; rfl
  have k_7 : K[7]? = some (.int .i64 j.n.p0) := by rw [NL.cells]; rfl
  have k_8 : K[8]? = some (.int .i64 j.n.p1) := by rw [NL.cells]; rfl
  have k_9 : K[9]? = some (.int .i64 j.n.p2) := by rw [NL.cells]; rfl
  have k_10 : K[10]? = some (.int .i64 j.n.p3) := by rw [NL.cells]; rfl
  have c_28 := hJ.cell 28 _ rfl
  have c_29 := hJ.cell 29 _ rfl
  have c_30 := hJ.cell 30 _ rfl
  have PA1 := Lib.hid (row_1 w K T (.cells #[.int .i64 j.a.x, .int .i64 j.a.y, .int .i64 j.a.z] 22))
  have PA2 := Lib.hid (row_2 w (.cells K.toArray T) [.int .i64 j.a.x, .int .i64 j.a.y, .int .i64 j.a.z] 22)
  have PB2 := Lib.hid (row_1 w [.int .i64 j.a.x, .int .i64 j.a.y, .int .i64 j.a.z] 22 (.cells K.toArray T))
  have PB1 := Lib.hid (row_2 w (.cells #[.int .i64 j.a.x, .int .i64 j.a.y, .int .i64 j.a.z] 22) K T)
  have PS := Lib.hid (show ∀ w', Below w.heap.size w w' → (fun w' => (loadCellsFrom ⟨J, 0, none⟩ 0 Z #[]).run Try.prog w' = .ok K.toArray w' ∧ w'.cell? ⟨J, 28, none⟩ = some (.int .i64 j.a.x) ∧ w'.cell? ⟨J, 29, none⟩ = some (.int .i64 j.a.y) ∧ w'.cell? ⟨J, 30, none⟩ = some (.int .i64 j.a.z) ∧ Below w.heap.size w w') w' from fun w' hb => ⟨NL.read w' J (fun i v hv => (hb.cell (p := ⟨J, 0 + i, none⟩) hlt).trans (RG.out i v hv)), (hb.cell (p := ⟨J, 28, none⟩) hlt).trans c_28, (hb.cell (p := ⟨J, 29, none⟩) hlt).trans c_29, (hb.cell (p := ⟨J, 30, none⟩) hlt).trans c_30, hb⟩)
  have HJ := Lib.hid hJ
  have ix0 : ∀ w, (Instr.index 45 (.agg #[.int .i64 j.n.p0, .int .i64 j.n.p1, .int .i64 j.n.p2, .int .i64 j.n.p3]) (.int .i64 0)).run Try.prog w = .ok (.int .i64 j.n.p0) w := fun _ => by kernel_rfl
  have ix1 : ∀ w, (Instr.index 45 (.agg #[.int .i64 j.n.p0, .int .i64 j.n.p1, .int .i64 j.n.p2, .int .i64 j.n.p3]) (.int .i64 1)).run Try.prog w = .ok (.int .i64 j.n.p1) w := fun _ => by kernel_rfl
  have ix2 : ∀ w, (Instr.index 45 (.agg #[.int .i64 j.n.p0, .int .i64 j.n.p1, .int .i64 j.n.p2, .int .i64 j.n.p3]) (.int .i64 2)).run Try.prog w = .ok (.int .i64 j.n.p2) w := fun _ => by kernel_rfl
  have ix3 : ∀ w, (Instr.index 45 (.agg #[.int .i64 j.n.p0, .int .i64 j.n.p1, .int .i64 j.n.p2, .int .i64 j.n.p3]) (.int .i64 3)).run Try.prog w = .ok (.int .i64 j.n.p3) w := fun _ => by kernel_rfl
  have WI0 := Lib.hid (show ∀ W : World, Calls Try.prog 82 #[.int .i64 j.n.p0, .int .i64 0, .int .i64 7] W fun e w' => e = .returned (.bool true) ∧ w' = W from fun W => by have := jwithin j.n.p0 0 7 W; rwa [hb0] at this)
  have WI1 := Lib.hid (show ∀ W : World, Calls Try.prog 82 #[.int .i64 j.n.p1, .int .i64 0, .int .i64 7] W fun e w' => e = .returned (.bool true) ∧ w' = W from fun W => by have := jwithin j.n.p1 0 7 W; rwa [hb1] at this)
  have WI2 := Lib.hid (show ∀ W : World, Calls Try.prog 82 #[.int .i64 j.n.p2, .int .i64 0, .int .i64 7] W fun e w' => e = .returned (.bool false) ∧ w' = W from fun W => by have := jwithin j.n.p2 0 7 W; rwa [hb2] at this)
  clear hJ h hb0 hb1 hb2
  go_enter Try.func59, Try.ntmps59
  simp only [hL, hAl, hSt]
  clear hL hAl hSt NL
  go_wp2_with fail
  go_region_held3 (fun w' => (loadCellsFrom ⟨J, 0, none⟩ 0 Z #[]).run Try.prog w' = .ok K.toArray w' ∧ w'.cell? ⟨J, 28, none⟩ = some (.int .i64 j.a.x) ∧ w'.cell? ⟨J, 29, none⟩ = some (.int .i64 j.a.y) ∧ w'.cell? ⟨J, 30, none⟩ = some (.int .i64 j.a.z) ∧ Below w.heap.size w w')
    (first | (with_reducible assumption) | (refine PS.out _ ?_; first | (with_reducible exact Below.refl _ _) | (with_reducible exact (Below.refl _ _).drew) | go_grown))
    (first | fail)
  all_goals
    rename_i hH
    obtain ⟨_, _, _, _, hbW⟩ := hH
    (first
    | (have hq : Below w.heap.size w ((w.alloc (.cells K.toArray T)).alloc (.cells #[.int .i64 j.a.x, .int .i64 j.a.y, .int .i64 j.a.z] 22)).drew := hbW; have r1 := PA1.out; have r2 := PA2.out; generalize ((w.alloc (.cells K.toArray T)).alloc (.cells #[.int .i64 j.a.x, .int .i64 j.a.y, .int .i64 j.a.z] 22)).drew = W1 at *; have j2 : J < w.heap.size + 1 := Nat.lt_succ_of_lt hlt; generalize hb1 : w.heap.size + 1 = B2 at *; clear hb1; have n1 := Nat.ne_of_lt hlt; have n2 := Nat.ne_of_lt j2)
    | (have hq : Below w.heap.size w ((w.alloc (.cells #[.int .i64 j.a.x, .int .i64 j.a.y, .int .i64 j.a.z] 22)).alloc (.cells K.toArray T)).drew := hbW; have r1 := PB1.out; have r2 := PB2.out; generalize ((w.alloc (.cells #[.int .i64 j.a.x, .int .i64 j.a.y, .int .i64 j.a.z] 22)).alloc (.cells K.toArray T)).drew = W1 at *; have j2 : J < w.heap.size + 1 := Nat.lt_succ_of_lt hlt; generalize hb1 : w.heap.size + 1 = B2 at *; clear hb1; have n2 := Nat.ne_of_lt hlt; have n1 := Nat.ne_of_lt j2))
    have HJ1 := HJ.out.later hbW hlt
    have HQ := Lib.hid hbW
    clear hbW hq PA1 PA2 PB1 PB2
    have q_0 := r1.cell 0 _ k_0
    have q_7 := r1.cell 7 _ k_7
    have q_8 := r1.cell 8 _ k_8
    have q_9 := r1.cell 9 _ k_9
    have q_10 := r1.cell 10 _ k_10
    have a_0 := r2.cell 0 _ rfl
    have a_1 := r2.cell 1 _ rfl
    have a_2 := r2.cell 2 _ rfl
    have c_34 := HJ1.cell 34 _ rfl
    have c_35 := HJ1.cell 35 _ rfl
    have c_36 := HJ1.cell 36 _ rfl
    have f_34 := RowAt.fr HJ1 34
    have f_35 := RowAt.fr HJ1 35
    have f_36 := RowAt.fr HJ1 36
    have l1 := r1.lt
    have l2 := r2.lt
    have l3 := RowAt.lt HJ1
    have R1 := Lib.hid r1
    have R2 := Lib.hid r2
    have HJ2 := Lib.hid HJ1
    clear r1 r2 HJ1 tT tU tV tA tS tZ tK RG PS HJ
    go_wp2_with fail
    refine wp_loop_rounds 5 ?_
    iterate 3 (
      rw [rounds_succ]
      go_wp2_with (first | (go_at_call 82; (with_reducible refine (WI0.out _).mono ?_); rintro e w' ⟨rfl, rfl⟩) | (go_at_call 82; (with_reducible refine (WI1.out _).mono ?_); rintro e w' ⟨rfl, rfl⟩) | (go_at_call 82; (with_reducible refine (WI2.out _).mono ?_); rintro e w' ⟨rfl, rfl⟩)))
    go_ret
    exact ⟨rfl, HQ.out⟩
set_option maxRecDepth 100000 in
set_option maxHeartbeats 4000000 in
theorem jmk_10bad3 (J : Nat) (j : Jg) (w : World) (hJ : JAt w J j) (h : j.n.op = 10) (hb0 : decide (0 ≤ j.n.p0 ∧ j.n.p0 ≤ 7) = true) (hb1 : decide (0 ≤ j.n.p1 ∧ j.n.p1 ≤ 7) = true) (hb2 : decide (0 ≤ j.n.p2 ∧ j.n.p2 ≤ 7) = true) (hb3 : decide (0 ≤ j.n.p3 ∧ j.n.p3 ≤ 7) = false) :
    Calls Try.prog 59 #[.pointer (some ⟨J, 0, none⟩)] w fun e w' => e = .returned (.int .i64 10) ∧ Below w.heap.size w w' := by
  obtain ⟨T, Z, Z0, K, NL⟩ := node_letter j.n
  have hL := NL.load
  have hAl := NL.alloc
  have hSt := NL.store
  have tA := NL.agg
  have tS := NL.size
  have tZ := NL.zero
  have tK := NL.len
  have tT := NL.tT w
  have tU := NL.tU w
  have tV := NL.tV w
  have hlt := hJ.lt
  have RG := Lib.hid (jg_rg hJ NL)
  have k_0 : K[0]? = some (.int .i64 10) := by rw [NL.cells, ← h]; rfl
  have k_7 : K[7]? = some (.int .i64 j.n.p0) := by rw [NL.cells]; rfl
  have k_8 : K[8]? = some (.int .i64 j.n.p1) := by rw [NL.cells]; rfl
  have k_9 : K[9]? = some (.int .i64 j.n.p2) := by rw [NL.cells]; rfl
  have k_10 : K[10]? = some (.int .i64 j.n.p3) := by rw [NL.cells]; rfl
  have c_28 := hJ.cell 28 _ rfl
  have c_29 := hJ.cell 29 _ rfl
  have c_30 := hJ.cell 30 _ rfl
  have PA1 := Lib.hid (row_1 w K T (.cells #[.int .i64 j.a.x, .int .i64 j.a.y, .int .i64 j.a.z] 22))
  have PA2 := Lib.hid (row_2 w (.cells K.toArray T) [.int .i64 j.a.x, .int .i64 j.a.y, .int .i64 j.a.z] 22)
  have PB2 := Lib.hid (row_1 w [.int .i64 j.a.x, .int .i64 j.a.y, .int .i64 j.a.z] 22 (.cells K.toArray T))
  have PB1 := Lib.hid (row_2 w (.cells #[.int .i64 j.a.x, .int .i64 j.a.y, .int .i64 j.a.z] 22) K T)
  have PS := Lib.hid (show ∀ w', Below w.heap.size w w' → (fun w' => (loadCellsFrom ⟨J, 0, none⟩ 0 Z #[]).run Try.prog w' = .ok K.toArray w' ∧ w'.cell? ⟨J, 28, none⟩ = some (.int .i64 j.a.x) ∧ w'.cell? ⟨J, 29, none⟩ = some (.int .i64 j.a.y) ∧ w'.cell? ⟨J, 30, none⟩ = some (.int .i64 j.a.z) ∧ Below w.heap.size w w') w' from fun w' hb => ⟨NL.read w' J (fun i v hv => (hb.cell (p := ⟨J, 0 + i, none⟩) hlt).trans (RG.out i v hv)), (hb.cell (p := ⟨J, 28, none⟩) hlt).trans c_28, (hb.cell (p := ⟨J, 29, none⟩) hlt).trans c_29, (hb.cell (p := ⟨J, 30, none⟩) hlt).trans c_30, hb⟩)
  have HJ := Lib.hid hJ
  have ix0 : ∀ w, (Instr.index 45 (.agg #[.int .i64 j.n.p0, .int .i64 j.n.p1, .int .i64 j.n.p2, .int .i64 j.n.p3]) (.int .i64 0)).run Try.prog w = .ok (.int .i64 j.n.p0) w := fun _ => by kernel_rfl
  have ix1 : ∀ w, (Instr.index 45 (.agg #[.int .i64 j.n.p0, .int .i64 j.n.p1, .int .i64 j.n.p2, .int .i64 j.n.p3]) (.int .i64 1)).run Try.prog w = .ok (.int .i64 j.n.p1) w := fun _ => by kernel_rfl
  have ix2 : ∀ w, (Instr.index 45 (.agg #[.int .i64 j.n.p0, .int .i64 j.n.p1, .int .i64 j.n.p2, .int .i64 j.n.p3]) (.int .i64 2)).run Try.prog w = .ok (.int .i64 j.n.p2) w := fun _ => by kernel_rfl
  have ix3 : ∀ w, (Instr.index 45 (.agg #[.int .i64 j.n.p0, .int .i64 j.n.p1, .int .i64 j.n.p2, .int .i64 j.n.p3]) (.int .i64 3)).run Try.prog w = .ok (.int .i64 j.n.p3) w := fun _ => by kernel_rfl
  have WI0 := Lib.hid (show ∀ W : World, Calls Try.prog 82 #[.int .i64 j.n.p0, .int .i64 0, .int .i64 7] W fun e w' => e = .returned (.bool true) ∧ w' = W from fun W => by have := jwithin j.n.p0 0 7 W; rwa [hb0] at this)
  have WI1 := Lib.hid (show ∀ W : World, Calls Try.prog 82 #[.int .i64 j.n.p1, .int .i64 0, .int .i64 7] W fun e w' => e = .returned (.bool true) ∧ w' = W from fun W => by have := jwithin j.n.p1 0 7 W; rwa [hb1] at this)
  have WI2 := Lib.hid (show ∀ W : World, Calls Try.prog 82 #[.int .i64 j.n.p2, .int .i64 0, .int .i64 7] W fun e w' => e = .returned (.bool true) ∧ w' = W from fun W => by have := jwithin j.n.p2 0 7 W; rwa [hb2] at this)
  have WI3 := Lib.hid (show ∀ W : World, Calls Try.prog 82 #[.int .i64 j.n.p3, .int .i64 0, .int .i64 7] W fun e w' => e = .returned (.bool false) ∧ w' = W from fun W => by have := jwithin j.n.p3 0 7 W; rwa [hb3] at this)
  clear hJ h hb0 hb1 hb2 hb3
  go_enter Try.func59, Try.ntmps59
  simp only [hL, hAl, hSt]
  clear hL hAl hSt NL
  go_wp2_with fail
  go_region_held3 (fun w' => (loadCellsFrom ⟨J, 0, none⟩ 0 Z #[]).run Try.prog w' = .ok K.toArray w' ∧ w'.cell? ⟨J, 28, none⟩ = some (.int .i64 j.a.x) ∧ w'.cell? ⟨J, 29, none⟩ = some (.int .i64 j.a.y) ∧ w'.cell? ⟨J, 30, none⟩ = some (.int .i64 j.a.z) ∧ Below w.heap.size w w')
    (first | (with_reducible assumption) | (refine PS.out _ ?_; first | (with_reducible exact Below.refl _ _) | (with_reducible exact (Below.refl _ _).drew) | go_grown))
    (first | fail)
  all_goals
    rename_i hH
    obtain ⟨_, _, _, _, hbW⟩ := hH
    (first
    | (have hq : Below w.heap.size w ((w.alloc (.cells K.toArray T)).alloc (.cells #[.int .i64 j.a.x, .int .i64 j.a.y, .int .i64 j.a.z] 22)).drew := hbW; have r1 := PA1.out; have r2 := PA2.out; generalize ((w.alloc (.cells K.toArray T)).alloc (.cells #[.int .i64 j.a.x, .int .i64 j.a.y, .int .i64 j.a.z] 22)).drew = W1 at *; have j2 : J < w.heap.size + 1 := Nat.lt_succ_of_lt hlt; generalize hb1 : w.heap.size + 1 = B2 at *; clear hb1; have n1 := Nat.ne_of_lt hlt; have n2 := Nat.ne_of_lt j2)
    | (have hq : Below w.heap.size w ((w.alloc (.cells #[.int .i64 j.a.x, .int .i64 j.a.y, .int .i64 j.a.z] 22)).alloc (.cells K.toArray T)).drew := hbW; have r1 := PB1.out; have r2 := PB2.out; generalize ((w.alloc (.cells #[.int .i64 j.a.x, .int .i64 j.a.y, .int .i64 j.a.z] 22)).alloc (.cells K.toArray T)).drew = W1 at *; have j2 : J < w.heap.size + 1 := Nat.lt_succ_of_lt hlt; generalize hb1 : w.heap.size + 1 = B2 at *; clear hb1; have n2 := Nat.ne_of_lt hlt; have n1 := Nat.ne_of_lt j2))
    have HJ1 := HJ.out.later hbW hlt
    have HQ := Lib.hid hbW
    clear hbW hq PA1 PA2 PB1 PB2
    have q_0 := r1.cell 0 _ k_0
    have q_7 := r1.cell 7 _ k_7
    have q_8 := r1.cell 8 _ k_8
    have q_9 := r1.cell 9 _ k_9
    have q_10 := r1.cell 10 _ k_10
    have a_0 := r2.cell 0 _ rfl
    have a_1 := r2.cell 1 _ rfl
    have a_2 := r2.cell 2 _ rfl
    have c_34 := HJ1.cell 34 _ rfl
    have c_35 := HJ1.cell 35 _ rfl
    have c_36 := HJ1.cell 36 _ rfl
    have f_34 := RowAt.fr HJ1 34
    have f_35 := RowAt.fr HJ1 35
    have f_36 := RowAt.fr HJ1 36
    have l1 := r1.lt
    have l2 := r2.lt
    have l3 := RowAt.lt HJ1
    have R1 := Lib.hid r1
    have R2 := Lib.hid r2
    have HJ2 := Lib.hid HJ1
    clear r1 r2 HJ1 tT tU tV tA tS tZ tK RG PS HJ
    go_wp2_with fail
    refine wp_loop_rounds 5 ?_
    iterate 4 (
      rw [rounds_succ]
      go_wp2_with (first | (go_at_call 82; (with_reducible refine (WI0.out _).mono ?_); rintro e w' ⟨rfl, rfl⟩) | (go_at_call 82; (with_reducible refine (WI1.out _).mono ?_); rintro e w' ⟨rfl, rfl⟩) | (go_at_call 82; (with_reducible refine (WI2.out _).mono ?_); rintro e w' ⟨rfl, rfl⟩) | (go_at_call 82; (with_reducible refine (WI3.out _).mono ?_); rintro e w' ⟨rfl, rfl⟩)))
    go_ret
    exact ⟨rfl, HQ.out⟩
end Go.Proofs.Ytmifojpmomdmeaa

namespace Go.Proofs.Ytmifojpmomdmeaa
open Go Go.RowKit
set_option linter.unusedVariables false

set_option maxRecDepth 100000 in
set_option maxHeartbeats 4000000 in
theorem jmk_10 (J : Nat) (j : Jg) (w : World) (hJ : JAt w J j) (h : j.n.op = 10) (ha : j.a.good = true) (hb0 : decide (0 ≤ j.n.p0 ∧ j.n.p0 ≤ 7) = true) (hb1 : decide (0 ≤ j.n.p1 ∧ j.n.p1 ≤ 7) = true) (hb2 : decide (0 ≤ j.n.p2 ∧ j.n.p2 ≤ 7) = true) (hb3 : decide (0 ≤ j.n.p3 ∧ j.n.p3 ≤ 7) = true) :
    Calls Try.prog 59 #[.pointer (some ⟨J, 0, none⟩)] w fun e w' => e = .returned (.int .i64 (mkF j ⟨j.a.x + j.n.p0 + j.n.p2, j.a.y + j.n.p1 + j.n.p3, j.a.z⟩)) ∧ w.grownBy w' (some J) ∧ JAt w' J { j with o := ⟨j.a.x + j.n.p0 + j.n.p2, j.a.y + j.n.p1 + j.n.p3, j.a.z⟩ } := by
  obtain ⟨T, Z, Z0, K, NL⟩ := node_letter j.n
  have hL := NL.load
  have hAl := NL.alloc
  have hSt := NL.store
  have tA := NL.agg
  have tS := NL.size
  have tZ := NL.zero
  have tK := NL.len
  have tT := NL.tT w
  have tU := NL.tU w
  have tV := NL.tV w
  have hlt := hJ.lt
  have RG := Lib.hid (jg_rg hJ NL)
  have k_0 : K[0]? = some (.int .i64 10) := by rw [NL.cells, ← h]; rfl
  have k_7 : K[7]? = some (.int .i64 j.n.p0) := by rw [NL.cells]; rfl
  have k_8 : K[8]? = some (.int .i64 j.n.p1) := by rw [NL.cells]; rfl
  have k_9 : K[9]? = some (.int .i64 j.n.p2) := by rw [NL.cells]; rfl
  have k_10 : K[10]? = some (.int .i64 j.n.p3) := by rw [NL.cells]; rfl
  have c_28 := hJ.cell 28 _ rfl
  have c_29 := hJ.cell 29 _ rfl
  have c_30 := hJ.cell 30 _ rfl
  have PA1 := Lib.hid (row_1 w K T (.cells #[.int .i64 j.a.x, .int .i64 j.a.y, .int .i64 j.a.z] 22))
  have PA2 := Lib.hid (row_2 w (.cells K.toArray T) [.int .i64 j.a.x, .int .i64 j.a.y, .int .i64 j.a.z] 22)
  have PB2 := Lib.hid (row_1 w [.int .i64 j.a.x, .int .i64 j.a.y, .int .i64 j.a.z] 22 (.cells K.toArray T))
  have PB1 := Lib.hid (row_2 w (.cells #[.int .i64 j.a.x, .int .i64 j.a.y, .int .i64 j.a.z] 22) K T)
  have PS := Lib.hid (show ∀ w', Below w.heap.size w w' → (fun w' => (loadCellsFrom ⟨J, 0, none⟩ 0 Z #[]).run Try.prog w' = .ok K.toArray w' ∧ w'.cell? ⟨J, 28, none⟩ = some (.int .i64 j.a.x) ∧ w'.cell? ⟨J, 29, none⟩ = some (.int .i64 j.a.y) ∧ w'.cell? ⟨J, 30, none⟩ = some (.int .i64 j.a.z) ∧ Below w.heap.size w w') w' from fun w' hb => ⟨NL.read w' J (fun i v hv => (hb.cell (p := ⟨J, 0 + i, none⟩) hlt).trans (RG.out i v hv)), (hb.cell (p := ⟨J, 28, none⟩) hlt).trans c_28, (hb.cell (p := ⟨J, 29, none⟩) hlt).trans c_29, (hb.cell (p := ⟨J, 30, none⟩) hlt).trans c_30, hb⟩)
  have HJ := Lib.hid hJ
  obtain ⟨f, hf⟩ : ∃ f, f = Sh.fit ⟨j.a.x + j.n.p0 + j.n.p2, j.a.y + j.n.p1 + j.n.p3, j.a.z⟩ := ⟨_, rfl⟩
  have FS := Lib.hid (show ∀ W : World, Calls Try.prog 36 #[.agg #[.int .i64 (j.a.x + j.n.p0 + j.n.p2), .int .i64 (j.a.y + j.n.p1 + j.n.p3), .int .i64 j.a.z]] W fun e w' => e = .returned (.int .i64 f) ∧ Below W.heap.size W w' from fun W => by rw [hf]; exact fits_sh ⟨j.a.x + j.n.p0 + j.n.p2, j.a.y + j.n.p1 + j.n.p3, j.a.z⟩ W)
  obtain ⟨sz, hsz⟩ : ∃ s, s = sizeG j.a := ⟨_, rfl⟩
  have SA := Lib.hid (show ∀ W : World, Calls Try.prog 20 #[.agg #[.int .i64 j.a.x, .int .i64 j.a.y, .int .i64 j.a.z]] W fun e w' => e = .returned (.int .i64 sz) ∧ Below W.heap.size W w' from fun W => by rw [hsz]; exact size_sh j.a W)
  obtain ⟨c, hc⟩ : ∃ c, c = mkF j ⟨j.a.x + j.n.p0 + j.n.p2, j.a.y + j.n.p1 + j.n.p3, j.a.z⟩ := ⟨_, rfl⟩
  rw [← hc]
  unfold mkF at hc
  rw [← hf, ← hsz, h] at hc
  have HC := Lib.hid hc
  clear hJ h hf hsz hc
  have ix0 : ∀ w, (Instr.index 45 (.agg #[.int .i64 j.n.p0, .int .i64 j.n.p1, .int .i64 j.n.p2, .int .i64 j.n.p3]) (.int .i64 0)).run Try.prog w = .ok (.int .i64 j.n.p0) w := fun _ => by kernel_rfl
  have ix1 : ∀ w, (Instr.index 45 (.agg #[.int .i64 j.n.p0, .int .i64 j.n.p1, .int .i64 j.n.p2, .int .i64 j.n.p3]) (.int .i64 1)).run Try.prog w = .ok (.int .i64 j.n.p1) w := fun _ => by kernel_rfl
  have ix2 : ∀ w, (Instr.index 45 (.agg #[.int .i64 j.n.p0, .int .i64 j.n.p1, .int .i64 j.n.p2, .int .i64 j.n.p3]) (.int .i64 2)).run Try.prog w = .ok (.int .i64 j.n.p2) w := fun _ => by kernel_rfl
  have ix3 : ∀ w, (Instr.index 45 (.agg #[.int .i64 j.n.p0, .int .i64 j.n.p1, .int .i64 j.n.p2, .int .i64 j.n.p3]) (.int .i64 3)).run Try.prog w = .ok (.int .i64 j.n.p3) w := fun _ => by kernel_rfl
  have WI0 := Lib.hid (show ∀ W : World, Calls Try.prog 82 #[.int .i64 j.n.p0, .int .i64 0, .int .i64 7] W fun e w' => e = .returned (.bool true) ∧ w' = W from fun W => by have := jwithin j.n.p0 0 7 W; rwa [hb0] at this)
  have WI1 := Lib.hid (show ∀ W : World, Calls Try.prog 82 #[.int .i64 j.n.p1, .int .i64 0, .int .i64 7] W fun e w' => e = .returned (.bool true) ∧ w' = W from fun W => by have := jwithin j.n.p1 0 7 W; rwa [hb1] at this)
  have WI2 := Lib.hid (show ∀ W : World, Calls Try.prog 82 #[.int .i64 j.n.p2, .int .i64 0, .int .i64 7] W fun e w' => e = .returned (.bool true) ∧ w' = W from fun W => by have := jwithin j.n.p2 0 7 W; rwa [hb2] at this)
  have WI3 := Lib.hid (show ∀ W : World, Calls Try.prog 82 #[.int .i64 j.n.p3, .int .i64 0, .int .i64 7] W fun e w' => e = .returned (.bool true) ∧ w' = W from fun W => by have := jwithin j.n.p3 0 7 W; rwa [hb3] at this)
  obtain ⟨g0, g1, g2, g3, _, _, _⟩ := of_decide_eq_true ha
  obtain ⟨z0, z1⟩ := of_decide_eq_true hb0
  obtain ⟨z2, z3⟩ := of_decide_eq_true hb1
  obtain ⟨z4, z5⟩ := of_decide_eq_true hb2
  obtain ⟨z6, z7⟩ := of_decide_eq_true hb3
  have hw0 : IntKind.i64.wrap (j.a.x + j.n.p0) = j.a.x + j.n.p0 := IntWalk.i64_in _ (by omega)
  have hw1 : IntKind.i64.wrap (j.a.x + j.n.p0 + j.n.p2) = j.a.x + j.n.p0 + j.n.p2 := IntWalk.i64_in _ (by omega)
  have hw2 : IntKind.i64.wrap (j.a.y + j.n.p1) = j.a.y + j.n.p1 := IntWalk.i64_in _ (by omega)
  have hw3 : IntKind.i64.wrap (j.a.y + j.n.p1 + j.n.p3) = j.a.y + j.n.p1 + j.n.p3 := IntWalk.i64_in _ (by omega)
  clear ha hb0 hb1 hb2 hb3 z0 z1 z2 z3 z4 z5 z6 z7
  go_enter Try.func59, Try.ntmps59
  simp only [hL, hAl, hSt]
  clear hL hAl hSt NL
  go_wp2_with fail
  go_region_held3 (fun w' => (loadCellsFrom ⟨J, 0, none⟩ 0 Z #[]).run Try.prog w' = .ok K.toArray w' ∧ w'.cell? ⟨J, 28, none⟩ = some (.int .i64 j.a.x) ∧ w'.cell? ⟨J, 29, none⟩ = some (.int .i64 j.a.y) ∧ w'.cell? ⟨J, 30, none⟩ = some (.int .i64 j.a.z) ∧ Below w.heap.size w w')
    (first | (with_reducible assumption) | (refine PS.out _ ?_; first | (with_reducible exact Below.refl _ _) | (with_reducible exact (Below.refl _ _).drew) | go_grown))
    (first | fail)
  all_goals
    rename_i hH
    obtain ⟨_, _, _, _, hbW⟩ := hH
    (first
    | (have hq : Below w.heap.size w ((w.alloc (.cells K.toArray T)).alloc (.cells #[.int .i64 j.a.x, .int .i64 j.a.y, .int .i64 j.a.z] 22)).drew := hbW; have r1 := PA1.out; have r2 := PA2.out; generalize ((w.alloc (.cells K.toArray T)).alloc (.cells #[.int .i64 j.a.x, .int .i64 j.a.y, .int .i64 j.a.z] 22)).drew = W1 at *; have j2 : J < w.heap.size + 1 := Nat.lt_succ_of_lt hlt; generalize hb1 : w.heap.size + 1 = B2 at *; clear hb1; have n1 := Nat.ne_of_lt hlt; have n2 := Nat.ne_of_lt j2)
    | (have hq : Below w.heap.size w ((w.alloc (.cells #[.int .i64 j.a.x, .int .i64 j.a.y, .int .i64 j.a.z] 22)).alloc (.cells K.toArray T)).drew := hbW; have r1 := PB1.out; have r2 := PB2.out; generalize ((w.alloc (.cells #[.int .i64 j.a.x, .int .i64 j.a.y, .int .i64 j.a.z] 22)).alloc (.cells K.toArray T)).drew = W1 at *; have j2 : J < w.heap.size + 1 := Nat.lt_succ_of_lt hlt; generalize hb1 : w.heap.size + 1 = B2 at *; clear hb1; have n2 := Nat.ne_of_lt hlt; have n1 := Nat.ne_of_lt j2))
    have HJ1 := HJ.out.later hbW hlt
    have HQ := Lib.hid hbW
    clear hbW hq PA1 PA2 PB1 PB2
    have q_0 := r1.cell 0 _ k_0
    have q_7 := r1.cell 7 _ k_7
    have q_8 := r1.cell 8 _ k_8
    have q_9 := r1.cell 9 _ k_9
    have q_10 := r1.cell 10 _ k_10
    have a_0 := r2.cell 0 _ rfl
    have a_1 := r2.cell 1 _ rfl
    have a_2 := r2.cell 2 _ rfl
    have c_34 := HJ1.cell 34 _ rfl
    have c_35 := HJ1.cell 35 _ rfl
    have c_36 := HJ1.cell 36 _ rfl
    have f_34 := RowAt.fr HJ1 34
    have f_35 := RowAt.fr HJ1 35
    have f_36 := RowAt.fr HJ1 36
    have l1 := r1.lt
    have l2 := r2.lt
    have l3 := RowAt.lt HJ1
    have R1 := Lib.hid r1
    have R2 := Lib.hid r2
    have HJ2 := Lib.hid HJ1
    clear r1 r2 HJ1 tT tU tV tA tS tZ tK RG PS HJ
    go_wp2_with fail
    refine wp_loop_rounds 5 ?_
    iterate 4 (
      rw [rounds_succ]
      go_wp2_with (first | (go_at_call 82; (with_reducible refine (WI0.out _).mono ?_); rintro e w' ⟨rfl, rfl⟩) | (go_at_call 82; (with_reducible refine (WI1.out _).mono ?_); rintro e w' ⟨rfl, rfl⟩) | (go_at_call 82; (with_reducible refine (WI2.out _).mono ?_); rintro e w' ⟨rfl, rfl⟩) | (go_at_call 82; (with_reducible refine (WI3.out _).mono ?_); rintro e w' ⟨rfl, rfl⟩)))
    rw [rounds_succ]
    go_wp2_with (go_at_call 36; (with_reducible refine (FS.out _).mono ?_); rintro e w2 ⟨rfl, hb2⟩; have r1' := (((R1.out.aside J 34 _ n1).aside J 35 _ n1).aside J 36 _ n1).over hb2; have q' := r1'.cell 0 _ k_0; have r2' := (((R2.out.aside J 34 _ n2).aside J 35 _ n2).aside J 36 _ n2).over hb2; have a0' := r2'.cell 0 _ rfl; have a1' := r2'.cell 1 _ rfl; have a2' := r2'.cell 2 _ rfl; have HB2 := Lib.hid hb2; clear hb2 r1' r2')
    all_goals
      go_ret
      refine ⟨ret_i64 ?_, grown_trans (grownN_set (grownN_set (grownN_set (below_grown HQ.out (some J))))) (below_grown HB2.out (some J)), JAt.over ((JAt.set { j with o := ⟨j.a.x + j.n.p0 + j.n.p2, j.a.y + j.n.p1 + j.n.p3, j.a.z⟩ } (JAt.set { j with o := ⟨j.a.x + j.n.p0 + j.n.p2, j.a.y + j.n.p1 + j.n.p3, j.o.z⟩ } (JAt.set { j with o := ⟨j.a.x + j.n.p0 + j.n.p2, j.o.y, j.o.z⟩ } HJ2.out 34 _ (by decide) rfl) 35 _ (by decide) rfl) 36 _ (by decide) rfl)) HB2.out⟩
      rw [HC.out]
      simp_all
end Go.Proofs.Ytmifojpmomdmeaa
