/- Contract of mem.New: a new memory. -/
import Derived.Test.YtghclbeoabkgcaaMem
import Derived.Laws.CopyOwn
namespace Go.Proofs.Ytghclbeoabkgcaa
open Go Go.RowKit
set_option linter.unusedVariables false

theorem info_u8M : (Try.prog.info? 5).map (fun i => (i.zero, i.size, i.bytes)) = some (some (.int .u8 0), 1, 1) := by kernel_rfl
theorem boxedM {w w1 : World} {cs : Array Value} {t : TypeId} (hb : Below (w.alloc (.cells cs t)).heap.size (w.alloc (.cells cs t)) w1) :
    (∀ j v, cs[j]? = some v → w1.cell? ⟨w.heap.size, j, none⟩ = some v) ∧ w.heap.size < w1.heap.size ∧ w.heap.size ≤ w1.heap.size := by
  have hs := hb.size
  simp at hs
  refine ⟨fun j v hv => (hb.cell (p := ⟨w.heap.size, j, none⟩) (by simp)).trans ?_, by omega, by omega⟩
  rw [World.cell?_alloc_new]
  exact hv
set_option maxHeartbeats 1000000 in
theorem new_no (f fs r rs : Int) (w : World) (hf : 0 ≤ f ∧ f < 4294967296) (hfs : 0 ≤ fs ∧ fs < 4294967296) (hr : 0 ≤ r ∧ r < 4294967296) (hrs : 0 ≤ rs ∧ rs < 4294967296) (hc : canM f fs r rs = false) :
    Calls Try.prog 48 #[.agg #[.int .u32 f, .int .u32 fs, .int .u32 r, .int .u32 rs]] w fun e w' => e = .returned (.tuple #[.pointer none, .int .i64 1]) ∧ Below w.heap.size w w' := by
  have C := Lib.hid (mcan_any f fs r rs · hf hfs hr hrs)
  have HC := Lib.hid hc
  clear hc
  go_enter Try.func48, Try.ntmps48
  go_wp2_with fail
  refine (C.out _).mono ?_
  rw [HC.out]
  rintro e w1 ⟨rfl, hb⟩
  have HB := Lib.hid (Below.trans (show Below w.heap.size w (w.alloc (.cells #[.int .u32 f, .int .u32 fs, .int .u32 r, .int .u32 rs] 88)) by go_grown) (hb.mono (by simp)))
  clear hb
  go_wp2_with fail
  go_ret2
  exact ⟨rfl, HB.out⟩

theorem heap3 (w : World) (o1 o2 o3 : Obj) : (((w.alloc o1).alloc o2).alloc o3).drew.heap[w.heap.size]? = some o1 ∧ (((w.alloc o1).alloc o2).alloc o3).drew.heap[w.heap.size + 1]? = some o2 ∧
    (((w.alloc o1).alloc o2).alloc o3).drew.heap[w.heap.size + 1 + 1]? = some o3 ∧ (((w.alloc o1).alloc o2).alloc o3).drew.heap.size = w.heap.size + 3 ∧ Below w.heap.size w (((w.alloc o1).alloc o2).alloc o3).drew := by
  have s1 : (w.alloc o1).heap.size = w.heap.size + 1 := by simp
  have s2 : ((w.alloc o1).alloc o2).heap.size = w.heap.size + 1 + 1 := by simp
  refine ⟨?_, ?_, ?_, by simp, by go_grown⟩
  · show (((w.alloc o1).alloc o2).alloc o3).heap[w.heap.size]? = some o1
    rw [heap_alloc_old _ _ (by omega), heap_alloc_old _ _ (by omega), heap_alloc_new]
  · show (((w.alloc o1).alloc o2).alloc o3).heap[w.heap.size + 1]? = some o2
    rw [heap_alloc_old _ _ (by omega), ← s1, heap_alloc_new]
  · show (((w.alloc o1).alloc o2).alloc o3).heap[w.heap.size + 1 + 1]? = some o3
    rw [← s2, heap_alloc_new]
def NewPost (f : Int) (n1 : Nat) (r : Int) (n2 : Nat) (w : World) (e : Ending) (w' : World) : Prop := ∃ M F R : Nat, e = .returned (.tuple #[.pointer (some ⟨M, 0, none⟩), .int .i64 0]) ∧
  w'.heap[M]? = some (.cells #[.int .u32 f, .int .u32 (n1 : Nat), .int .u32 r, .int .u32 (n2 : Nat), .slice (some ⟨F, 0, none⟩) n1 n1, .slice (some ⟨R, 0, none⟩) n2 n2] 119 (0, 0)) ∧
  w'.heap[F]? = some (.cells (madeCells #[.int .u8 0] n1) 5 (0, 0)) ∧ w'.heap[R]? = some (.cells (madeCells #[.int .u8 0] n2) 5 (0, 0)) ∧
  w.heap.size ≤ M ∧ w.heap.size ≤ F ∧ w.heap.size ≤ R ∧ F ≠ R ∧ M ≠ F ∧ M ≠ R ∧ M < w'.heap.size ∧ F < w'.heap.size ∧ R < w'.heap.size ∧ Below w.heap.size w w'
set_option maxHeartbeats 1000000 in
theorem new_yes (f : Int) (n1 : Nat) (r : Int) (n2 : Nat) (w : World) (hf : 0 ≤ f ∧ f < 4294967296) (hfs : n1 ≤ 1048576) (hr : 0 ≤ r ∧ r < 4294967296) (hrs : n2 ≤ 1048576) (hc : canM f (n1 : Nat) r (n2 : Nat) = true) :
    Calls Try.prog 48 #[.agg #[.int .u32 f, .int .u32 (n1 : Nat), .int .u32 r, .int .u32 (n2 : Nat)]] w (NewPost f n1 r n2 w) := by
  have C := Lib.hid (mcan_any f (n1 : Nat) r (n2 : Nat) · hf (by omega) hr (by omega))
  have HC := Lib.hid hc
  clear hc
  go_enter Try.func48, Try.ntmps48
  go_wp2_with fail
  refine (C.out _).mono ?_
  rw [HC.out]
  rintro e w1 ⟨rfl, hb⟩
  obtain ⟨hbox, hz1, hz2⟩ := boxedM hb
  have hS : w1.cell? ⟨w.heap.size, 0, none⟩ = some (.int .u32 f) ∧ w1.cell? ⟨w.heap.size, 1, none⟩ = some (.int .u32 (n1 : Nat)) ∧ w1.cell? ⟨w.heap.size, 2, none⟩ = some (.int .u32 r) ∧ w1.cell? ⟨w.heap.size, 3, none⟩ = some (.int .u32 (n2 : Nat)) ∧ w.heap.size < w1.heap.size ∧ Below w.heap.size w w1 := ⟨hbox 0 _ rfl, hbox 1 _ rfl, hbox 2 _ rfl, hbox 3 _ rfl, hz1, Below.trans (show Below w.heap.size w (w.alloc (.cells #[.int .u32 f, .int .u32 (n1 : Nat), .int .u32 r, .int .u32 (n2 : Nat)] 88)) by go_grown) (hb.mono (by simp))⟩
  clear hbox hb
  have c0 := hS.1
  have c1 := hS.2.1
  have c2 := hS.2.2.1
  have c3 := hS.2.2.2.1
  have hz := hS.2.2.2.2.1
  have hm1 := fun W => run_make_row' (P := Try.prog) 45 5 (.int .u8 0) 1 Try.underlying45 info_u8M rfl .u32 .u32 n1 (by omega) (by omega) W
  have hm2 := fun W => run_make_row' (P := Try.prog) 45 5 (.int .u8 0) 1 Try.underlying45 info_u8M rfl .u32 .u32 n2 (by omega) (by omega) W
  go_wp2_with fail
  go_region
  all_goals go_wp2
  all_goals go_ret2
  · obtain ⟨h1, h2, h3, h4, h5⟩ := heap3 w1 (.cells (madeCells #[Value.int .u8 0] n1) 5) (.cells (madeCells #[Value.int .u8 0] n2) 5) (.cells #[.int .u32 f, .int .u32 (n1 : Nat), .int .u32 r, .int .u32 (n2 : Nat), .slice (some ⟨w1.heap.size, 0, none⟩) n1 n1, .slice (some ⟨w1.heap.size + 1, 0, none⟩) n2 n2] 119)
    exact ⟨_, _, _, rfl, h3, h1, h2, by omega, by omega, by omega, by omega, by omega, by omega, by omega, by omega, by omega, hS.2.2.2.2.2.trans (h5.mono hz2)⟩
  · obtain ⟨h1, h2, h3, h4, h5⟩ := heap3 w1 (.cells (madeCells #[Value.int .u8 0] n2) 5) (.cells (madeCells #[Value.int .u8 0] n1) 5) (.cells #[.int .u32 f, .int .u32 (n1 : Nat), .int .u32 r, .int .u32 (n2 : Nat), .slice (some ⟨w1.heap.size + 1, 0, none⟩) n1 n1, .slice (some ⟨w1.heap.size, 0, none⟩) n2 n2] 119)
    exact ⟨_, _, _, rfl, h3, h2, h1, by omega, by omega, by omega, by omega, by omega, by omega, by omega, by omega, by omega, hS.2.2.2.2.2.trans (h5.mono hz2)⟩

/-- a part of bytes that begin at base -/
theorem part_yes (B n base a k : Nat) (w : World) (h0 : 0 < k) (h1 : base ≤ a) (h2 : k ≤ n) (h3 : a - base ≤ n - k) (ha : a < 4294967296) (hn : n ≤ 1048576) :
    Calls Try.prog 88 #[.slice (some ⟨B, 0, none⟩) n n, .int .u32 (base : Int), .int .u32 (a : Int), .int .i64 (k : Int)] w fun e w' => e = .returned (.tuple #[.slice (some ⟨B, a - base, none⟩) k (n - (a - base)), .bool true]) ∧ w = w' := by
  obtain ⟨q, rfl⟩ : ∃ q, a = base + q := ⟨a - base, by omega⟩
  rw [Nat.add_sub_cancel_left] at h3 ⊢
  have t1 : decide ((base + q : Nat) < base) = false := by simp
  have t2 : decide (n < k) = false := by simp; omega
  have hq : q < n := by omega
  have hq2 : n ≠ q := by omega
  go_enter Try.func88, Try.ntmps88
  go_wp2
  go_ret2
  refine ⟨?_, rfl⟩
  show Ending.returned (.tuple #[.slice (some ⟨B, base + q - base, none⟩) (base + q - base + k - (base + q - base)) (n - (base + q - base)), .bool true]) = _
  rw [show base + q - base = q by omega, show q + k - q = k by omega]
theorem part_less (B n base a k : Nat) (w : World) (h1 : a < base) (ha : base < 4294967296) :
    Calls Try.prog 88 #[.slice (some ⟨B, 0, none⟩) n n, .int .u32 (base : Int), .int .u32 (a : Int), .int .i64 (k : Int)] w fun e w' => e = .returned (.tuple #[.slice none 0 0, .bool false]) ∧ w = w' := by
  have t1 : decide (a < base) = true := by simp; omega
  go_enter Try.func88, Try.ntmps88
  go_wp2
  all_goals go_ret2
  all_goals exact ⟨rfl, rfl⟩
theorem part_more (B n base a k : Nat) (w : World) (h1 : base ≤ a) (h2 : k ≤ n) (h3 : n - k < a - base) (ha : a < 4294967296) (hn : n ≤ 1048576) :
    Calls Try.prog 88 #[.slice (some ⟨B, 0, none⟩) n n, .int .u32 (base : Int), .int .u32 (a : Int), .int .i64 (k : Int)] w fun e w' => e = .returned (.tuple #[.slice none 0 0, .bool false]) ∧ w = w' := by
  obtain ⟨q, rfl⟩ : ∃ q, a = base + q := ⟨a - base, by omega⟩
  rw [Nat.add_sub_cancel_left] at h3
  have t1 : decide ((base + q : Nat) < base) = false := by simp
  have t2 : decide (n < k) = false := by simp; omega
  go_enter Try.func88, Try.ntmps88
  go_wp2
  all_goals go_ret2
  all_goals exact ⟨rfl, rfl⟩

def memV (f : Int) (n1 : Nat) (r : Int) (n2 F R : Nat) : Array Value := #[.int .u32 f, .int .u32 (n1 : Nat), .int .u32 r, .int .u32 (n2 : Nat), .slice (some ⟨F, 0, none⟩) n1 n1, .slice (some ⟨R, 0, none⟩) n2 n2]
theorem part_q {args : Array Value} {v : Value} {w : World} {m : Nat} (h : ∀ W, Calls Try.prog 88 args W fun e w' => e = .returned v ∧ W = w') :
    Calls Try.prog 88 args (w.drewN m) fun e w' => e = .returned v ∧ ∃ j, w' = w.drewN j :=
  (h _).mono fun e w' ⟨he, hm⟩ => ⟨he, m, hm.symm⟩
def rowAfter : Array Value := (([.int .u8 4, .int .u8 3, .int .u8 2, .int .u8 1] : List Value) ++ (madeCells #[Value.int .u8 0] 128).toList.drop 4).toArray
set_option maxRecDepth 100000 in
set_option maxHeartbeats 1000000 in
theorem store_live (M F R : Nat) (w : World) (hM : w.heap[M]? = some (.cells (memV 4096 256 2147483648 128 F R) 119 (0, 0))) (hR : w.heap[R]? = some (.cells (madeCells #[.int .u8 0] 128) 5 (0, 0))) (hne : M ≠ R) :
    Calls Try.prog 73 #[.pointer (some ⟨M, 0, none⟩), .int .u32 2147483648, .int .i64 4, .int .u32 16909060] w fun e w' => e = .returned (.int .i64 0) ∧ w'.heap[R]? = some (.cells rowAfter 5 (0, 0)) ∧ w.grownBy w' (some R) := by
  have cM : ∀ j v, (memV 4096 256 2147483648 128 F R)[j]? = some v → w.cell? ⟨M, j, none⟩ = some v := fun j v hv => by rw [cell_of_row w M j _ _ _ hM]; exact hv
  have c0 := cM 0 _ rfl
  have c2 := cM 2 _ rfl
  have c5 := cM 5 _ rfl
  have hMl : M < w.heap.size := (Array.getElem?_eq_some_iff.1 hM).1
  have hRl : R < w.heap.size := (Array.getElem?_eq_some_iff.1 hR).1
  have PY := Lib.hid (show ∀ W, Calls Try.prog 88 #[.slice (some ⟨R, 0, none⟩) 128 128, .int .u32 2147483648, .int .u32 2147483648, .int .i64 4] W (fun e w' => e = .returned (.tuple #[.slice (some ⟨R, 0, none⟩) 4 128, .bool true]) ∧ W = w') from
    fun W => part_yes R 128 2147483648 2147483648 4 W (by omega) (by omega) (by omega) (by omega) (by omega) (by omega))
  have HR := Lib.hid hR
  clear cM hM hR
  go_enter Try.func73, Try.ntmps73
  go_wp2
  go_quiet ((go_at_call 88; exact part_q PY.out))
  rename_i nq
  generalize hW : w.drewN nq = W
  have HWR := Lib.hid (show W.heap[R]? = some (.cells (madeCells #[.int .u8 0] 128) 5 (0, 0)) by rw [← hW]; exact HR.out)
  have HWG := Lib.hid (show w.grownBy W (some R) by rw [← hW]; exact ⟨rfl, rfl, rfl, Nat.le_refl _, fun _ _ _ => rfl⟩)
  have hRW : R < W.heap.size := (Array.getElem?_eq_some_iff.1 HWR.out).1
  have HSRC := Lib.hid (show ∀ j v, ([.int .u8 4, .int .u8 3, .int .u8 2, .int .u8 1] : List Value)[j]? = some v → (W.alloc (.cells #[.int .u8 4, .int .u8 3, .int .u8 2, .int .u8 1] 133)).cell? ((⟨W.heap.size, 0, none⟩ : Addr).add j) = some v from fun j v hj => by
    have e : (⟨W.heap.size, 0, none⟩ : Addr).add j = ⟨W.heap.size, j, none⟩ := by unfold Addr.add; split <;> simp_all
    rw [e, World.cell?_alloc_new]
    simpa using hj)
  have HRA := Lib.hid (show (W.alloc (.cells #[.int .u8 4, .int .u8 3, .int .u8 2, .int .u8 1] 133)).heap[R]? = some (.cells (madeCells #[.int .u8 0] 128) 5 (0, 0)) by rw [heap_alloc_old _ _ hRW]; exact HWR.out)
  clear hW c0 c2 c5
  go_wp2_with (with_reducible refine wpList_copy_own rfl (.tmp 53) (.tmp 55) 45 45 rfl 5 Try.underlying45 (by kernel_rfl) R 0 4 128 ⟨W.heap.size, 0, none⟩ 4 4 rfl rfl (madeCells #[.int .u8 0] 128) 5 HRA.out [.int .u8 4, .int .u8 3, .int .u8 2, .int .u8 1] rfl HSRC.out (by rw [size_madeCells]; decide) (by decide) ?_)
  go_ret
  refine ⟨rfl, setRow_heap _ R _ rowAfter _ _ HRA.out, HWG.out.trans ((World.grownBy_alloc W _ _).trans ⟨rfl, rfl, rfl, by simp, fun k _ hk => setRow_other _ R k _ (fun e => hk (by rw [e]))⟩)⟩

theorem row_cell : rowAfter[1]? = some (.int .u8 3) := rfl
set_option maxRecDepth 100000 in
set_option maxHeartbeats 1000000 in
theorem load_live (M F R : Nat) (w : World) (hM : w.heap[M]? = some (.cells (memV 4096 256 2147483648 128 F R) 119 (0, 0))) (hR : w.heap[R]? = some (.cells rowAfter 5 (0, 0))) :
    Calls Try.prog 55 #[.pointer (some ⟨M, 0, none⟩), .int .u32 2147483649, .int .i64 1] w fun e w' => e = .returned (.tuple #[.int .u32 3, .int .i64 0]) ∧ Below w.heap.size w w' := by
  have cM : ∀ j v, (memV 4096 256 2147483648 128 F R)[j]? = some v → w.cell? ⟨M, j, none⟩ = some v := fun j v hv => by rw [cell_of_row w M j _ _ _ hM]; exact hv
  have c0 := cM 0 (.int .u32 4096) rfl
  have c2 := cM 2 (.int .u32 2147483648) rfl
  have c4 := cM 4 (.slice (some ⟨F, 0, none⟩) 256 256) rfl
  have c5 := cM 5 (.slice (some ⟨R, 0, none⟩) 128 128) rfl
  have r1 : w.cell? ⟨R, 1, none⟩ = some (.int .u8 3) := by rw [cell_of_row w R 1 _ _ _ hR]; exact row_cell
  have P1 := Lib.hid (show ∀ W, Calls Try.prog 88 #[.slice (some ⟨F, 0, none⟩) 256 256, .int .u32 4096, .int .u32 2147483649, .int .i64 1] W (fun e w' => e = .returned (.tuple #[.slice none 0 0, .bool false]) ∧ W = w') from
    fun W => part_more F 256 4096 2147483649 1 W (by omega) (by omega) (by omega) (by omega) (by omega))
  have P2 := Lib.hid (show ∀ W, Calls Try.prog 88 #[.slice (some ⟨R, 0, none⟩) 128 128, .int .u32 2147483648, .int .u32 2147483649, .int .i64 1] W (fun e w' => e = .returned (.tuple #[.slice (some ⟨R, 1, none⟩) 1 127, .bool true]) ∧ W = w') from
    fun W => part_yes R 128 2147483648 2147483649 1 W (by omega) (by omega) (by omega) (by omega) (by omega) (by omega))
  clear cM hM hR
  go_enter Try.func55, Try.ntmps55
  go_wp2
  go_quiet ((go_at_call 88; exact part_q P1.out))
  rename_i nq
  have HB := Lib.hid (below_drewN (Below.refl w.heap.size w) nq)
  have d2 : (w.drewN nq).cell? ⟨M, 2, none⟩ = some (.int .u32 2147483648) := c2
  have d5 : (w.drewN nq).cell? ⟨M, 5, none⟩ = some (.slice (some ⟨R, 0, none⟩) 128 128) := c5
  have s1 : (w.drewN nq).cell? ⟨R, 1, none⟩ = some (.int .u8 3) := r1
  generalize w.drewN nq = W at *
  clear c0 c2 c4 c5 r1
  go_wp2
  go_quiet ((go_at_call 88; exact part_q P2.out))
  rename_i nq
  have HB2 := Lib.hid (below_drewN HB.out nq)
  have s2 : (W.drewN nq).cell? ⟨R, 1, none⟩ = some (.int .u8 3) := s1
  generalize W.drewN nq = V at *
  clear d2 d5 s1
  go_wp2
  go_rounds 3
  go_ret2
  exact ⟨rfl, HB2.out⟩

set_option maxHeartbeats 400000 in
theorem map_any (w : World) : Calls Try.prog 49 #[] w fun e w' => e = .returned (.agg #[.int .u32 4096, .int .u32 256, .int .u32 2147483648, .int .u32 128]) ∧ Below w.heap.size w w' := by
  go_enter Try.func49, Try.ntmps49
  go_wp2
  exact bodyPost_ret (v := .agg #[.int .u32 4096, .int .u32 256, .int .u32 2147483648, .int .u32 128]) (by simp [results, Try.results49, go_sem]) rfl ⟨rfl, by go_grown⟩
theorem new_live (w : World) : Calls Try.prog 48 #[.agg #[.int .u32 4096, .int .u32 256, .int .u32 2147483648, .int .u32 128]] w (NewPost 4096 256 2147483648 128 w) :=
  new_yes 4096 256 2147483648 128 w (by omega) (by omega) (by omega) (by omega) (by decide)
theorem btM {w a b : World} (h : Below w.heap.size w a) (k : Below a.heap.size a b) : Below w.heap.size w b := h.trans (k.mono h.size)
end Go.Proofs.Ytghclbeoabkgcaa
