/- relax.can. -/
import Derived.Test.YtipecnofjdhobaaDoorRxA
import Derived.Test.YtipecnofjdhobaaDoorInstB
import Derived.Laws.StructEq
namespace Go.Proofs.YtipecnofjdhobaaDoor
open Go Go.RowKit Go.Maps Pl
set_option linter.unusedVariables false
set_option linter.unusedSimpArgs false
set_option maxRecDepth 100000

def insB (o d a b i o2 d2 a2 b2 i2 : Int) : Bool := (o == o2) && (d == d2) && (a == a2) && (b == b2) && (i == i2)
theorem part_one {P : Program} {e : TypeId} {k0 : IntKind} (he : P.underlying e = some (.int k0)) (xs : Array Value) (k : Nat) (v : Value) (h : xs[k]? = some v) (w : World) : (Go.part e xs k).run P w = .ok v w := by
  simp [Go.part, Go.isAgg, run_underlying he, h]
theorem fields_ins : (Tryd.prog.fieldsOf 36).toList.map (fun f => (f.name == "_", f.type, f.offset)) = [(false, 3, 0), (false, 3, 1), (false, 3, 2), (false, 3, 3), (false, 21, 4)] := by kernel_rfl
theorem five_of {α β : Type} {f : α → β} {l : List α} {b0 b1 b2 b3 b4 : β} (h : l.map f = [b0, b1, b2, b3, b4]) : ∃ a0 a1 a2 a3 a4, l = [a0, a1, a2, a3, a4] ∧ f a0 = b0 ∧ f a1 = b1 ∧ f a2 = b2 ∧ f a3 = b3 ∧ f a4 = b4 := by
  rcases l with _ | ⟨a0, _ | ⟨a1, _ | ⟨a2, _ | ⟨a3, _ | ⟨a4, _ | ⟨a5, r⟩⟩⟩⟩⟩⟩ <;> simp at h
  exact ⟨a0, a1, a2, a3, a4, rfl, h⟩
theorem ins_eq (o d a b i o2 d2 a2 b2 i2 : Int) (w : World) : (binOp .eql 36 (.agg #[.int .i64 o, .int .i64 d, .int .i64 a, .int .i64 b, .int .i32 i]) (.agg #[.int .i64 o2, .int .i64 d2, .int .i64 a2, .int .i64 b2, .int .i32 i2])).run Tryd.prog w = .ok (.bool (insB o d a b i o2 d2 a2 b2 i2)) w := by
  rw [run_eql_struct, run_equalIn_struct w 9999 36 _ _ (by kernel_rfl) (by kernel_rfl)]
  obtain ⟨f0, f1, f2, f3, f4, hl, h0, h1, h2, h3, h4⟩ := five_of fields_ins
  rw [hl]
  simp only [Prod.mk.injEq] at h0 h1 h2 h3 h4
  obtain ⟨n0, t0, o0⟩ := h0
  obtain ⟨n1, t1, o1⟩ := h1
  obtain ⟨n2, t2, o2⟩ := h2
  obtain ⟨n3, t3, o3⟩ := h3
  obtain ⟨n4, t4, o4⟩ := h4
  have pe : ∀ u v : Int, (Op.equalIn 9999 3 (.int .i64 u) (.int .i64 v)).run Tryd.prog w = .ok (u == v) w := fun u v => run_equalIn_int w 9998 _ .i64 .i64 u v Tryd.underlying3
  have pe4 : ∀ u v : Int, (Op.equalIn 9999 21 (.int .i32 u) (.int .i32 v)).run Tryd.prog w = .ok (u == v) w := fun u v => run_equalIn_int w 9998 _ .i32 .i32 u v Tryd.underlying21
  have q0 := fun (x0 x1 x2 x3 x4 : Int) => part_one Tryd.underlying3 #[.int .i64 x0, .int .i64 x1, .int .i64 x2, .int .i64 x3, .int .i32 x4] 0 (.int .i64 x0) rfl w
  have q1 := fun (x0 x1 x2 x3 x4 : Int) => part_one Tryd.underlying3 #[.int .i64 x0, .int .i64 x1, .int .i64 x2, .int .i64 x3, .int .i32 x4] 1 (.int .i64 x1) rfl w
  have q2 := fun (x0 x1 x2 x3 x4 : Int) => part_one Tryd.underlying3 #[.int .i64 x0, .int .i64 x1, .int .i64 x2, .int .i64 x3, .int .i32 x4] 2 (.int .i64 x2) rfl w
  have q3 := fun (x0 x1 x2 x3 x4 : Int) => part_one Tryd.underlying3 #[.int .i64 x0, .int .i64 x1, .int .i64 x2, .int .i64 x3, .int .i32 x4] 3 (.int .i64 x3) rfl w
  have q4 := fun (x0 x1 x2 x3 x4 : Int) => part_one Tryd.underlying21 #[.int .i64 x0, .int .i64 x1, .int .i64 x2, .int .i64 x3, .int .i32 x4] 4 (.int .i32 x4) rfl w
  have m0 : f0.name ≠ "_" := by simpa using n0
  have m1 : f1.name ≠ "_" := by simpa using n1
  have m2 : f2.name ≠ "_" := by simpa using n2
  have m3 : f3.name ≠ "_" := by simpa using n3
  have m4 : f4.name ≠ "_" := by simpa using n4
  simp only [Op.eqFields, if_pos m0, if_pos m1, if_pos m2, if_pos m3, if_pos m4, t0, t1, t2, t3, t4, o0, o1, o2, o3, o4, Sem.run_bind, q0, q1, q2, q3, q4, pe, pe4, Result.andThen_ok, Sem.run_ite, Sem.run_pure]
  unfold insB
  cases (o == _) <;> cases (d == d2) <;> cases (a == a2) <;> cases (b == b2) <;> cases (i == i2) <;> simp

def It.q (x : It) : Q5 := ⟨x.op, x.rd, x.ra, x.rb, x.im⟩
def canIt (x : It) : Bool :=
  if x.kd = 1 then canI x.q
  else if x.kd = 2 then insB x.op x.rd x.ra x.rb x.im 0 0 0 0 0
  else if x.kd = 3 then decide (36 ≤ x.op) && decide (x.op ≤ 41) && (x.im == 0) && canI x.q
  else if x.kd = 4 then (x.op == 44) && (x.im == 0) && canI x.q
  else if x.kd = 5 then decide (1 ≤ x.rd) && decide (x.rd ≤ 31) && insB x.op x.rd x.ra x.rb x.im 0 x.rd 0 0 x.im
  else false
theorem can_mk {w w2 : World} {x y : Bool} (hb : Below w.heap.size w w2) (h : x = y) : Ending.returned (.bool x) = Ending.returned (.bool y) ∧ Below w.heap.size w w2 := ⟨by rw [h], hb⟩
set_option maxHeartbeats 4000000 in
theorem can_1 (kd o d a b i l : Int) (w : World) (i0 : -2147483648 ≤ i) (i1 : i ≤ 2147483647) (hk : kd = 1) (R : Bool) (hR : canI ⟨o, d, a, b, i⟩ = R) :
    Calls Tryd.prog 39 #[.agg #[.int .i64 kd, .int .i64 o, .int .i64 d, .int .i64 a, .int .i64 b, .int .i32 i, .int .i64 l]] w fun e w' => e = .returned (.bool R) ∧ Below w.heap.size w w' := by
  have HR := Lib.hid hR
  clear hR
  have RA := Lib.hid (RowAt.new w [.int .i64 kd, .int .i64 o, .int .i64 d, .int .i64 a, .int .i64 b, .int .i32 i, .int .i64 l] 41)
  have BA := Lib.hid (Below.alloc (Below.refl w.heap.size w) (Nat.le_refl _) (.cells #[.int .i64 kd, .int .i64 o, .int .i64 d, .int .i64 a, .int .i64 b, .int .i32 i, .int .i64 l] 41))
  have hCAN := Lib.hid (fun W => ican_any o d a b i W i0 i1)
  have t1 : (kd == 1) = true := by rw [hk]; rfl
  clear hk
  go_enter Tryd.func39, Tryd.ntmps39
  go_upto_region 1 with fail
  obtain ⟨W1, hW1⟩ : ∃ W, W = w.alloc (.cells #[.int .i64 kd, .int .i64 o, .int .i64 d, .int .i64 a, .int .i64 b, .int .i32 i, .int .i64 l] 41) := ⟨_, rfl⟩
  have hE : w.alloc (.cells [Value.int .i64 kd, .int .i64 o, .int .i64 d, .int .i64 a, .int .i64 b, .int .i32 i, .int .i64 l].toArray 41) = W1 := by rw [hW1]
  rw [hE] at RA
  rw [← hW1] at BA ⊢
  clear hE hW1
  have c0 := RA.out.cell 0 _ rfl
  have c1 := RA.out.cell 1 _ rfl
  have c2 := RA.out.cell 2 _ rfl
  have c3 := RA.out.cell 3 _ rfl
  have c4 := RA.out.cell 4 _ rfl
  have c5 := RA.out.cell 5 _ rfl
  have cl := RA.out.lt
  go_wp2_with (go_at_call 34; refine (hCAN.out _).mono ?_; unfold ICanP; rintro e w5 ⟨rfl, hb5⟩; have HB5 := Lib.hid hb5; clear hb5)
  go_ret
  exact can_mk (below_call BA.out HB5.out) HR.out
set_option maxHeartbeats 4000000 in
theorem can_2 (kd o d a b i l : Int) (w : World) (i0 : -2147483648 ≤ i) (i1 : i ≤ 2147483647) (hk : kd = 2) (R : Bool) (hR : insB o d a b i 0 0 0 0 0 = R) :
    Calls Tryd.prog 39 #[.agg #[.int .i64 kd, .int .i64 o, .int .i64 d, .int .i64 a, .int .i64 b, .int .i32 i, .int .i64 l]] w fun e w' => e = .returned (.bool R) ∧ Below w.heap.size w w' := by
  have HR := Lib.hid hR
  clear hR
  have RA := Lib.hid (RowAt.new w [.int .i64 kd, .int .i64 o, .int .i64 d, .int .i64 a, .int .i64 b, .int .i32 i, .int .i64 l] 41)
  have BA := Lib.hid (Below.alloc (Below.refl w.heap.size w) (Nat.le_refl _) (.cells #[.int .i64 kd, .int .i64 o, .int .i64 d, .int .i64 a, .int .i64 b, .int .i32 i, .int .i64 l] 41))
  have hCAN := Lib.hid (fun W => ican_any o d a b i W i0 i1)
  have t1 : (kd == 1) = false := by rw [hk]; rfl
  have t2 : (kd == 2) = true := by rw [hk]; rfl
  have hEQ := ins_eq o d a b i 0 0 0 0 0
  clear hk
  go_enter Tryd.func39, Tryd.ntmps39
  go_upto_region 1 with fail
  obtain ⟨W1, hW1⟩ : ∃ W, W = w.alloc (.cells #[.int .i64 kd, .int .i64 o, .int .i64 d, .int .i64 a, .int .i64 b, .int .i32 i, .int .i64 l] 41) := ⟨_, rfl⟩
  have hE : w.alloc (.cells [Value.int .i64 kd, .int .i64 o, .int .i64 d, .int .i64 a, .int .i64 b, .int .i32 i, .int .i64 l].toArray 41) = W1 := by rw [hW1]
  rw [hE] at RA
  rw [← hW1] at BA ⊢
  clear hE hW1
  have c0 := RA.out.cell 0 _ rfl
  have c1 := RA.out.cell 1 _ rfl
  have c2 := RA.out.cell 2 _ rfl
  have c3 := RA.out.cell 3 _ rfl
  have c4 := RA.out.cell 4 _ rfl
  have c5 := RA.out.cell 5 _ rfl
  have cl := RA.out.lt
  go_wp2_with fail
  go_ret
  exact can_mk BA.out HR.out
set_option maxHeartbeats 4000000 in
theorem can_0 (kd o d a b i l : Int) (w : World) (i0 : -2147483648 ≤ i) (i1 : i ≤ 2147483647) (hk : kd ≠ 1 ∧ kd ≠ 2 ∧ kd ≠ 3 ∧ kd ≠ 4 ∧ kd ≠ 5) (R : Bool) (hR : false = R) :
    Calls Tryd.prog 39 #[.agg #[.int .i64 kd, .int .i64 o, .int .i64 d, .int .i64 a, .int .i64 b, .int .i32 i, .int .i64 l]] w fun e w' => e = .returned (.bool R) ∧ Below w.heap.size w w' := by
  have HR := Lib.hid hR
  clear hR
  have RA := Lib.hid (RowAt.new w [.int .i64 kd, .int .i64 o, .int .i64 d, .int .i64 a, .int .i64 b, .int .i32 i, .int .i64 l] 41)
  have BA := Lib.hid (Below.alloc (Below.refl w.heap.size w) (Nat.le_refl _) (.cells #[.int .i64 kd, .int .i64 o, .int .i64 d, .int .i64 a, .int .i64 b, .int .i32 i, .int .i64 l] 41))
  have hCAN := Lib.hid (fun W => ican_any o d a b i W i0 i1)
  have t1 : (kd == 1) = false := by simp; omega
  have t2 : (kd == 2) = false := by simp; omega
  have t3 : (kd == 3) = false := by simp; omega
  have t4 : (kd == 4) = false := by simp; omega
  have t5 : (kd == 5) = false := by simp; omega
  clear hk
  go_enter Tryd.func39, Tryd.ntmps39
  go_upto_region 1 with fail
  obtain ⟨W1, hW1⟩ : ∃ W, W = w.alloc (.cells #[.int .i64 kd, .int .i64 o, .int .i64 d, .int .i64 a, .int .i64 b, .int .i32 i, .int .i64 l] 41) := ⟨_, rfl⟩
  have hE : w.alloc (.cells [Value.int .i64 kd, .int .i64 o, .int .i64 d, .int .i64 a, .int .i64 b, .int .i32 i, .int .i64 l].toArray 41) = W1 := by rw [hW1]
  rw [hE] at RA
  rw [← hW1] at BA ⊢
  clear hE hW1
  have c0 := RA.out.cell 0 _ rfl
  have c1 := RA.out.cell 1 _ rfl
  have c2 := RA.out.cell 2 _ rfl
  have c3 := RA.out.cell 3 _ rfl
  have c4 := RA.out.cell 4 _ rfl
  have c5 := RA.out.cell 5 _ rfl
  have cl := RA.out.lt
  go_wp2_with fail
  go_ret
  exact can_mk BA.out HR.out
set_option maxHeartbeats 4000000 in
theorem can_3y (kd o d a b i l : Int) (w : World) (i0 : -2147483648 ≤ i) (i1 : i ≤ 2147483647) (hk : kd = 3) (h1 : 36 ≤ o) (h2 : o ≤ 41) (h3 : i = 0) (R : Bool) (hR : canI ⟨o, d, a, b, i⟩ = R) :
    Calls Tryd.prog 39 #[.agg #[.int .i64 kd, .int .i64 o, .int .i64 d, .int .i64 a, .int .i64 b, .int .i32 i, .int .i64 l]] w fun e w' => e = .returned (.bool R) ∧ Below w.heap.size w w' := by
  have HR := Lib.hid hR
  clear hR
  have RA := Lib.hid (RowAt.new w [.int .i64 kd, .int .i64 o, .int .i64 d, .int .i64 a, .int .i64 b, .int .i32 i, .int .i64 l] 41)
  have BA := Lib.hid (Below.alloc (Below.refl w.heap.size w) (Nat.le_refl _) (.cells #[.int .i64 kd, .int .i64 o, .int .i64 d, .int .i64 a, .int .i64 b, .int .i32 i, .int .i64 l] 41))
  have hCAN := Lib.hid (fun W => ican_any o d a b i W i0 i1)
  have t1 : (kd == 1) = false := by rw [hk]; rfl
  have t2 : (kd == 2) = false := by rw [hk]; rfl
  have t3 : (kd == 3) = true := by rw [hk]; rfl
  have u1 : decide (36 ≤ o) = true := by simp [h1]
  have u2 : decide (o ≤ 41) = true := by simp [h2]
  have u3 : (i == 0) = true := by simp [h3]
  clear hk h1 h2 h3
  go_enter Tryd.func39, Tryd.ntmps39
  go_upto_region 1 with fail
  obtain ⟨W1, hW1⟩ : ∃ W, W = w.alloc (.cells #[.int .i64 kd, .int .i64 o, .int .i64 d, .int .i64 a, .int .i64 b, .int .i32 i, .int .i64 l] 41) := ⟨_, rfl⟩
  have hE : w.alloc (.cells [Value.int .i64 kd, .int .i64 o, .int .i64 d, .int .i64 a, .int .i64 b, .int .i32 i, .int .i64 l].toArray 41) = W1 := by rw [hW1]
  rw [hE] at RA
  rw [← hW1] at BA ⊢
  clear hE hW1
  have c0 := RA.out.cell 0 _ rfl
  have c1 := RA.out.cell 1 _ rfl
  have c2 := RA.out.cell 2 _ rfl
  have c3 := RA.out.cell 3 _ rfl
  have c4 := RA.out.cell 4 _ rfl
  have c5 := RA.out.cell 5 _ rfl
  have cl := RA.out.lt
  go_wp2_with (go_at_call 34; refine (hCAN.out _).mono ?_; unfold ICanP; rintro e w5 ⟨rfl, hb5⟩; have HB5 := Lib.hid hb5; clear hb5)
  go_ret
  exact can_mk (below_call BA.out HB5.out) HR.out
set_option maxHeartbeats 4000000 in
theorem can_3a (kd o d a b i l : Int) (w : World) (i0 : -2147483648 ≤ i) (i1 : i ≤ 2147483647) (hk : kd = 3) (h1 : ¬ 36 ≤ o) (R : Bool) (hR : false = R) :
    Calls Tryd.prog 39 #[.agg #[.int .i64 kd, .int .i64 o, .int .i64 d, .int .i64 a, .int .i64 b, .int .i32 i, .int .i64 l]] w fun e w' => e = .returned (.bool R) ∧ Below w.heap.size w w' := by
  have HR := Lib.hid hR
  clear hR
  have RA := Lib.hid (RowAt.new w [.int .i64 kd, .int .i64 o, .int .i64 d, .int .i64 a, .int .i64 b, .int .i32 i, .int .i64 l] 41)
  have BA := Lib.hid (Below.alloc (Below.refl w.heap.size w) (Nat.le_refl _) (.cells #[.int .i64 kd, .int .i64 o, .int .i64 d, .int .i64 a, .int .i64 b, .int .i32 i, .int .i64 l] 41))
  have hCAN := Lib.hid (fun W => ican_any o d a b i W i0 i1)
  have t1 : (kd == 1) = false := by rw [hk]; rfl
  have t2 : (kd == 2) = false := by rw [hk]; rfl
  have t3 : (kd == 3) = true := by rw [hk]; rfl
  have u1 : decide (36 ≤ o) = false := by simp; omega
  clear hk h1
  go_enter Tryd.func39, Tryd.ntmps39
  go_upto_region 1 with fail
  obtain ⟨W1, hW1⟩ : ∃ W, W = w.alloc (.cells #[.int .i64 kd, .int .i64 o, .int .i64 d, .int .i64 a, .int .i64 b, .int .i32 i, .int .i64 l] 41) := ⟨_, rfl⟩
  have hE : w.alloc (.cells [Value.int .i64 kd, .int .i64 o, .int .i64 d, .int .i64 a, .int .i64 b, .int .i32 i, .int .i64 l].toArray 41) = W1 := by rw [hW1]
  rw [hE] at RA
  rw [← hW1] at BA ⊢
  clear hE hW1
  have c0 := RA.out.cell 0 _ rfl
  have c1 := RA.out.cell 1 _ rfl
  have c2 := RA.out.cell 2 _ rfl
  have c3 := RA.out.cell 3 _ rfl
  have c4 := RA.out.cell 4 _ rfl
  have c5 := RA.out.cell 5 _ rfl
  have cl := RA.out.lt
  go_wp2_with fail
  go_ret
  exact can_mk BA.out HR.out
set_option maxHeartbeats 4000000 in
theorem can_3b (kd o d a b i l : Int) (w : World) (i0 : -2147483648 ≤ i) (i1 : i ≤ 2147483647) (hk : kd = 3) (h1 : 36 ≤ o) (h2 : ¬ o ≤ 41) (R : Bool) (hR : false = R) :
    Calls Tryd.prog 39 #[.agg #[.int .i64 kd, .int .i64 o, .int .i64 d, .int .i64 a, .int .i64 b, .int .i32 i, .int .i64 l]] w fun e w' => e = .returned (.bool R) ∧ Below w.heap.size w w' := by
  have HR := Lib.hid hR
  clear hR
  have RA := Lib.hid (RowAt.new w [.int .i64 kd, .int .i64 o, .int .i64 d, .int .i64 a, .int .i64 b, .int .i32 i, .int .i64 l] 41)
  have BA := Lib.hid (Below.alloc (Below.refl w.heap.size w) (Nat.le_refl _) (.cells #[.int .i64 kd, .int .i64 o, .int .i64 d, .int .i64 a, .int .i64 b, .int .i32 i, .int .i64 l] 41))
  have hCAN := Lib.hid (fun W => ican_any o d a b i W i0 i1)
  have t1 : (kd == 1) = false := by rw [hk]; rfl
  have t2 : (kd == 2) = false := by rw [hk]; rfl
  have t3 : (kd == 3) = true := by rw [hk]; rfl
  have u1 : decide (36 ≤ o) = true := by simp [h1]
  have u2 : decide (o ≤ 41) = false := by simp; omega
  clear hk h1 h2
  go_enter Tryd.func39, Tryd.ntmps39
  go_upto_region 1 with fail
  obtain ⟨W1, hW1⟩ : ∃ W, W = w.alloc (.cells #[.int .i64 kd, .int .i64 o, .int .i64 d, .int .i64 a, .int .i64 b, .int .i32 i, .int .i64 l] 41) := ⟨_, rfl⟩
  have hE : w.alloc (.cells [Value.int .i64 kd, .int .i64 o, .int .i64 d, .int .i64 a, .int .i64 b, .int .i32 i, .int .i64 l].toArray 41) = W1 := by rw [hW1]
  rw [hE] at RA
  rw [← hW1] at BA ⊢
  clear hE hW1
  have c0 := RA.out.cell 0 _ rfl
  have c1 := RA.out.cell 1 _ rfl
  have c2 := RA.out.cell 2 _ rfl
  have c3 := RA.out.cell 3 _ rfl
  have c4 := RA.out.cell 4 _ rfl
  have c5 := RA.out.cell 5 _ rfl
  have cl := RA.out.lt
  go_wp2_with fail
  go_ret
  exact can_mk BA.out HR.out
set_option maxHeartbeats 4000000 in
theorem can_3c (kd o d a b i l : Int) (w : World) (i0 : -2147483648 ≤ i) (i1 : i ≤ 2147483647) (hk : kd = 3) (h1 : 36 ≤ o) (h2 : o ≤ 41) (h3 : ¬ i = 0) (R : Bool) (hR : false = R) :
    Calls Tryd.prog 39 #[.agg #[.int .i64 kd, .int .i64 o, .int .i64 d, .int .i64 a, .int .i64 b, .int .i32 i, .int .i64 l]] w fun e w' => e = .returned (.bool R) ∧ Below w.heap.size w w' := by
  have HR := Lib.hid hR
  clear hR
  have RA := Lib.hid (RowAt.new w [.int .i64 kd, .int .i64 o, .int .i64 d, .int .i64 a, .int .i64 b, .int .i32 i, .int .i64 l] 41)
  have BA := Lib.hid (Below.alloc (Below.refl w.heap.size w) (Nat.le_refl _) (.cells #[.int .i64 kd, .int .i64 o, .int .i64 d, .int .i64 a, .int .i64 b, .int .i32 i, .int .i64 l] 41))
  have hCAN := Lib.hid (fun W => ican_any o d a b i W i0 i1)
  have t1 : (kd == 1) = false := by rw [hk]; rfl
  have t2 : (kd == 2) = false := by rw [hk]; rfl
  have t3 : (kd == 3) = true := by rw [hk]; rfl
  have u1 : decide (36 ≤ o) = true := by simp [h1]
  have u2 : decide (o ≤ 41) = true := by simp [h2]
  have u3 : (i == 0) = false := by simp [h3]
  clear hk h1 h2 h3
  go_enter Tryd.func39, Tryd.ntmps39
  go_upto_region 1 with fail
  obtain ⟨W1, hW1⟩ : ∃ W, W = w.alloc (.cells #[.int .i64 kd, .int .i64 o, .int .i64 d, .int .i64 a, .int .i64 b, .int .i32 i, .int .i64 l] 41) := ⟨_, rfl⟩
  have hE : w.alloc (.cells [Value.int .i64 kd, .int .i64 o, .int .i64 d, .int .i64 a, .int .i64 b, .int .i32 i, .int .i64 l].toArray 41) = W1 := by rw [hW1]
  rw [hE] at RA
  rw [← hW1] at BA ⊢
  clear hE hW1
  have c0 := RA.out.cell 0 _ rfl
  have c1 := RA.out.cell 1 _ rfl
  have c2 := RA.out.cell 2 _ rfl
  have c3 := RA.out.cell 3 _ rfl
  have c4 := RA.out.cell 4 _ rfl
  have c5 := RA.out.cell 5 _ rfl
  have cl := RA.out.lt
  go_wp2_with fail
  go_ret
  exact can_mk BA.out HR.out
set_option maxHeartbeats 4000000 in
theorem can_4y (kd o d a b i l : Int) (w : World) (i0 : -2147483648 ≤ i) (i1 : i ≤ 2147483647) (hk : kd = 4) (h1 : o = 44) (h3 : i = 0) (R : Bool) (hR : canI ⟨o, d, a, b, i⟩ = R) :
    Calls Tryd.prog 39 #[.agg #[.int .i64 kd, .int .i64 o, .int .i64 d, .int .i64 a, .int .i64 b, .int .i32 i, .int .i64 l]] w fun e w' => e = .returned (.bool R) ∧ Below w.heap.size w w' := by
  have HR := Lib.hid hR
  clear hR
  have RA := Lib.hid (RowAt.new w [.int .i64 kd, .int .i64 o, .int .i64 d, .int .i64 a, .int .i64 b, .int .i32 i, .int .i64 l] 41)
  have BA := Lib.hid (Below.alloc (Below.refl w.heap.size w) (Nat.le_refl _) (.cells #[.int .i64 kd, .int .i64 o, .int .i64 d, .int .i64 a, .int .i64 b, .int .i32 i, .int .i64 l] 41))
  have hCAN := Lib.hid (fun W => ican_any o d a b i W i0 i1)
  have t1 : (kd == 1) = false := by rw [hk]; rfl
  have t2 : (kd == 2) = false := by rw [hk]; rfl
  have t3 : (kd == 3) = false := by rw [hk]; rfl
  have t4 : (kd == 4) = true := by rw [hk]; rfl
  have u1 : (o == 44) = true := by simp [h1]
  have u3 : (i == 0) = true := by simp [h3]
  clear hk h1 h3
  go_enter Tryd.func39, Tryd.ntmps39
  go_upto_region 1 with fail
  obtain ⟨W1, hW1⟩ : ∃ W, W = w.alloc (.cells #[.int .i64 kd, .int .i64 o, .int .i64 d, .int .i64 a, .int .i64 b, .int .i32 i, .int .i64 l] 41) := ⟨_, rfl⟩
  have hE : w.alloc (.cells [Value.int .i64 kd, .int .i64 o, .int .i64 d, .int .i64 a, .int .i64 b, .int .i32 i, .int .i64 l].toArray 41) = W1 := by rw [hW1]
  rw [hE] at RA
  rw [← hW1] at BA ⊢
  clear hE hW1
  have c0 := RA.out.cell 0 _ rfl
  have c1 := RA.out.cell 1 _ rfl
  have c2 := RA.out.cell 2 _ rfl
  have c3 := RA.out.cell 3 _ rfl
  have c4 := RA.out.cell 4 _ rfl
  have c5 := RA.out.cell 5 _ rfl
  have cl := RA.out.lt
  go_wp2_with (go_at_call 34; refine (hCAN.out _).mono ?_; unfold ICanP; rintro e w5 ⟨rfl, hb5⟩; have HB5 := Lib.hid hb5; clear hb5)
  go_ret
  exact can_mk (below_call BA.out HB5.out) HR.out
set_option maxHeartbeats 4000000 in
theorem can_4a (kd o d a b i l : Int) (w : World) (i0 : -2147483648 ≤ i) (i1 : i ≤ 2147483647) (hk : kd = 4) (h1 : ¬ o = 44) (R : Bool) (hR : false = R) :
    Calls Tryd.prog 39 #[.agg #[.int .i64 kd, .int .i64 o, .int .i64 d, .int .i64 a, .int .i64 b, .int .i32 i, .int .i64 l]] w fun e w' => e = .returned (.bool R) ∧ Below w.heap.size w w' := by
  have HR := Lib.hid hR
  clear hR
  have RA := Lib.hid (RowAt.new w [.int .i64 kd, .int .i64 o, .int .i64 d, .int .i64 a, .int .i64 b, .int .i32 i, .int .i64 l] 41)
  have BA := Lib.hid (Below.alloc (Below.refl w.heap.size w) (Nat.le_refl _) (.cells #[.int .i64 kd, .int .i64 o, .int .i64 d, .int .i64 a, .int .i64 b, .int .i32 i, .int .i64 l] 41))
  have hCAN := Lib.hid (fun W => ican_any o d a b i W i0 i1)
  have t1 : (kd == 1) = false := by rw [hk]; rfl
  have t2 : (kd == 2) = false := by rw [hk]; rfl
  have t3 : (kd == 3) = false := by rw [hk]; rfl
  have t4 : (kd == 4) = true := by rw [hk]; rfl
  have u1 : (o == 44) = false := by simp [h1]
  clear hk h1
  go_enter Tryd.func39, Tryd.ntmps39
  go_upto_region 1 with fail
  obtain ⟨W1, hW1⟩ : ∃ W, W = w.alloc (.cells #[.int .i64 kd, .int .i64 o, .int .i64 d, .int .i64 a, .int .i64 b, .int .i32 i, .int .i64 l] 41) := ⟨_, rfl⟩
  have hE : w.alloc (.cells [Value.int .i64 kd, .int .i64 o, .int .i64 d, .int .i64 a, .int .i64 b, .int .i32 i, .int .i64 l].toArray 41) = W1 := by rw [hW1]
  rw [hE] at RA
  rw [← hW1] at BA ⊢
  clear hE hW1
  have c0 := RA.out.cell 0 _ rfl
  have c1 := RA.out.cell 1 _ rfl
  have c2 := RA.out.cell 2 _ rfl
  have c3 := RA.out.cell 3 _ rfl
  have c4 := RA.out.cell 4 _ rfl
  have c5 := RA.out.cell 5 _ rfl
  have cl := RA.out.lt
  go_wp2_with fail
  go_ret
  exact can_mk BA.out HR.out
set_option maxHeartbeats 4000000 in
theorem can_4b (kd o d a b i l : Int) (w : World) (i0 : -2147483648 ≤ i) (i1 : i ≤ 2147483647) (hk : kd = 4) (h1 : o = 44) (h3 : ¬ i = 0) (R : Bool) (hR : false = R) :
    Calls Tryd.prog 39 #[.agg #[.int .i64 kd, .int .i64 o, .int .i64 d, .int .i64 a, .int .i64 b, .int .i32 i, .int .i64 l]] w fun e w' => e = .returned (.bool R) ∧ Below w.heap.size w w' := by
  have HR := Lib.hid hR
  clear hR
  have RA := Lib.hid (RowAt.new w [.int .i64 kd, .int .i64 o, .int .i64 d, .int .i64 a, .int .i64 b, .int .i32 i, .int .i64 l] 41)
  have BA := Lib.hid (Below.alloc (Below.refl w.heap.size w) (Nat.le_refl _) (.cells #[.int .i64 kd, .int .i64 o, .int .i64 d, .int .i64 a, .int .i64 b, .int .i32 i, .int .i64 l] 41))
  have hCAN := Lib.hid (fun W => ican_any o d a b i W i0 i1)
  have t1 : (kd == 1) = false := by rw [hk]; rfl
  have t2 : (kd == 2) = false := by rw [hk]; rfl
  have t3 : (kd == 3) = false := by rw [hk]; rfl
  have t4 : (kd == 4) = true := by rw [hk]; rfl
  have u1 : (o == 44) = true := by simp [h1]
  have u3 : (i == 0) = false := by simp [h3]
  clear hk h1 h3
  go_enter Tryd.func39, Tryd.ntmps39
  go_upto_region 1 with fail
  obtain ⟨W1, hW1⟩ : ∃ W, W = w.alloc (.cells #[.int .i64 kd, .int .i64 o, .int .i64 d, .int .i64 a, .int .i64 b, .int .i32 i, .int .i64 l] 41) := ⟨_, rfl⟩
  have hE : w.alloc (.cells [Value.int .i64 kd, .int .i64 o, .int .i64 d, .int .i64 a, .int .i64 b, .int .i32 i, .int .i64 l].toArray 41) = W1 := by rw [hW1]
  rw [hE] at RA
  rw [← hW1] at BA ⊢
  clear hE hW1
  have c0 := RA.out.cell 0 _ rfl
  have c1 := RA.out.cell 1 _ rfl
  have c2 := RA.out.cell 2 _ rfl
  have c3 := RA.out.cell 3 _ rfl
  have c4 := RA.out.cell 4 _ rfl
  have c5 := RA.out.cell 5 _ rfl
  have cl := RA.out.lt
  go_wp2_with fail
  go_ret
  exact can_mk BA.out HR.out
set_option maxHeartbeats 4000000 in
theorem can_5y (kd o d a b i l : Int) (w : World) (i0 : -2147483648 ≤ i) (i1 : i ≤ 2147483647) (hk : kd = 5) (h1 : 1 ≤ d) (h2 : d ≤ 31) (R : Bool) (hR : insB o d a b i 0 d 0 0 i = R) :
    Calls Tryd.prog 39 #[.agg #[.int .i64 kd, .int .i64 o, .int .i64 d, .int .i64 a, .int .i64 b, .int .i32 i, .int .i64 l]] w fun e w' => e = .returned (.bool R) ∧ Below w.heap.size w w' := by
  have HR := Lib.hid hR
  clear hR
  have RA := Lib.hid (RowAt.new w [.int .i64 kd, .int .i64 o, .int .i64 d, .int .i64 a, .int .i64 b, .int .i32 i, .int .i64 l] 41)
  have BA := Lib.hid (Below.alloc (Below.refl w.heap.size w) (Nat.le_refl _) (.cells #[.int .i64 kd, .int .i64 o, .int .i64 d, .int .i64 a, .int .i64 b, .int .i32 i, .int .i64 l] 41))
  have hCAN := Lib.hid (fun W => ican_any o d a b i W i0 i1)
  have t1 : (kd == 1) = false := by rw [hk]; rfl
  have t2 : (kd == 2) = false := by rw [hk]; rfl
  have t3 : (kd == 3) = false := by rw [hk]; rfl
  have t4 : (kd == 4) = false := by rw [hk]; rfl
  have t5 : (kd == 5) = true := by rw [hk]; rfl
  have u1 : decide (1 ≤ d) = true := by simp [h1]
  have u2 : decide (d ≤ 31) = true := by simp [h2]
  have hEQ := ins_eq o d a b i 0 d 0 0 i
  clear hk h1 h2
  go_enter Tryd.func39, Tryd.ntmps39
  go_upto_region 1 with fail
  obtain ⟨W1, hW1⟩ : ∃ W, W = w.alloc (.cells #[.int .i64 kd, .int .i64 o, .int .i64 d, .int .i64 a, .int .i64 b, .int .i32 i, .int .i64 l] 41) := ⟨_, rfl⟩
  have hE : w.alloc (.cells [Value.int .i64 kd, .int .i64 o, .int .i64 d, .int .i64 a, .int .i64 b, .int .i32 i, .int .i64 l].toArray 41) = W1 := by rw [hW1]
  rw [hE] at RA
  rw [← hW1] at BA ⊢
  clear hE hW1
  have c0 := RA.out.cell 0 _ rfl
  have c1 := RA.out.cell 1 _ rfl
  have c2 := RA.out.cell 2 _ rfl
  have c3 := RA.out.cell 3 _ rfl
  have c4 := RA.out.cell 4 _ rfl
  have c5 := RA.out.cell 5 _ rfl
  have cl := RA.out.lt
  go_wp2_with fail
  go_ret
  exact can_mk BA.out HR.out
set_option maxHeartbeats 4000000 in
theorem can_5a (kd o d a b i l : Int) (w : World) (i0 : -2147483648 ≤ i) (i1 : i ≤ 2147483647) (hk : kd = 5) (h1 : ¬ 1 ≤ d) (R : Bool) (hR : false = R) :
    Calls Tryd.prog 39 #[.agg #[.int .i64 kd, .int .i64 o, .int .i64 d, .int .i64 a, .int .i64 b, .int .i32 i, .int .i64 l]] w fun e w' => e = .returned (.bool R) ∧ Below w.heap.size w w' := by
  have HR := Lib.hid hR
  clear hR
  have RA := Lib.hid (RowAt.new w [.int .i64 kd, .int .i64 o, .int .i64 d, .int .i64 a, .int .i64 b, .int .i32 i, .int .i64 l] 41)
  have BA := Lib.hid (Below.alloc (Below.refl w.heap.size w) (Nat.le_refl _) (.cells #[.int .i64 kd, .int .i64 o, .int .i64 d, .int .i64 a, .int .i64 b, .int .i32 i, .int .i64 l] 41))
  have hCAN := Lib.hid (fun W => ican_any o d a b i W i0 i1)
  have t1 : (kd == 1) = false := by rw [hk]; rfl
  have t2 : (kd == 2) = false := by rw [hk]; rfl
  have t3 : (kd == 3) = false := by rw [hk]; rfl
  have t4 : (kd == 4) = false := by rw [hk]; rfl
  have t5 : (kd == 5) = true := by rw [hk]; rfl
  have u1 : decide (1 ≤ d) = false := by simp; omega
  clear hk h1
  go_enter Tryd.func39, Tryd.ntmps39
  go_upto_region 1 with fail
  obtain ⟨W1, hW1⟩ : ∃ W, W = w.alloc (.cells #[.int .i64 kd, .int .i64 o, .int .i64 d, .int .i64 a, .int .i64 b, .int .i32 i, .int .i64 l] 41) := ⟨_, rfl⟩
  have hE : w.alloc (.cells [Value.int .i64 kd, .int .i64 o, .int .i64 d, .int .i64 a, .int .i64 b, .int .i32 i, .int .i64 l].toArray 41) = W1 := by rw [hW1]
  rw [hE] at RA
  rw [← hW1] at BA ⊢
  clear hE hW1
  have c0 := RA.out.cell 0 _ rfl
  have c1 := RA.out.cell 1 _ rfl
  have c2 := RA.out.cell 2 _ rfl
  have c3 := RA.out.cell 3 _ rfl
  have c4 := RA.out.cell 4 _ rfl
  have c5 := RA.out.cell 5 _ rfl
  have cl := RA.out.lt
  go_wp2_with fail
  go_ret
  exact can_mk BA.out HR.out
set_option maxHeartbeats 4000000 in
theorem can_5b (kd o d a b i l : Int) (w : World) (i0 : -2147483648 ≤ i) (i1 : i ≤ 2147483647) (hk : kd = 5) (h1 : 1 ≤ d) (h2 : ¬ d ≤ 31) (R : Bool) (hR : false = R) :
    Calls Tryd.prog 39 #[.agg #[.int .i64 kd, .int .i64 o, .int .i64 d, .int .i64 a, .int .i64 b, .int .i32 i, .int .i64 l]] w fun e w' => e = .returned (.bool R) ∧ Below w.heap.size w w' := by
  have HR := Lib.hid hR
  clear hR
  have RA := Lib.hid (RowAt.new w [.int .i64 kd, .int .i64 o, .int .i64 d, .int .i64 a, .int .i64 b, .int .i32 i, .int .i64 l] 41)
  have BA := Lib.hid (Below.alloc (Below.refl w.heap.size w) (Nat.le_refl _) (.cells #[.int .i64 kd, .int .i64 o, .int .i64 d, .int .i64 a, .int .i64 b, .int .i32 i, .int .i64 l] 41))
  have hCAN := Lib.hid (fun W => ican_any o d a b i W i0 i1)
  have t1 : (kd == 1) = false := by rw [hk]; rfl
  have t2 : (kd == 2) = false := by rw [hk]; rfl
  have t3 : (kd == 3) = false := by rw [hk]; rfl
  have t4 : (kd == 4) = false := by rw [hk]; rfl
  have t5 : (kd == 5) = true := by rw [hk]; rfl
  have u1 : decide (1 ≤ d) = true := by simp [h1]
  have u2 : decide (d ≤ 31) = false := by simp; omega
  clear hk h1 h2
  go_enter Tryd.func39, Tryd.ntmps39
  go_upto_region 1 with fail
  obtain ⟨W1, hW1⟩ : ∃ W, W = w.alloc (.cells #[.int .i64 kd, .int .i64 o, .int .i64 d, .int .i64 a, .int .i64 b, .int .i32 i, .int .i64 l] 41) := ⟨_, rfl⟩
  have hE : w.alloc (.cells [Value.int .i64 kd, .int .i64 o, .int .i64 d, .int .i64 a, .int .i64 b, .int .i32 i, .int .i64 l].toArray 41) = W1 := by rw [hW1]
  rw [hE] at RA
  rw [← hW1] at BA ⊢
  clear hE hW1
  have c0 := RA.out.cell 0 _ rfl
  have c1 := RA.out.cell 1 _ rfl
  have c2 := RA.out.cell 2 _ rfl
  have c3 := RA.out.cell 3 _ rfl
  have c4 := RA.out.cell 4 _ rfl
  have c5 := RA.out.cell 5 _ rfl
  have cl := RA.out.lt
  go_wp2_with fail
  go_ret
  exact can_mk BA.out HR.out
theorem can_any (x : It) (hx : x.okay) (w : World) : Calls Tryd.prog 39 #[x.val] w fun e w' => e = .returned (.bool (canIt x)) ∧ Below w.heap.size w w' := by
  obtain ⟨kd, o, d, a, b, i, l⟩ := x
  obtain ⟨_, _, _, _, _, ⟨i0, i1⟩, _⟩ := hx
  unfold It.val
  dsimp only at i0 i1 ⊢
  by_cases k1 : kd = 1
  · exact can_1 kd o d a b i l w i0 i1 k1 _ (by subst k1; rfl)
  by_cases k2 : kd = 2
  · exact can_2 kd o d a b i l w i0 i1 k2 _ (by subst k2; rfl)
  by_cases k3 : kd = 3
  · by_cases h1 : 36 ≤ o
    · by_cases h2 : o ≤ 41
      · by_cases h3 : i = 0
        · exact can_3y kd o d a b i l w i0 i1 k3 h1 h2 h3 _ (by subst k3; simp [canIt, h1, h2, h3, It.q])
        · exact can_3c kd o d a b i l w i0 i1 k3 h1 h2 h3 _ (by subst k3; simp [canIt, h1, h2, h3])
      · exact can_3b kd o d a b i l w i0 i1 k3 h1 h2 _ (by subst k3; simp [canIt, h1, h2])
    · exact can_3a kd o d a b i l w i0 i1 k3 h1 _ (by subst k3; simp [canIt, h1])
  by_cases k4 : kd = 4
  · by_cases h1 : o = 44
    · by_cases h3 : i = 0
      · exact can_4y kd o d a b i l w i0 i1 k4 h1 h3 _ (by subst k4; simp [canIt, h1, h3, It.q])
      · exact can_4b kd o d a b i l w i0 i1 k4 h1 h3 _ (by subst k4; simp [canIt, h1, h3])
    · exact can_4a kd o d a b i l w i0 i1 k4 h1 _ (by subst k4; simp [canIt, h1])
  by_cases k5 : kd = 5
  · by_cases h1 : 1 ≤ d
    · by_cases h2 : d ≤ 31
      · exact can_5y kd o d a b i l w i0 i1 k5 h1 h2 _ (by subst k5; simp [canIt, h1, h2])
      · exact can_5b kd o d a b i l w i0 i1 k5 h1 h2 _ (by subst k5; simp [canIt, h1, h2])
    · exact can_5a kd o d a b i l w i0 i1 k5 h1 _ (by subst k5; simp [canIt, h1])
  exact can_0 kd o d a b i l w i0 i1 ⟨k1, k2, k3, k4, k5⟩ _ (by simp [canIt, k1, k2, k3, k4, k5])
end Go.Proofs.YtipecnofjdhobaaDoor
