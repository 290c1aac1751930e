/- Two nodes compared. -/
import Derived.Test.YtmifojpmomdmeaaNdOne
import Derived.Test.YtmifojpmomdmeaaTW
import Derived.Laws.StructEq
namespace Go.Proofs.Ytmifojpmomdmeaa
open Go Go.RowKit Go.ChangeShapes Go.WideShapes
set_option linter.unusedVariables false
section
variable {P : Program}
theorem eqB2 {t e : TypeId} {i : TypeInfo} (hu : P.underlying t = some (.array 2 e)) (he : P.underlying e = some (.int .i64)) (hi : P.info? e = some i) (hC : P.cellsOf e = 1) (d : Nat) (x0 x1 y0 y1 : Int) (w : World) :
    (Op.equalIn (d + 2) t (.agg #[.int .i64 x0, .int .i64 x1]) (.agg #[.int .i64 y0, .int .i64 y1])).run P w = .ok ((x0 == y0) && (x1 == y1)) w := by
  rw [run_equalIn_array w (d + 1) _ _ hu hi, hC, show List.range 2 = [0, 1] from rfl]
  have pe : ∀ u v : Int, (Op.equalIn (d + 1) e (.int .i64 u) (.int .i64 v)).run P w = .ok (u == v) w := fun u v => run_equalIn_int w d e .i64 .i64 u v he
  have p0 := fun (x0 x1 : Int) => part0 he #[.int .i64 x0, .int .i64 x1] (0 * 1) (.int .i64 x0) rfl w
  have p1 := fun (x0 x1 : Int) => part0 he #[.int .i64 x0, .int .i64 x1] (1 * 1) (.int .i64 x1) rfl w
  simp only [Op.eqItems, Sem.run_bind, p0, p1, pe, Result.andThen_ok, Sem.run_ite, Sem.run_pure]
  cases h0 : (x0 == y0) <;> cases h1 : (x1 == y1) <;> simp
theorem eqB3 {t e : TypeId} {i : TypeInfo} (hu : P.underlying t = some (.array 3 e)) (he : P.underlying e = some (.int .i64)) (hi : P.info? e = some i) (hC : P.cellsOf e = 1) (d : Nat) (x0 x1 x2 y0 y1 y2 : Int) (w : World) :
    (Op.equalIn (d + 2) t (.agg #[.int .i64 x0, .int .i64 x1, .int .i64 x2]) (.agg #[.int .i64 y0, .int .i64 y1, .int .i64 y2])).run P w = .ok ((x0 == y0) && ((x1 == y1) && (x2 == y2))) w := by
  rw [run_equalIn_array w (d + 1) _ _ hu hi, hC, show List.range 3 = [0, 1, 2] from rfl]
  have pe : ∀ u v : Int, (Op.equalIn (d + 1) e (.int .i64 u) (.int .i64 v)).run P w = .ok (u == v) w := fun u v => run_equalIn_int w d e .i64 .i64 u v he
  have p0 := fun (x0 x1 x2 : Int) => part0 he #[.int .i64 x0, .int .i64 x1, .int .i64 x2] (0 * 1) (.int .i64 x0) rfl w
  have p1 := fun (x0 x1 x2 : Int) => part0 he #[.int .i64 x0, .int .i64 x1, .int .i64 x2] (1 * 1) (.int .i64 x1) rfl w
  have p2 := fun (x0 x1 x2 : Int) => part0 he #[.int .i64 x0, .int .i64 x1, .int .i64 x2] (2 * 1) (.int .i64 x2) rfl w
  simp only [Op.eqItems, Sem.run_bind, p0, p1, p2, pe, Result.andThen_ok, Sem.run_ite, Sem.run_pure]
  cases h0 : (x0 == y0) <;> cases h1 : (x1 == y1) <;> cases h2 : (x2 == y2) <;> simp
theorem eqB4 {t e : TypeId} {i : TypeInfo} (hu : P.underlying t = some (.array 4 e)) (he : P.underlying e = some (.int .i64)) (hi : P.info? e = some i) (hC : P.cellsOf e = 1) (d : Nat) (x0 x1 x2 x3 y0 y1 y2 y3 : Int) (w : World) :
    (Op.equalIn (d + 2) t (.agg #[.int .i64 x0, .int .i64 x1, .int .i64 x2, .int .i64 x3]) (.agg #[.int .i64 y0, .int .i64 y1, .int .i64 y2, .int .i64 y3])).run P w = .ok ((x0 == y0) && ((x1 == y1) && ((x2 == y2) && (x3 == y3)))) w := by
  rw [run_equalIn_array w (d + 1) _ _ hu hi, hC, show List.range 4 = [0, 1, 2, 3] from rfl]
  have pe : ∀ u v : Int, (Op.equalIn (d + 1) e (.int .i64 u) (.int .i64 v)).run P w = .ok (u == v) w := fun u v => run_equalIn_int w d e .i64 .i64 u v he
  have p0 := fun (x0 x1 x2 x3 : Int) => part0 he #[.int .i64 x0, .int .i64 x1, .int .i64 x2, .int .i64 x3] (0 * 1) (.int .i64 x0) rfl w
  have p1 := fun (x0 x1 x2 x3 : Int) => part0 he #[.int .i64 x0, .int .i64 x1, .int .i64 x2, .int .i64 x3] (1 * 1) (.int .i64 x1) rfl w
  have p2 := fun (x0 x1 x2 x3 : Int) => part0 he #[.int .i64 x0, .int .i64 x1, .int .i64 x2, .int .i64 x3] (2 * 1) (.int .i64 x2) rfl w
  have p3 := fun (x0 x1 x2 x3 : Int) => part0 he #[.int .i64 x0, .int .i64 x1, .int .i64 x2, .int .i64 x3] (3 * 1) (.int .i64 x3) rfl w
  simp only [Op.eqItems, Sem.run_bind, p0, p1, p2, p3, pe, Result.andThen_ok, Sem.run_ite, Sem.run_pure]
  cases h0 : (x0 == y0) <;> cases h1 : (x1 == y1) <;> cases h2 : (x2 == y2) <;> cases h3 : (x3 == y3) <;> simp
theorem step_int {w : World} {d : Nat} {f : Field} {fs : List Field} {xs ys : Array Value} {x y : Int} {k : IntKind} {Q : Prop} (hn : f.name ≠ "_") (hu : P.underlying f.type = some (.int k)) (hx : xs[f.offset]? = some (.int k x)) (hy : ys[f.offset]? = some (.int k y))
    (rest : ∃ r, (Op.eqFields (d + 2) xs ys fs).run P w = .ok r w ∧ (r = true ↔ Q)) : ∃ r, (Op.eqFields (d + 2) xs ys (f :: fs)).run P w = .ok r w ∧ (r = true ↔ (x = y ∧ Q)) := by
  obtain ⟨r, hr, hq⟩ := rest
  have p1 : (part f.type xs f.offset).run P w = .ok (.int k x) w := by simp [part, isAgg, run_underlying hu, hx]
  have p2 : (part f.type ys f.offset).run P w = .ok (.int k y) w := by simp [part, isAgg, run_underlying hu, hy]
  have p3 := run_equalIn_int (P := P) w (d + 1) f.type k k x y hu
  simp only [Op.eqFields, hn, ne_eq, not_false_eq_true, if_true, Sem.run_bind, p1, p2, p3, Result.andThen_ok]
  by_cases e : x = y
  · subst e
    refine ⟨r, by simp [hr], by simp [hq]⟩
  · refine ⟨false, by simp [e], by simp [e]⟩
theorem step_arr {w : World} {d n : Nat} {e : TypeId} {f : Field} {fs : List Field} {xs ys a b : Array Value} {r0 : Bool} {R Q : Prop} (hn : f.name ≠ "_") (hu : P.underlying f.type = some (.array n e)) {c : Nat} (hs : (P.info? f.type).map (·.size) = some c)
    (hx : xs.extract f.offset (f.offset + c) = a) (hy : ys.extract f.offset (f.offset + c) = b) (he : (Op.equalIn (d + 2) f.type (.agg a) (.agg b)).run P w = .ok r0 w) (h0 : r0 = true ↔ R)
    (rest : ∃ r, (Op.eqFields (d + 2) xs ys fs).run P w = .ok r w ∧ (r = true ↔ Q)) : ∃ r, (Op.eqFields (d + 2) xs ys (f :: fs)).run P w = .ok r w ∧ (r = true ↔ (R ∧ Q)) := by
  obtain ⟨r, hr, hq⟩ := rest
  cases hi : P.info? f.type with
  | none => simp [hi] at hs
  | some i =>
    have hsz : i.size = c := by simpa [hi] using hs
    have p1 : (part f.type xs f.offset).run P w = .ok (.agg a) w := by simp [part, isAgg, run_underlying hu, sizeOf, typeInfo, hi, hsz, hx]
    have p2 : (part f.type ys f.offset).run P w = .ok (.agg b) w := by simp [part, isAgg, run_underlying hu, sizeOf, typeInfo, hi, hsz, hy]
    simp only [Op.eqFields, hn, ne_eq, not_false_eq_true, if_true, Sem.run_bind, p1, p2, he, Result.andThen_ok]
    cases r0
    · refine ⟨false, by simp, by simp; intro g; exact absurd (h0.2 g) (by simp)⟩
    · refine ⟨r, by simp [hr], by rw [hq]; simp [h0.1 rfl]⟩
end
theorem cellsI : Try.prog.cellsOf 3 = 1 := by kernel_rfl
theorem infoI : Try.prog.info? 3 = some (Try.prog.info? 3).get! := by kernel_rfl
set_option maxRecDepth 100000 in
set_option maxHeartbeats 4000000 in
theorem nd_eq (m n : Nd) (w : World) : ∃ r, (Op.equalIn 10000 47 (.agg m.cells.toArray) (.agg n.cells.toArray)).run Try.prog w = .ok r w ∧ (r = true ↔ m = n) := by
  have hu : Try.prog.underlying 47 = some (.struct (Try.prog.fieldsOf 47)) := by unfold Program.fieldsOf; rw [Try.underlying47]
  rw [run_equalIn_struct w 9999 47 _ _ hu (by kernel_rfl)]
  have hf : (Try.prog.fieldsOf 47).toList = (match Try.prog.underlying 47 with | some (.struct fs) => fs.toList | _ => []) := by unfold Program.fieldsOf; rw [Try.underlying47]
  rw [hf, Try.underlying47]
  dsimp only
  have e : (m = n) = (m.op = n.op ∧ (m.a = n.a ∧ (m.b = n.b ∧ (((m.k0 == n.k0) && (m.k1 == n.k1)) = true ∧ (((m.s0 == n.s0) && (m.s1 == n.s1)) = true ∧ (((m.p0 == n.p0) && ((m.p1 == n.p1) && ((m.p2 == n.p2) && (m.p3 == n.p3)))) = true ∧ (m.za = n.za ∧ (m.zb = n.zb ∧ (m.zo = n.zo ∧ (m.m1 = n.m1 ∧ (m.m2 = n.m2 ∧ (m.t1 = n.t1 ∧ (m.t2 = n.t2 ∧ (m.lo = n.lo ∧ (m.hi = n.hi ∧ (m.w = n.w ∧ (m.bias = n.bias ∧ (m.chans = n.chans ∧ (((m.h0 == n.h0) && ((m.h1 == n.h1) && (m.h2 == n.h2))) = true ∧ True))))))))))))))))))) := by cases m; cases n; simp [and_assoc]
  rw [e]
  clear e hu hf
  refine step_int (d := 9997) (k := .i64) (by decide) Try.underlying3 rfl rfl ?_
  refine step_int (d := 9997) (k := .i64) (by decide) Try.underlying3 rfl rfl ?_
  refine step_int (d := 9997) (k := .i64) (by decide) Try.underlying3 rfl rfl ?_
  refine step_arr (d := 9997) (c := 2) (by decide) Try.underlying44 (by kernel_rfl) (by rfl) (by rfl) (eqB2 Try.underlying44 Try.underlying3 infoI cellsI 9997 m.k0 m.k1 n.k0 n.k1 w) Iff.rfl ?_
  refine step_arr (d := 9997) (c := 2) (by decide) Try.underlying44 (by kernel_rfl) (by rfl) (by rfl) (eqB2 Try.underlying44 Try.underlying3 infoI cellsI 9997 m.s0 m.s1 n.s0 n.s1 w) Iff.rfl ?_
  refine step_arr (d := 9997) (c := 4) (by decide) Try.underlying45 (by kernel_rfl) (by rfl) (by rfl) (eqB4 Try.underlying45 Try.underlying3 infoI cellsI 9997 m.p0 m.p1 m.p2 m.p3 n.p0 n.p1 n.p2 n.p3 w) Iff.rfl ?_
  refine step_int (d := 9997) (k := .i64) (by decide) Try.underlying3 rfl rfl ?_
  refine step_int (d := 9997) (k := .i64) (by decide) Try.underlying3 rfl rfl ?_
  refine step_int (d := 9997) (k := .i64) (by decide) Try.underlying3 rfl rfl ?_
  refine step_int (d := 9997) (k := .i32) (by decide) Try.underlying21 rfl rfl ?_
  refine step_int (d := 9997) (k := .i32) (by decide) Try.underlying21 rfl rfl ?_
  refine step_int (d := 9997) (k := .i64) (by decide) Try.underlying3 rfl rfl ?_
  refine step_int (d := 9997) (k := .i64) (by decide) Try.underlying3 rfl rfl ?_
  refine step_int (d := 9997) (k := .i64) (by decide) Try.underlying3 rfl rfl ?_
  refine step_int (d := 9997) (k := .i64) (by decide) Try.underlying3 rfl rfl ?_
  refine step_int (d := 9997) (k := .i64) (by decide) Try.underlying3 rfl rfl ?_
  refine step_int (d := 9997) (k := .i64) (by decide) Try.underlying3 rfl rfl ?_
  refine step_int (d := 9997) (k := .i64) (by decide) Try.underlying3 rfl rfl ?_
  refine step_arr (d := 9997) (c := 3) (by decide) Try.underlying22 (by kernel_rfl) (by rfl) (by rfl) (eqB3 Try.underlying22 Try.underlying3 infoI cellsI 9997 m.h0 m.h1 m.h2 n.h0 n.h1 n.h2 w) Iff.rfl ?_
  exact ⟨true, by simp [Op.eqFields], by simp⟩
end Go.Proofs.Ytmifojpmomdmeaa
