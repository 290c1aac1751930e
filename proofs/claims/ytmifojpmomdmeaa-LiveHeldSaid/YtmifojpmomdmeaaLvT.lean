/- What live.Lives answers, as lives in a block; two lives compared. -/
import Derived.Test.YtmifojpmomdmeaaLvC
import Derived.Test.YtmifojpmomdmeaaPkB
import Derived.Test.YtmifojpmomdmeaaNdEq
namespace Go.Proofs.Ytmifojpmomdmeaa
open Go Go.RowKit Go.Maps
set_option linter.unusedVariables false
set_option linter.unusedSimpArgs false
set_option maxRecDepth 100000

def Lf.lg (x : Lf) : Lg := ⟨(x.v : Int), (x.b : Int), x.s, (x.i : Int), x.t⟩
def lgs (ls : List Lf) : List Lg := ls.map Lf.lg
theorem lgs_len (ls : List Lf) : (lgs ls).length = ls.length := by simp [lgs]
theorem lfV_len (ls : List Lf) : (lfV ls).length = ls.length * 5 := by
  induction ls with
  | nil => rfl
  | cons x r ih =>
    show (x.cells ++ lfV r).length = _
    rw [List.length_append, ih]
    simp [Lf.cells]
    omega
theorem lfV_at : ∀ (ls : List Lf) (k : Nat) (x : Lf), ls[k]? = some x → ∀ j u, x.cells[j]? = some u → (lfV ls)[k * 5 + j]? = some u
  | [], k, x, h, _, _, _ => by simp at h
  | y :: r, 0, x, h, j, u, hu => by
    obtain rfl : y = x := by simpa using h
    have hj : j < y.cells.length := (List.getElem?_eq_some_iff.1 hu).1
    show (y.cells ++ lfV r)[0 * 5 + j]? = _
    rw [Nat.zero_mul, Nat.zero_add, List.getElem?_append_left hj, hu]
  | y :: r, k + 1, x, h, j, u, hu => by
    show (y.cells ++ lfV r)[(k + 1) * 5 + j]? = _
    rw [List.getElem?_append_right (by simp [Lf.cells]; omega)]
    have := lfV_at r k x (by simpa using h) j u hu
    rw [show (k + 1) * 5 + j - y.cells.length = k * 5 + j by simp [Lf.cells]; omega]
    exact this
theorem own_lgs {w : World} {B : Nat} {v : Value} {ls : List Lf} (h : OwnF w B v ls) : ∃ a c, v = .slice a ls.length c ∧ c ≤ 9223372036854775807 ∧ LgAt w a (lgs ls) := by
  have h' := h
  obtain ⟨h1, ⟨rfl, h2⟩ | ⟨g, c, cur, rfl, hb, hg, hc, hm, hs, ht⟩⟩ := h
  · refine ⟨none, 0, by rw [h2], by omega, fun k x hx => ?_⟩
    rw [List.eq_nil_of_length_eq_zero h2] at hx
    simp [lgs] at hx
  · refine ⟨_, c, rfl, hm, fun k x hx => ?_⟩
    obtain ⟨y, hy, rfl⟩ : ∃ y, ls[k]? = some y ∧ y.lg = x := by simpa [lgs] using hx
    have hk := (List.getElem?_eq_some_iff.1 hy).1
    have ha : ∀ j u, y.cells[j]? = some u → w.cell? ⟨g, 0 + k * 5 + j, none⟩ = some u := fun j u hu => by
      have hj : j < y.cells.length := (List.getElem?_eq_some_iff.1 hu).1
      have hj5 : j < 5 := by simpa [Lf.cells] using hj
      rw [Nat.zero_add, h'.cellAt (k * 5 + j) (by omega)]
      exact lfV_at ls k y hy j u hu
    exact ⟨g, 0, rfl, (Array.getElem?_eq_some_iff.1 hg).1, ha 0 _ rfl, ha 1 _ rfl, ha 2 _ rfl, ha 3 _ rfl, ha 4 _ rfl⟩
theorem sizeG_in (s : Sh) : 0 ≤ sizeG s ∧ sizeG s ≤ 16384 := by
  unfold sizeG sizeS
  split
  · next h =>
    obtain ⟨h1, h2, h3, h4, h5, h6, h7⟩ := goodB_out h
    exact ⟨Int.mul_nonneg (Int.mul_nonneg (by omega) (by omega)) (by omega), h7⟩
  · omega
theorem lgs_ok {g : GrQ} {over : Bool} (he : (graphE g.gr).1 = 0) (hn : g.ns.length ≤ 1000) : ∀ x ∈ lgs (lvM g over).lives, x.okay := by
  intro x hx
  obtain ⟨y, hy, rfl⟩ := List.mem_map.1 hx
  obtain ⟨k, hk⟩ := List.getElem?_of_mem hy
  have hkl : k < (lvM g over).L.length := by have := (List.getElem?_eq_some_iff.1 hk).1; rwa [lives_len] at this
  rw [lives_at hkl] at hk
  injection hk with hk
  subst hk
  have hm : 1 ≤ (lvM g over).L.getD k 0 ∧ (lvM g over).L.getD k 0 ≤ g.ns.length := (ord_mem he).2 _ (getD_mem hkl)
  have hl : (lvM g over).L.length ≤ g.ns.length := (ord_mem he).1
  have hb : (lvM g over).buf k ((lvM g over).freeK k) ≤ 1000 := by
    cases ht : (lvM g over).takesO k ((lvM g over).freeK k) with
    | none => rw [buf_none ht]; omega
    | some r =>
      obtain ⟨_, _, _, ⟨b, hb⟩, _⟩ := takes_spec ht
      rw [buf_some ht hb]
      have := (ord_mem he).2 _ (freeK_mem k (Nat.le_of_lt hkl) _ _ hb).2
      omega
  have hs := sizeG_in ((graphE g.gr).2.getD ((lvM g over).L.getD k 0) default)
  have h1 := to_ge hkl
  have h2 := to_le hkl
  refine ⟨?_, ?_, ?_, ?_, ?_⟩
  · show In64 ((((lvM g over).L.getD k 0 : Nat)) : Int)
    unfold In64; omega
  · show In64 (((lvM g over).buf k ((lvM g over).freeK k) : Nat) : Int)
    unfold In64; omega
  · show In64 (sizeG ((graphE g.gr).2.getD ((lvM g over).L.getD k 0) default))
    unfold In64; omega
  · show In64 ((k : Nat) : Int)
    unfold In64; omega
  · show In64 ((lvM g over).to k)
    unfold In64; omega
theorem life_eq (a0 a1 a2 a3 a4 b0 b1 b2 b3 b4 : Int) (w : World) : (Op.equalIn 10000 38 (.agg #[.int .i64 a0, .int .i64 a1, .int .i64 a2, .int .i64 a3, .int .i64 a4]) (.agg #[.int .i64 b0, .int .i64 b1, .int .i64 b2, .int .i64 b3, .int .i64 b4])).run Try.prog w = .ok (decide (a0 = b0 ∧ a1 = b1 ∧ a2 = b2 ∧ a3 = b3 ∧ a4 = b4)) w := by
  have hu : Try.prog.underlying 38 = some (.struct (Try.prog.fieldsOf 38)) := by unfold Program.fieldsOf; rw [Try.underlying38]
  rw [run_equalIn_struct w 9999 38 _ _ hu (by kernel_rfl)]
  have hf : (Try.prog.fieldsOf 38).toList = (match Try.prog.underlying 38 with | some (.struct fs) => fs.toList | _ => []) := by unfold Program.fieldsOf; rw [Try.underlying38]
  rw [hf, Try.underlying38]
  dsimp only
  clear hu hf
  have key : ∃ r, (Op.eqFields 9999 #[.int .i64 a0, .int .i64 a1, .int .i64 a2, .int .i64 a3, .int .i64 a4] #[.int .i64 b0, .int .i64 b1, .int .i64 b2, .int .i64 b3, .int .i64 b4] (match Try.prog.underlying 38 with | some (.struct fs) => fs.toList | _ => [])).run Try.prog w = .ok r w ∧ (r = true ↔ (a0 = b0 ∧ (a1 = b1 ∧ (a2 = b2 ∧ (a3 = b3 ∧ (a4 = b4 ∧ True)))))) := by
    rw [Try.underlying38]
    dsimp only
    refine step_int (d := 9997) (k := .i64) (by decide) Try.underlying3 rfl rfl ?_
    refine step_int (d := 9997) (k := .i64) (by decide) Try.underlying3 rfl rfl ?_
    refine step_int (d := 9997) (k := .i64) (by decide) Try.underlying3 rfl rfl ?_
    refine step_int (d := 9997) (k := .i64) (by decide) Try.underlying3 rfl rfl ?_
    refine step_int (d := 9997) (k := .i64) (by decide) Try.underlying3 rfl rfl ?_
    exact ⟨true, by simp [Op.eqFields], by simp⟩
  obtain ⟨r, hr, hq⟩ := key
  rw [Try.underlying38] at hr
  dsimp only at hr
  rw [hr]
  congr 1
  rw [Bool.eq_iff_iff, hq]
  simp
end Go.Proofs.Ytmifojpmomdmeaa
