/- How arguments that are structs or arrays of integers are opened: over any program. -/
import Derived.WalkKit
import Derived.ProofKit
import Derived.OpenShut
import Derived.WalkSmall
import Derived.ChangeKeysEq
namespace Go.Proofs.Ytlieapapmkbbgaa
open Go Go.RowKit Go.ChangeShapes Go.WideShapes

theorem wf_of_has {k : IntKind} {n : Int} (h : k.has n) : (Lit.int k n).wf = true := by
  obtain ⟨a, b⟩ := h
  simp [Lit.wf, a, b]

theorem cell_int {P : Program} {w : World} {r : Reach} {b : Nat} {t : TypeId} {k : IntKind} {v : Value} (ht : P.underlying t = some (.int k)) (h : Cell.okWide P w r b t v) :
    ∃ n, v = .int k n ∧ k.has n := by
  unfold Cell.okWide Cell.ok at h
  rw [ht] at h
  cases v <;> simp at h
  obtain ⟨rfl, h⟩ := h
  exact ⟨_, rfl, h⟩

/-- a struct or an array whose cells are all integers -/
theorem flat_ints {P : Program} {w : World} {r : Reach} {b : Nat} {t : TypeId} {v : Value} (ks : List IntKind) {ts : List TypeId}
    (hu : (∃ fs, P.underlying t = some (.struct fs)) ∨ (∃ n e, P.underlying t = some (.array n e)))
    (hts : P.cellTypes P.depth t = some ts) (hks : ts.map P.underlying = ks.map fun k => some (.int k)) (hC : P.cellsOf t = ks.length)
    (h : Value.okWide P w r b t v) :
    ∃ zs : List Int, zs.length = ks.length ∧ v = .agg (List.zipWith Value.int ks zs).toArray ∧ ∀ (i : Nat) k z, ks[i]? = some k → zs[i]? = some z → (Lit.int k z).wf = true := by
  have hl : ts.length = ks.length := by have := congrArg List.length hks; simpa using this
  have : ∃ cs, v = .agg cs ∧ cs.size = P.cellsOf t ∧ Row.okWide P w r b t cs := by
    unfold Value.okWide at h
    rcases hu with ⟨fs, hu⟩ | ⟨n, e, hu⟩ <;> (rw [hu] at h; exact h)
  obtain ⟨cs, rfl, hsz, ts', hts', _, hc⟩ := this
  obtain rfl : ts = ts' := by rw [hts] at hts'; exact Option.some.inj hts'
  have hcell : ∀ i, i < ks.length → ∃ z k, ks[i]? = some k ∧ cs[i]? = some (.int k z) ∧ k.has z := by
    intro i hi
    have hi' : i < cs.size := by omega
    obtain ⟨u, h1, h2⟩ := hc i cs[i] (by simp [hi'])
    have e1 : i % ts.length = i := Nat.mod_eq_of_lt (by omega)
    rw [e1] at h1
    have hk : ks[i]? = some ks[i] := by simp [hi]
    have h3 : P.underlying u = some (.int ks[i]) := by
      have := congrArg (·[i]?) hks
      simp [h1, hi] at this
      exact this
    obtain ⟨z, hz, hh⟩ := cell_int h3 h2
    exact ⟨z, ks[i], hk, by rw [Array.getElem?_eq_getElem hi', hz], hh⟩
  refine ⟨cs.toList.map intOf, by simp; omega, ?_, ?_⟩
  · congr 1
    apply Array.ext
    · simp; omega
    · intro i h1 h2
      obtain ⟨z, k, hk, hz, _⟩ := hcell i (by omega)
      have e : cs[i] = .int k z := by rw [Array.getElem?_eq_getElem h1] at hz; exact Option.some.inj hz
      have hk' : ks[i]'(by omega) = k := by
        have := List.getElem?_eq_getElem (l := ks) (i := i) (by omega)
        rw [this] at hk; exact Option.some.inj hk
      simp [e, intOf, hk']
  · intro i k z hk hz
    have hi : i < ks.length := by
      rcases Nat.lt_or_ge i ks.length with g | g
      · exact g
      · rw [List.getElem?_eq_none g] at hk; cases hk
    obtain ⟨z', k', hk', hz', hh⟩ := hcell i hi
    rw [hk] at hk'
    obtain rfl := Option.some.inj hk'
    have : z = z' := by
      rw [List.getElem?_map, ← Array.getElem?_toList] at *
      rw [hz'] at hz
      simpa [intOf] using hz.symm
    subst this
    exact wf_of_has hh

theorem len1 {α : Type} {l : List α} (h : l.length = 1) : ∃ a, l = [a] := by
  match l, h with | [a], _ => exact ⟨a, rfl⟩
theorem len2 {α : Type} {l : List α} (h : l.length = 2) : ∃ a b, l = [a, b] := by
  match l, h with | [a, b], _ => exact ⟨a, b, rfl⟩
theorem len3 {α : Type} {l : List α} (h : l.length = 3) : ∃ a b c, l = [a, b, c] := by
  match l, h with | [a, b, c], _ => exact ⟨a, b, c, rfl⟩
theorem len4 {α : Type} {l : List α} (h : l.length = 4) : ∃ a b c d, l = [a, b, c, d] := by
  match l, h with | [a, b, c, d], _ => exact ⟨a, b, c, d, rfl⟩
theorem len5 {α : Type} {l : List α} (h : l.length = 5) : ∃ a b c d e, l = [a, b, c, d, e] := by
  match l, h with | [a, b, c, d, e], _ => exact ⟨a, b, c, d, e, rfl⟩
theorem len6 {α : Type} {l : List α} (h : l.length = 6) : ∃ a b c d e f, l = [a, b, c, d, e, f] := by
  match l, h with | [a, b, c, d, e, f], _ => exact ⟨a, b, c, d, e, f, rfl⟩
theorem len10 {α : Type} {l : List α} (h : l.length = 10) : ∃ a b c d e f g i j k, l = [a, b, c, d, e, f, g, i, j, k] := by
  match l, h with | [a, b, c, d, e, f, g, i, j, k], _ => exact ⟨a, b, c, d, e, f, g, i, j, k, rfl⟩

theorem bd_u8 {a : Int} (h : (Lit.int .u8 a).wf = true) : 0 ≤ a ∧ a < 256 := by
  have : 0 ≤ a ∧ a ≤ 255 := by simpa [Lit.wf, IntKind.min, IntKind.max, IntKind.signed, IntKind.bits] using h
  omega
theorem bd_u32 {a : Int} (h : (Lit.int .u32 a).wf = true) : 0 ≤ a ∧ a < 4294967296 := by
  have : 0 ≤ a ∧ a ≤ 4294967295 := by simpa [Lit.wf, IntKind.min, IntKind.max, IntKind.signed, IntKind.bits] using h
  omega
theorem bd_i32 {a : Int} (h : (Lit.int .i32 a).wf = true) : -2147483648 ≤ a ∧ a ≤ 2147483647 := by
  have : -2147483648 ≤ a ∧ a ≤ 2147483647 := by simpa [Lit.wf, IntKind.min, IntKind.max, IntKind.signed, IntKind.bits] using h
  omega
theorem bd_i64 {a : Int} (h : (Lit.int .i64 a).wf = true) : -9223372036854775808 ≤ a ∧ a ≤ 9223372036854775807 := by
  have : -9223372036854775808 ≤ a ∧ a ≤ 9223372036854775807 := by simpa [Lit.wf, IntKind.min, IntKind.max, IntKind.signed, IntKind.bits] using h
  omega
theorem below_of_draw {w w' : World} (h : ∃ n, w' = w.drewN n) : Below w.heap.size w w' := by
  obtain ⟨n, rfl⟩ := h
  exact below_drewN (Below.refl _ _) n
theorem below_trans {w a b : World} (h : Below w.heap.size w a) (k : Below a.heap.size a b) : Below w.heap.size w b := h.trans (k.mono h.size)
theorem part0 {P : Program} {e : TypeId} (he : P.underlying e = some (.int .i64)) (xs : Array Value) (k : Nat) (v : Value) (h : xs[k]? = some v) (w : World) : (Go.part e xs k).run P w = .ok v w := by
  simp [Go.part, Go.isAgg, run_underlying he, h]
theorem eqA3 {P : Program} {t e : TypeId} {i : TypeInfo} (hu : P.underlying t = some (.array 3 e)) (he : P.underlying e = some (.int .i64)) (hi : P.info? e = some i) (hC : P.cellsOf e = 1) (x y z a b c : Int) (w : World) :
    (Op.equalIn 10000 t (.agg #[.int .i64 x, .int .i64 y, .int .i64 z]) (.agg #[.int .i64 a, .int .i64 b, .int .i64 c])).run P w = .ok (x == a && (y == b && z == c)) w := by
  rw [run_equalIn_array w 9999 _ _ hu hi, hC, show List.range 3 = [0, 1, 2] from rfl]
  have pe : ∀ u v : Int, (Op.equalIn 9999 e (.int .i64 u) (.int .i64 v)).run P w = .ok (u == v) w := fun u v => run_equalIn_int w 9998 e .i64 .i64 u v he
  have p0 := fun (x y z : Int) => part0 he #[.int .i64 x, .int .i64 y, .int .i64 z] (0 * 1) (.int .i64 x) rfl w
  have p1 := fun (x y z : Int) => part0 he #[.int .i64 x, .int .i64 y, .int .i64 z] (1 * 1) (.int .i64 y) rfl w
  have p2 := fun (x y z : Int) => part0 he #[.int .i64 x, .int .i64 y, .int .i64 z] (2 * 1) (.int .i64 z) rfl w
  simp only [Op.eqItems, Sem.run_bind, p0, p1, p2, pe, Result.andThen_ok, Sem.run_ite, Sem.run_pure]
  cases h1 : (x == a) <;> cases h2 : (y == b) <;> cases h3 : (z == c) <;> simp
end Go.Proofs.Ytlieapapmkbbgaa
