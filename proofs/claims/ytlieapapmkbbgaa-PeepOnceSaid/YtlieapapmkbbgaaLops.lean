/- A slice of structs of five integers that came in: over any program. -/
import Derived.Test.YtlieapapmkbbgaaFive
import Derived.WideShapes
import Derived.ChangeSlices
import Derived.OpenShut
import Derived.Deep.Slices
import Derived.Deep.Fields
namespace Go.Proofs.Ytlieapapmkbbgaa
open Go Go.RowKit Go.ChangeShapes Go.WideShapes Go.Deep
set_option linter.unusedVariables false

/-- a slice of such structs, with its spare room -/
def L5In (w : World) (a : Option Addr) (l : List Q5) (c : Nat) : Prop :=
  l.length ≤ c ∧ c ≤ 9223372036854775807 ∧ (∀ x ∈ l, x.wf) ∧
  ((a = none ∧ l = [] ∧ c = 0) ∨ ((∃ x, a = some x) ∧ l = []) ∨ ∃ b off, a = some ⟨b, off, none⟩ ∧ b < w.heap.size ∧ ∀ j u, (flat l)[j]? = some u → w.cell? ⟨b, off + j, none⟩ = some u)
theorem L5In.later {w w' : World} {a : Option Addr} {l : List Q5} {c : Nat} (h : L5In w a l c) (hb : Below w.heap.size w w') : L5In w' a l c := by
  obtain ⟨h2, h3, h4, h | h | ⟨b, off, rfl, hlt, hc⟩⟩ := h
  · exact ⟨h2, h3, h4, Or.inl h⟩
  · exact ⟨h2, h3, h4, Or.inr (Or.inl h)⟩
  · exact ⟨h2, h3, h4, Or.inr (Or.inr ⟨b, off, rfl, Nat.lt_of_lt_of_le hlt hb.size, fun j u hj => (hb.cell hlt).trans (hc j u hj)⟩)⟩

def kindAt (j : Nat) : IntKind := if j < 4 then .i64 else .i32
/-- one struct's five cells, as numbers -/
theorem five_of {H : Type} {enc : TypeId × Value → H} {P : Program} {w : World} {base : Nat} {spare : Nat → Bool} {held : Bool} {e : TypeId} {fs : Array Field} {n : Nat} {cs : List Value} {y : DataW H × List MemPlace}
    (he : P.underlying e = some (.struct fs)) (hC : P.cellsOf e = 5) (hsz : fs.size = 5) (hone : oneCellFields P fs = true) (hk : ∀ j f, fs[j]? = some f → P.underlying f.type = some (.int (kindAt j)))
    (h : DataW.trod enc P w base spare held n e cs = some y) : ∃ q : Q5, q.wf ∧ cs = q.cells := by
  obtain ⟨xs, n', _, _, hlen, hxl, hf⟩ := DataW.trod_struct he h
  have each : ∀ j, j < 5 → ∃ z, cs[j]? = some (.int (kindAt j) z) ∧ (Lit.int (kindAt j) z).wf = true := by
    intro j hj
    have hfj : fs[j]? = some (fs[j]'(by omega)) := Array.getElem?_eq_getElem _
    obtain ⟨ho, hc1⟩ := hone_of hone j _ hfj
    have h1 := hf j _ hfj
    rw [ho, hc1] at h1
    have hxj : xs[j]? = some (xs[j]'(by omega)) := List.getElem?_eq_getElem _
    obtain ⟨z, hz, _, hw⟩ := DataW.trod_int (hk j _ hfj) (h1.trans hxj)
    refine ⟨z, ?_, hw⟩
    have : ((cs.drop j).take 1)[0]? = some (.int (kindAt j) z) := by rw [hz]; rfl
    simpa using this
  obtain ⟨z0, c0, w0⟩ := each 0 (by omega)
  obtain ⟨z1, c1, w1⟩ := each 1 (by omega)
  obtain ⟨z2, c2, w2⟩ := each 2 (by omega)
  obtain ⟨z3, c3, w3⟩ := each 3 (by omega)
  obtain ⟨z4, c4, w4⟩ := each 4 (by omega)
  refine ⟨⟨z0, z1, z2, z3, z4⟩, ⟨w0, w1, w2, w3, w4⟩, ?_⟩
  rw [hC] at hlen
  match cs, hlen, c0, c1, c2, c3, c4 with
  | [v0, v1, v2, v3, v4], _, c0, c1, c2, c3, c4 =>
    simp at c0 c1 c2 c3 c4
    subst c0 c1 c2 c3 c4
    rfl

theorem lops_in {H : Type} {enc : TypeId × Value → H} {P : Program} {w : World} {r : Reach} {b base : Nat} {spare : Nat → Bool} {held : Bool} {t e : TypeId} {v : Value} {d : DataW H} {p : List MemPlace} {fs : Array Field}
    (ht : P.underlying t = some (.slice e)) (he : P.underlying e = some (.struct fs)) (hC : P.cellsOf e = 5) (hsz : fs.size = 5) (hone : oneCellFields P fs = true) (hk : ∀ j f, fs[j]? = some f → P.underlying f.type = some (.int (kindAt j)))
    (hv : Value.okWide P w r b t v) (h : DataW.Trod enc P w base spare held t v d p) :
    ∃ (a : Option Addr) (c : Nat) (l : List Q5), v = .slice a l.length c ∧ L5In w a l c := by
  obtain ⟨a, len, cap, rfl⟩ := okWide_slice ht hv
  obtain ⟨fuel, hf⟩ := h
  rcases Go.Deep.open_slice ht hf with ⟨hcs, _⟩ | ⟨x, len', cap', m, n, D, Pl, hcs, _, hl, hm, hmm, _, hi⟩
  · simp [Value.cells] at hcs
    obtain ⟨rfl, rfl, rfl⟩ := hcs
    exact ⟨none, 0, [], rfl, by simp, by omega, by simp, Or.inl ⟨rfl, rfl, rfl⟩⟩
  · simp [Value.cells] at hcs
    obtain ⟨rfl, rfl, rfl⟩ := hcs
    have hlm : len ≤ m := by rw [hmm]; split <;> omega
    have each : ∀ i, ∃ q : Q5, i < len → q.wf ∧ ∀ j, j < 5 → w.cell? (x.add (i * 5 + j)) = q.cells[j]? := by
      intro i
      by_cases hlt : i < len
      · obtain ⟨cs', hc, hd⟩ := hi i (by omega)
        rw [hC] at hc
        obtain ⟨q, hw, rfl⟩ := five_of he hC hsz hone hk hd
        obtain ⟨_, _, hat⟩ := World.cells?_some hc
        exact ⟨q, fun _ => ⟨hw, fun j hj => by rw [← Go.Deep.add_add]; exact hat j hj⟩⟩
      · exact ⟨⟨0, 0, 0, 0, 0⟩, fun h => absurd h hlt⟩
    have ⟨f, hff⟩ := Classical.axiomOfChoice each
    refine ⟨some x, cap, (List.range len).map f, by simp, by simpa using hl, by simpa [maxLen] using hm, ?_, ?_⟩
    · intro q hq
      simp only [List.mem_map, List.mem_range] at hq
      obtain ⟨i, hlt, rfl⟩ := hq
      exact (hff i hlt).1
    · by_cases h0 : len = 0
      · subst h0
        exact Or.inr (Or.inl ⟨⟨x, rfl⟩, by simp⟩)
      · obtain ⟨bl, off, spot⟩ := x
        have c0 := (hff 0 (by omega)).2 0 (by omega)
        have c0' : w.cell? ((⟨bl, off, spot⟩ : Addr).add 0) = some (.int .i64 (f 0).o) := by simpa [Q5.cells] using c0
        have hspot : spot = none := by simpa [Addr.add] using World.cell?_spot c0'
        subst hspot
        have hb := block_lt_of_cell c0'
        refine Or.inr (Or.inr ⟨bl, off, rfl, by simpa [Addr.add] using hb, ?_⟩)
        intro j u hj
        have hjl : j < ((List.range len).map f).length * 5 := by
          rcases Nat.lt_or_ge j (((List.range len).map f).length * 5) with g | g
          · exact g
          · rw [List.getElem?_eq_none (by rw [flat_len]; exact g)] at hj; cases hj
        simp only [List.length_map, List.length_range] at hjl
        have hk5 : j / 5 < len := by omega
        have g := flat_get ((List.range len).map f) (j / 5) (f (j / 5)) (by simp [hk5]) (j % 5) (by omega)
        rw [show j / 5 * 5 + j % 5 = j by omega, hj] at g
        have ck := (hff (j / 5) hk5).2 (j % 5) (by omega)
        rw [show j / 5 * 5 + j % 5 = j by omega, ← g] at ck
        rw [← add_at]
        exact ck
end Go.Proofs.Ytlieapapmkbbgaa
