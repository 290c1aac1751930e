/- A slice of booleans that comes in. -/
import Derived.Test.YtldjidhdmbeidaaRxS
namespace Go.Proofs.Ytldjidhdmbeidaa
open Go Go.RowKit Go.Maps Go.ChangeShapes Go.WideShapes Go.ChangeAt Go.Deep
set_option linter.unusedVariables false
set_option linter.unusedSimpArgs false
set_option maxRecDepth 100000

def BlAt (w : World) (a : Option Addr) (l : List Bool) : Prop :=
  ∀ (k : Nat) (b : Bool), l[k]? = some b → ∃ g off, a = some ⟨g, off, none⟩ ∧ g < w.heap.size ∧ w.cell? ⟨g, off + k, none⟩ = some (.bool b)
theorem BlAt.later {w w' : World} {a : Option Addr} {l : List Bool} (h : BlAt w a l) (k : Below w.heap.size w w') : BlAt w' a l := fun i x hx => by
  obtain ⟨g, off, h0, h1, c0⟩ := h i x hx
  exact ⟨g, off, h0, Nat.lt_of_lt_of_le h1 k.size, (k.cell (p := ⟨g, _, none⟩) h1).trans c0⟩
structure BlIn (w : World) (a : Option Addr) (l : List Bool) (c : Nat) : Prop where
  len : l.length ≤ c
  cap : c ≤ 9223372036854775807
  cells : BlAt w a l
theorem bools_in {H : Type} {enc : TypeId × Value → H} {w : World} {r : Reach} {b base : Nat} {spare : Nat → Bool} {held : Bool} {v : Value} {d : DataW H} {p : List MemPlace}
    (hv : Value.okWide Try.prog w r b 26 v) (h : DataW.Trod enc Try.prog w base spare held 26 v d p) : ∃ (a : Option Addr) (c : Nat) (l : List Bool), v = .slice a l.length c ∧ BlIn w a l c := by
  obtain ⟨a, len0, cap0, rfl⟩ := okWide_slice Try.underlying26 hv
  obtain ⟨fuel, hf⟩ := h
  have hC : Try.prog.cellsOf 4 = 1 := by kernel_rfl
  rcases Go.Deep.open_slice Try.underlying26 hf with ⟨hcs, _⟩ | ⟨x, len, cap, m, n', D, Pl, hcs, _, hl, hm, hmm, _, hi⟩
  · simp [Value.cells] at hcs
    obtain ⟨rfl, rfl, rfl⟩ := hcs
    exact ⟨none, 0, [], rfl, by simp, by omega, fun k b hb => by simp at hb⟩
  · simp [Value.cells] at hcs
    obtain ⟨rfl, rfl, rfl⟩ := hcs
    have hlm : len0 ≤ m := by rw [hmm]; split <;> omega
    have each : ∀ i, ∃ q : Bool, i < len0 → w.cell? (x.add i) = some (.bool q) := by
      intro i
      by_cases hlt : i < len0
      · obtain ⟨cs', hc, hd⟩ := hi i (by omega)
        rw [hC] at hc
        obtain ⟨_, _, hat⟩ := World.cells?_some hc
        obtain ⟨q, hq, _⟩ := DataW.trod_bool Try.underlying4 hd
        subst hq
        refine ⟨q, fun _ => ?_⟩
        have h0 := hat 0 (by omega)
        rw [Go.Deep.add_add, Nat.mul_one, Nat.add_zero] at h0
        exact h0
      · exact ⟨false, fun h => absurd h hlt⟩
    have ⟨f, hff⟩ := Classical.axiomOfChoice each
    refine ⟨some x, cap0, (List.range len0).map f, by simp, by simpa using hl, by simpa [maxLen] using hm, fun k b hb => ?_⟩
    have hk : k < len0 := by
      rcases Nat.lt_or_ge k len0 with g | g
      · exact g
      · rw [List.getElem?_eq_none (by simpa using g)] at hb; cases hb
    rw [List.getElem?_map, List.getElem?_range hk] at hb
    obtain rfl : f k = b := by simpa using hb
    obtain ⟨bl, off, spot⟩ := x
    have c0 := hff k hk
    have c00 := hff 0 (by omega)
    have hspot : spot = none := by simpa [Addr.add] using World.cell?_spot c00
    subst hspot
    have e1 : (⟨bl, off, none⟩ : Addr).add k = ⟨bl, off + k, none⟩ := by unfold Addr.add; split <;> simp_all
    rw [e1] at c0
    exact ⟨bl, off, rfl, block_lt_of_cell c0, c0⟩
end Go.Proofs.Ytldjidhdmbeidaa
