/- Slices of words that come in, with their capacity. -/
import Derived.Test.YtmlhoagcppofgaaDoorFlP
import Derived.WideShapes
import Derived.ChangeSlices
import Derived.OpenShut
import Derived.OwnWalk
import Derived.Handy
import Derived.WalkSpells
import Derived.WalkSmall
namespace Go.Proofs.YtmlhoagcppofgaaDoor
open Go Go.RowKit Go.ChangeShapes Go.WideShapes Go.ChangeAt
set_option linter.unusedVariables false

/-- a slice of words -/
def WordsC (w : World) (a : Option Addr) (l : List Nat) (c : Nat) : Prop :=
  (∀ x ∈ l, x < 4294967296) ∧ l.length ≤ c ∧ c ≤ 9223372036854775807 ∧ (l = [] ∨ ∃ b off, a = some ⟨b, off, none⟩ ∧ b < w.heap.size ∧ ∀ k, k < l.length → w.cell? ⟨b, off + k, none⟩ = some (.int .u32 (l.getD k 0 : Nat)))
theorem WordsC.later {w w' : World} {a : Option Addr} {l : List Nat} {c : Nat} (h : WordsC w a l c) (hb : Below w.heap.size w w') : WordsC w' a l c := by
  obtain ⟨h1, h2, h3, h | ⟨b, off, rfl, hlt, hc⟩⟩ := h
  · exact ⟨h1, h2, h3, .inl h⟩
  · exact ⟨h1, h2, h3, .inr ⟨b, off, rfl, Nat.lt_of_lt_of_le hlt hb.size, fun k hk => (hb.cell hlt).trans (hc k hk)⟩⟩
theorem words_in {H : Type} {enc : TypeId × Value → H} {P : Program} {w : World} {r : Reach} {b base : Nat} {spare : Nat → Bool} {held : Bool} {t e : TypeId} {v : Value} {d : DataW H} {p : List MemPlace}
    (ht : P.underlying t = some (.slice e)) (he : P.underlying e = some (.int .u32)) (hc : P.cellsOf e = 1)
    (hv : Value.okWide P w r b t v) (h : DataW.Trod enc P w base spare held t v d p) :
    ∃ (a : Option Addr) (c : Nat) (l : List Nat), v = .slice a l.length c ∧ WordsC w a l c := by
  obtain ⟨a, len, cap, rfl⟩ := okWide_slice ht hv
  obtain ⟨fuel, hf⟩ := h
  rcases open_ints ht he hc hf with ⟨hcs, _⟩ | ⟨x, n, c, zs, hcs, _, hl, hm, hz, _, hcell, hwz⟩
  · simp [Value.cells] at hcs
    obtain ⟨rfl, rfl, rfl⟩ := hcs
    exact ⟨none, 0, [], rfl, by simp, by simp, by omega, Or.inl rfl⟩
  · simp [Value.cells] at hcs
    obtain ⟨rfl, rfl, rfl⟩ := hcs
    have hlen : len ≤ zs.length := by rw [hz]; split <;> omega
    have l1 : ((zs.take len).map Int.toNat).length = len := by simp; omega
    have pos : ∀ z ∈ zs, 0 ≤ z ∧ z < 4294967296 := by
      intro z hz
      have : 0 ≤ z ∧ z ≤ 4294967295 := by simpa [Lit.wf, IntKind.min, IntKind.max, IntKind.signed, IntKind.bits] using hwz z hz
      omega
    refine ⟨some x, cap, (zs.take len).map Int.toNat, by rw [l1], ?_, by rw [l1]; exact hl, by simpa [maxLen] using hm, ?_⟩
    · intro n hn
      simp only [List.mem_map] at hn
      obtain ⟨z, hz, rfl⟩ := hn
      have := pos z (List.mem_of_mem_take hz)
      omega
    · by_cases h0 : len = 0
      · subst h0
        exact Or.inl (by simp)
      · obtain ⟨bl, off, spot⟩ := x
        have c0 := hcell 0 (by omega)
        have hspot : spot = none := by simpa [Addr.add] using World.cell?_spot c0
        subst hspot
        have hb := block_lt_of_cell c0
        refine Or.inr ⟨bl, off, rfl, by simpa [Addr.add] using hb, ?_⟩
        intro k hk
        rw [l1] at hk
        have ck := hcell k (by omega)
        have e1 : (⟨bl, off, none⟩ : Addr).add k = ⟨bl, off + k, none⟩ := by unfold Addr.add; split <;> simp_all
        rw [e1] at ck
        rw [ck]
        have hm : zs.getD k 0 ∈ zs := by
          simp only [List.getD, List.getElem?_eq_getElem (show k < zs.length by omega), Option.getD_some]
          exact List.getElem_mem _
        have hp := pos _ hm
        have e2 : ((zs.take len).map Int.toNat).getD k 0 = (zs.getD k 0).toNat := by
          simp [List.getD, hk, List.getElem?_eq_getElem (show k < zs.length by omega)]
        rw [e2]
        congr 2
        omega

end Go.Proofs.YtmlhoagcppofgaaDoor
