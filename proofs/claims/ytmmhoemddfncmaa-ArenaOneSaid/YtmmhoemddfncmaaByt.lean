/- Slices of bytes that come in, and that a call itself owns. -/
import Derived.ProofKit
import Derived.WideShapes
import Derived.ChangeSlices
import Derived.OpenShut
import Derived.OwnWalk
import Derived.Deep.OwnRows
import Derived.Lib.Hide
import Derived.Test.YtmmhoemddfncmaaProg
namespace Go.Proofs.Ytmmhoemddfncmaa
open Go Go.RowKit Go.ChangeShapes Go.WideShapes
set_option linter.unusedVariables false

theorem info_u8 : (Try.prog.info? 5).map (fun i => (i.zero, i.size, i.bytes)) = some (some (.int .u8 0), 1, 1) := by kernel_rfl
def u8v (x : Nat) : Value := .int .u8 (x : Int)
/-- bytes that the call itself owns -/
def OwnBytes (w : World) (base : Nat) (v : Value) (l : List Nat) : Prop := w.ownsRow base 5 1 v l.length (l.map u8v) ∧ (∀ x ∈ l, x < 256)
/-- a slice of bytes, with its spare room -/
def SliceIn (w : World) (a : Option Addr) (l : List Nat) (c : Nat) : Prop :=
  (∀ x ∈ l, x < 256) ∧ l.length ≤ c ∧ c ≤ 9223372036854775807 ∧
  ((a = none ∧ l = [] ∧ c = 0) ∨ ((∃ x, a = some x) ∧ l = []) ∨ ∃ b off, a = some ⟨b, off, none⟩ ∧ b < w.heap.size ∧ ∀ k, k < l.length → w.cell? ⟨b, off + k, none⟩ = some (.int .u8 (l.getD k 0 : Nat)))
theorem SliceIn.later {w w' : World} {a : Option Addr} {l : List Nat} {c : Nat} (h : SliceIn w a l c) (hb : Below w.heap.size w w') : SliceIn w' a l c := by
  obtain ⟨h1, h2, h3, h | h | ⟨b, off, rfl, hlt, hc⟩⟩ := h
  · exact ⟨h1, h2, h3, Or.inl h⟩
  · exact ⟨h1, h2, h3, Or.inr (Or.inl h)⟩
  · exact ⟨h1, h2, h3, Or.inr (Or.inr ⟨b, off, rfl, Nat.lt_of_lt_of_le hlt hb.size, fun k hk => (hb.cell hlt).trans (hc k hk)⟩)⟩
theorem own_at {w : World} {base : Nat} {v : Value} {l : List Nat} (h : OwnBytes w base v l) (hb : base ≤ w.heap.size) (hl : l.length ≤ 9223372036854775807) :
    ∃ a c, v = .slice a l.length c ∧ SliceIn w a l c := by
  obtain ⟨h, h256⟩ := h
  have hlt := h.lt
  have h' := h
  obtain ⟨_, ⟨hv, hn⟩ | ⟨g, cap, cur, hv, hg, hh, hc, hcm, _⟩⟩ := h
  · have : l = [] := by cases l with | nil => rfl | cons _ _ => simp at hn
    subst this
    exact ⟨none, 0, hv, h256, by simp, by omega, Or.inl ⟨rfl, rfl, rfl⟩⟩
  · refine ⟨some ⟨g, 0, none⟩, cap, hv, h256, hc, by unfold maxLen at hcm; omega, Or.inr (Or.inr ⟨g, 0, rfl, ?_, ?_⟩)⟩
    · exact (hlt g (by rw [hv]; rfl)).2
    · intro k hk
      have := h'.cells (g := g) (by rw [hv]; rfl) k (u8v (l.getD k 0)) (by simp [u8v, List.getD, hk])
      have e : (⟨g, 0, none⟩ : Addr).add k = ⟨g, 0 + k, none⟩ := by unfold Addr.add; split <;> simp_all
      rw [e] at this
      exact this
theorem own_empty (w : World) (base : Nat) (hb : base ≤ w.heap.size) : (w.alloc (.cells #[] 5)).ownsRow base 5 1 (.slice (some ⟨w.heap.size, 0, none⟩) 0 0) 0 [] :=
  ⟨rfl, Or.inr ⟨w.heap.size, 0, #[], rfl, hb, by show (w.heap.push _)[w.heap.size]? = _; simp, Nat.le_refl _, by simp [maxLen], rfl, rfl⟩⟩
theorem news_at {w : World} {b off : Nat} {l : List Nat} (hc : ∀ k, k < l.length → w.cell? ⟨b, off + k, none⟩ = some (.int .u8 (l.getD k 0 : Nat))) (m : Nat) (w' : World)
    (hw : ∀ k, w'.cell? ⟨b, k, none⟩ = w.cell? ⟨b, k, none⟩) : ∀ j u, ((l.take m).map u8v)[j]? = some u → w'.cell? ((⟨b, off, none⟩ : Addr).add j) = some u := by
  intro j u h
  have e : (⟨b, off, none⟩ : Addr).add j = ⟨b, off + j, none⟩ := by unfold Addr.add; split <;> simp_all
  rw [e, hw]
  simp only [List.getElem?_map, Option.map_eq_some_iff] at h
  obtain ⟨x, hx, rfl⟩ := h
  have hj : j < l.length := by
    rcases Nat.lt_or_ge j l.length with g | g
    · exact g
    · rw [List.getElem?_eq_none (by simp; omega)] at hx; cases hx
  rw [hc j hj]
  have : l[j]? = some x := by
    rw [List.getElem?_take] at hx
    split at hx
    · exact hx
    · cases hx
  simp [u8v, List.getD, this]
theorem one_cell (l : List Nat) : ∀ u ∈ l.map u8v, u.oneCell' = true := by
  intro u hu
  simp only [List.mem_map] at hu
  obtain ⟨x, _, rfl⟩ := hu
  rfl
/-- a slice of bytes that came in -/
theorem bytes_in {H : Type} {enc : TypeId × Value → H} {P : Program} {w : World} {r : Reach} {b base : Nat} {spare : Nat → Bool} {held : Bool} {t e : TypeId} {v : Value} {d : DataW H} {p : List MemPlace}
    (ht : P.underlying t = some (.slice e)) (he : P.underlying e = some (.int .u8)) (hc : P.cellsOf e = 1)
    (hv : Value.okWide P w r b t v) (h : DataW.Trod enc P w base spare held t v d p) :
    ∃ (a : Option Addr) (c : Nat) (l : List Nat), v = .slice a l.length c ∧ SliceIn w a l c := by
  obtain ⟨a, len, cap, rfl⟩ := okWide_slice ht hv
  obtain ⟨fuel, hf⟩ := h
  rcases open_ints ht he hc hf with ⟨hcs, _⟩ | ⟨x, n, c, zs, hcs, _, hl, hm, hz, _, hcell, hwz⟩
  · simp [Value.cells] at hcs
    obtain ⟨rfl, rfl, rfl⟩ := hcs
    exact ⟨none, 0, [], rfl, by simp, by simp, by omega, Or.inl ⟨rfl, rfl, rfl⟩⟩
  · simp [Value.cells] at hcs
    obtain ⟨rfl, rfl, rfl⟩ := hcs
    have hlen : len ≤ zs.length := by rw [hz]; split <;> omega
    have l1 : ((zs.take len).map Int.toNat).length = len := by simp; omega
    have pos : ∀ z ∈ zs, 0 ≤ z ∧ z < 256 := by
      intro z hz
      have : 0 ≤ z ∧ z ≤ 255 := by simpa [Lit.wf, IntKind.min, IntKind.max, IntKind.signed, IntKind.bits] using hwz z hz
      omega
    refine ⟨some x, cap, (zs.take len).map Int.toNat, by rw [l1], ?_, by rw [l1]; exact hl, by simpa [maxLen] using hm, ?_⟩
    · intro n hn
      simp only [List.mem_map] at hn
      obtain ⟨z, hz, rfl⟩ := hn
      have := pos z (List.mem_of_mem_take hz)
      omega
    · by_cases h0 : len = 0
      · subst h0
        exact Or.inr (Or.inl ⟨⟨x, rfl⟩, by simp⟩)
      · obtain ⟨bl, off, spot⟩ := x
        have c0 := hcell 0 (by omega)
        have hspot : spot = none := by simpa [Addr.add] using World.cell?_spot c0
        subst hspot
        have hb := block_lt_of_cell c0
        refine Or.inr (Or.inr ⟨bl, off, rfl, by simpa [Addr.add] using hb, ?_⟩)
        intro k hk
        rw [l1] at hk
        have ck := hcell k (by omega)
        have e1 : (⟨bl, off, none⟩ : Addr).add k = ⟨bl, off + k, none⟩ := by unfold Addr.add; split <;> simp_all
        rw [e1] at ck
        rw [ck]
        have hm : zs.getD k 0 ∈ zs := by
          simp only [List.getD, List.getElem?_eq_getElem (show k < zs.length by omega), Option.getD_some]
          exact List.getElem_mem _
        have hp := pos _ hm
        have e2 : ((zs.take len).map Int.toNat).getD k 0 = (zs.getD k 0).toNat := by
          simp [List.getD, hk, List.getElem?_eq_getElem (show k < zs.length by omega)]
        rw [e2]
        congr 2
        omega
end Go.Proofs.Ytmmhoemddfncmaa
