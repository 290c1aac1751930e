/- What comes in: items, each so many times; booleans. -/
import Derived.Test.YtldjidhdmbeidaaRxL
import Derived.Test.YtldjidhdmbeidaaFlat
import Derived.WideShapes
namespace Go.Proofs.Ytldjidhdmbeidaa
open Go Go.RowKit Go.Maps Go.ChangeShapes Go.WideShapes Go.ChangeAt
set_option linter.unusedVariables false
set_option linter.unusedSimpArgs false
set_option maxRecDepth 100000

def Sm.cells (s : Sm) : List Value := .int .i64 s.n :: s.x.cells
structure SmIn (w : World) (a : Option Addr) (l : List Sm) (c : Nat) : Prop where
  len : l.length ≤ c
  cap : c ≤ 9223372036854775807
  ok : ∀ s ∈ l, s.okay
  cells : SmAt w a l
theorem of_wf32 {x : Int} (h : (Lit.int .i32 x).wf = true) : -2147483648 ≤ x ∧ x ≤ 2147483647 := by simp [Lit.wf, IntKind.min, IntKind.max, IntKind.signed, IntKind.bits] at h; omega
theorem eight_ints (q : List Value) : ∃ s : Sm, AreInts [.i64, .i64, .i64, .i64, .i64, .i64, .i32, .i64] q → q = s.cells ∧ s.okay := by
  by_cases hq : AreInts [.i64, .i64, .i64, .i64, .i64, .i64, .i32, .i64] q
  · have hl : q.length = 8 := areInts_len hq
    rcases q with _ | ⟨v0, _ | ⟨v1, _ | ⟨v2, _ | ⟨v3, _ | ⟨v4, _ | ⟨v5, _ | ⟨v6, _ | ⟨v7, _ | ⟨v8, r⟩⟩⟩⟩⟩⟩⟩⟩⟩ <;> simp at hl
    obtain ⟨⟨x0, h0, w0⟩, ⟨x1, h1, w1⟩, ⟨x2, h2, w2⟩, ⟨x3, h3, w3⟩, ⟨x4, h4, w4⟩, ⟨x5, h5, w5⟩, ⟨x6, h6, w6⟩, ⟨x7, h7, w7⟩, _⟩ := hq
    subst h0 h1 h2 h3 h4 h5 h6 h7
    exact ⟨⟨x0, ⟨x1, x2, x3, x4, x5, x6, x7⟩⟩, fun _ => ⟨rfl, of_wf64 w0, of_wf64 w1, of_wf64 w2, of_wf64 w3, of_wf64 w4, of_wf64 w5, of_wf32 w6, of_wf64 w7⟩⟩
  · exact ⟨⟨0, ⟨0, 0, 0, 0, 0, 0, 0⟩⟩, fun h => absurd h hq⟩
theorem some_in {H : Type} {enc : TypeId × Value → H} {w : World} {r : Reach} {b base : Nat} {spare : Nat → Bool} {held : Bool} {v : Value} {d : DataW H} {p : List MemPlace}
    (hv : Value.okWide Try.prog w r b 22 v) (h : DataW.Trod enc Try.prog w base spare held 22 v d p) : ∃ (a : Option Addr) (c : Nat) (l : List Sm), v = .slice a l.length c ∧ SmIn w a l c := by
  obtain ⟨a, len, cap, rfl⟩ := okWide_slice Try.underlying22 hv
  obtain ⟨fuel, hf⟩ := h
  obtain ⟨a', c', l', hcs, hF⟩ := flats_cell (ks := [.i64, .i64, .i64, .i64, .i64, .i64, .i32, .i64]) (n := 4) Try.underlying22 (by kernel_rfl) (by kernel_rfl) (by decide) hf
  simp [Value.cells] at hcs
  obtain ⟨rfl, rfl, rfl⟩ := hcs
  obtain ⟨f1, f2, f3, f4⟩ := hF
  have eight : ∀ q : List Value, ∃ x : Sm, AreInts [.i64, .i64, .i64, .i64, .i64, .i64, .i32, .i64] q → q = x.cells ∧ x.okay := eight_ints
  have ⟨f, hff⟩ := Classical.axiomOfChoice eight
  refine ⟨a, cap, l'.map f, by simp, by simpa using f1, f2, fun x hx => ?_, fun k x hx => ?_⟩
  · obtain ⟨q, hq, rfl⟩ := List.mem_map.1 hx
    exact (hff q (f3 q hq)).2
  · obtain ⟨q, hq, rfl⟩ : ∃ q, l'[k]? = some q ∧ f q = x := by simpa using hx
    have hqm := List.mem_of_getElem? hq
    obtain ⟨he, _⟩ := hff q (f3 q hqm)
    rcases f4 with ⟨_, h2, _⟩ | ⟨_, h2⟩ | ⟨bl, off, rfl, hlt, hc⟩
    · rw [h2] at hqm; simp at hqm
    · rw [h2] at hqm; simp at hqm
    · have hc' : ∀ j u, (f q).cells[j]? = some u → w.cell? ⟨bl, off + k * 8 + j, none⟩ = some u := fun j u hu => hc k q hq j u (by rw [he]; exact hu)
      exact ⟨bl, off, rfl, hlt, hc' 0 _ rfl, hc' 1 _ rfl, hc' 2 _ rfl, hc' 3 _ rfl, hc' 4 _ rfl, hc' 5 _ rfl, hc' 6 _ rfl, hc' 7 _ rfl⟩
end Go.Proofs.Ytldjidhdmbeidaa
