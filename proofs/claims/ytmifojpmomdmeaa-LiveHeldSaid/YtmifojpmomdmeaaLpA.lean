/- Slices of lives: as they come in, and rows of one's own. -/
import Derived.Test.YtmifojpmomdmeaaLvT
namespace Go.Proofs.Ytmifojpmomdmeaa
open Go Go.RowKit Go.Maps Go.ChangeShapes Go.WideShapes Go.ChangeAt
set_option linter.unusedVariables false
set_option linter.unusedSimpArgs false
set_option maxRecDepth 100000

def Lg.cells (x : Lg) : List Value := [.int .i64 x.v, .int .i64 x.b, .int .i64 x.s, .int .i64 x.f, .int .i64 x.t]
def lgV (l : List Lg) : List Value := l.flatMap Lg.cells
theorem lgV_len (ls : List Lg) : (lgV ls).length = ls.length * 5 := by
  induction ls with
  | nil => rfl
  | cons x r ih =>
    show (x.cells ++ lgV r).length = _
    rw [List.length_append, ih]
    simp [Lg.cells]
    omega
theorem lgV_at : ∀ (ls : List Lg) (k : Nat) (x : Lg), ls[k]? = some x → ∀ j u, x.cells[j]? = some u → (lgV ls)[k * 5 + j]? = some u
  | [], k, x, h, _, _, _ => by simp at h
  | y :: r, 0, x, h, j, u, hu => by
    obtain rfl : y = x := by simpa using h
    have hj : j < y.cells.length := (List.getElem?_eq_some_iff.1 hu).1
    show (y.cells ++ lgV r)[0 * 5 + j]? = _
    rw [Nat.zero_mul, Nat.zero_add, List.getElem?_append_left hj, hu]
  | y :: r, k + 1, x, h, j, u, hu => by
    show (y.cells ++ lgV r)[(k + 1) * 5 + j]? = _
    rw [List.getElem?_append_right (by simp [Lg.cells]; omega)]
    have := lgV_at r k x (by simpa using h) j u hu
    rw [show (k + 1) * 5 + j - y.cells.length = k * 5 + j by simp [Lg.cells]; omega]
    exact this
theorem own_lgA {w : World} {B : Nat} {v : Value} {ls : List Lg} (h : w.ownsRow B 38 5 v ls.length (lgV ls)) : ∃ a c, v = .slice a ls.length c ∧ c ≤ 9223372036854775807 ∧ LgAt w a ls := by
  have h' := h
  obtain ⟨h1, ⟨rfl, h2⟩ | ⟨g, c, cur, rfl, hb, hg, hc, hm, hs, ht⟩⟩ := h
  · refine ⟨none, 0, by rw [h2], by omega, fun k x hx => ?_⟩
    rw [List.eq_nil_of_length_eq_zero h2] at hx
    simp at hx
  · refine ⟨_, c, rfl, hm, fun k x hx => ?_⟩
    have hk := (List.getElem?_eq_some_iff.1 hx).1
    have ha : ∀ j u, x.cells[j]? = some u → w.cell? ⟨g, 0 + k * 5 + j, none⟩ = some u := fun j u hu => by
      have hj : j < x.cells.length := (List.getElem?_eq_some_iff.1 hu).1
      have hj5 : j < 5 := by simpa [Lg.cells] using hj
      rw [Nat.zero_add, h'.cellAt (k * 5 + j) (by omega)]
      exact lgV_at ls k x hx j u hu
    exact ⟨g, 0, rfl, (Array.getElem?_eq_some_iff.1 hg).1, ha 0 _ rfl, ha 1 _ rfl, ha 2 _ rfl, ha 3 _ rfl, ha 4 _ rfl⟩
/-- the cells of lives that lie in a block, one behind the other -/
theorem LgAt.news {w : World} {a : Option Addr} {l : List Lg} (h : LgAt w a l) (hl : 0 < l.length) : ∃ g off, a = some ⟨g, off, none⟩ ∧ g < w.heap.size ∧ ∀ j u, (lgV l)[j]? = some u → w.cell? ((⟨g, off, none⟩ : Addr).add j) = some u := by
  obtain ⟨x0, hx0⟩ : ∃ x, l[0]? = some x := ⟨_, List.getElem?_eq_getElem hl⟩
  obtain ⟨g, off, h0, h1, _⟩ := h 0 x0 hx0
  refine ⟨g, off, h0, h1, fun j u hu => ?_⟩
  have hj : j < l.length * 5 := by
    rw [← lgV_len]
    exact (List.getElem?_eq_some_iff.1 hu).1
  obtain ⟨x, hx⟩ : ∃ x, l[j / 5]? = some x := ⟨_, List.getElem?_eq_getElem (by omega)⟩
  obtain ⟨g', off', h2, _, c0, c1, c2, c3, c4⟩ := h (j / 5) x hx
  rw [h0] at h2
  injection h2 with h2; injection h2 with h3 h4; subst h3 h4
  have e1 : (⟨g, off, none⟩ : Addr).add j = ⟨g, off + j, none⟩ := by unfold Addr.add; split <;> simp_all
  rw [e1]
  have hm : j % 5 < 5 := Nat.mod_lt _ (by decide)
  have key : ∀ r, j % 5 = r → ∀ v, x.cells[r]? = some v → u = v := fun r hr v hv => by
    have := lgV_at l (j / 5) x hx r v hv
    rw [show j / 5 * 5 + r = j by omega, hu] at this
    injection this
  rcases (show j % 5 = 0 ∨ j % 5 = 1 ∨ j % 5 = 2 ∨ j % 5 = 3 ∨ j % 5 = 4 by omega) with e | e | e | e | e
  · rw [key 0 e _ rfl, ← c0, show off + j / 5 * 5 = off + j by omega]
  · rw [key 1 e _ rfl, ← c1, show off + j / 5 * 5 + 1 = off + j by omega]
  · rw [key 2 e _ rfl, ← c2, show off + j / 5 * 5 + 2 = off + j by omega]
  · rw [key 3 e _ rfl, ← c3, show off + j / 5 * 5 + 3 = off + j by omega]
  · rw [key 4 e _ rfl, ← c4, show off + j / 5 * 5 + 4 = off + j by omega]
theorem LgAt.take {w : World} {a : Option Addr} {l : List Lg} (h : LgAt w a l) (n : Nat) : LgAt w a (l.take n) := fun k x hx => by
  by_cases e : k < n
  · rw [List.getElem?_take_of_lt e] at hx; exact h k x hx
  · rw [List.getElem?_eq_none (by simp; omega)] at hx; simp at hx
structure LgIn (w : World) (a : Option Addr) (l : List Lg) (c : Nat) : Prop where
  len : l.length ≤ c
  cap : c ≤ 9223372036854775807
  ok : ∀ x ∈ l, x.okay
  cells : LgAt w a l
theorem five_ints (q : List Value) : ∃ x : Lg, AreInts [.i64, .i64, .i64, .i64, .i64] q → q = x.cells ∧ x.okay := by
  by_cases hq : AreInts [.i64, .i64, .i64, .i64, .i64] q
  · have hl : q.length = 5 := areInts_len hq
    rcases q with _ | ⟨v0, _ | ⟨v1, _ | ⟨v2, _ | ⟨v3, _ | ⟨v4, _ | ⟨v5, r⟩⟩⟩⟩⟩⟩ <;> simp at hl
    obtain ⟨⟨x0, h0, w0⟩, ⟨x1, h1, w1⟩, ⟨x2, h2, w2⟩, ⟨x3, h3, w3⟩, ⟨x4, h4, w4⟩, _⟩ := hq
    subst h0 h1 h2 h3 h4
    exact ⟨⟨x0, x1, x2, x3, x4⟩, fun _ => ⟨rfl, of_wf64 w0, of_wf64 w1, of_wf64 w2, of_wf64 w3, of_wf64 w4⟩⟩
  · exact ⟨⟨0, 0, 0, 0, 0⟩, fun h => absurd h hq⟩
theorem life_in {H : Type} {enc : TypeId × Value → H} {w : World} {r : Reach} {b base : Nat} {spare : Nat → Bool} {held : Bool} {v : Value} {d : DataW H} {p : List MemPlace}
    (hv : Value.okWide Try.prog w r b 28 v) (h : DataW.Trod enc Try.prog w base spare held 28 v d p) : ∃ (a : Option Addr) (c : Nat) (l : List Lg), v = .slice a l.length c ∧ LgIn w a l c := by
  obtain ⟨a, len, cap, rfl⟩ := okWide_slice Try.underlying28 hv
  obtain ⟨fuel, hf⟩ := h
  obtain ⟨a', c', l', hcs, hF⟩ := flats_cell (ks := [.i64, .i64, .i64, .i64, .i64]) (n := 2) Try.underlying28 (by kernel_rfl) (by kernel_rfl) (by decide) hf
  simp [Value.cells] at hcs
  obtain ⟨rfl, rfl, rfl⟩ := hcs
  obtain ⟨f1, f2, f3, f4⟩ := hF
  have five : ∀ q : List Value, ∃ x : Lg, AreInts [.i64, .i64, .i64, .i64, .i64] q → q = x.cells ∧ x.okay := five_ints
  have ⟨f, hff⟩ := Classical.axiomOfChoice five
  refine ⟨a, cap, l'.map f, by simp, by simpa using f1, f2, fun x hx => ?_, fun k x hx => ?_⟩
  · obtain ⟨q, hq, rfl⟩ := List.mem_map.1 hx
    exact (hff q (f3 q hq)).2
  · obtain ⟨q, hq, rfl⟩ : ∃ q, l'[k]? = some q ∧ f q = x := by simpa using hx
    have hqm := List.mem_of_getElem? hq
    obtain ⟨he, _⟩ := hff q (f3 q hqm)
    rcases f4 with ⟨_, h2, _⟩ | ⟨_, h2⟩ | ⟨bl, off, rfl, hlt, hc⟩
    · rw [h2] at hqm; simp at hqm
    · rw [h2] at hqm; simp at hqm
    · have hc' : ∀ j u, (f q).cells[j]? = some u → w.cell? ⟨bl, off + k * 5 + j, none⟩ = some u := fun j u hu => hc k q hq j u (by rw [he]; exact hu)
      exact ⟨bl, off, rfl, hlt, hc' 0 _ rfl, hc' 1 _ rfl, hc' 2 _ rfl, hc' 3 _ rfl, hc' 4 _ rfl⟩
end Go.Proofs.Ytmifojpmomdmeaa
