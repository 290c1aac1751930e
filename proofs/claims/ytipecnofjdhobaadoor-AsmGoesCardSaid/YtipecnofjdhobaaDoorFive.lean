/- Slices of structs of five integers (instructions, loop steps): how they lie, over any program. -/
import Derived.WalkKit
import Derived.Below
import Derived.OwnWalk
import Derived.Lib.Hide
import Derived.Handy
namespace Go.Proofs.YtipecnofjdhobaaDoor
open Go Go.RowKit
set_option linter.unusedVariables false

/-- five numbers: op, d, a, b, and a number of 32 bits -/
structure Q5 where
  o : Int
  d : Int
  a : Int
  b : Int
  i : Int
deriving DecidableEq

def Q5.cells (x : Q5) : List Value := [.int .i64 x.o, .int .i64 x.d, .int .i64 x.a, .int .i64 x.b, .int .i32 x.i]
def Q5.arr (x : Q5) : Array Value := #[.int .i64 x.o, .int .i64 x.d, .int .i64 x.a, .int .i64 x.b, .int .i32 x.i]
/-- the numbers are such as their kinds have -/
def Q5.wf (x : Q5) : Prop := (Lit.int .i64 x.o).wf = true ∧ (Lit.int .i64 x.d).wf = true ∧ (Lit.int .i64 x.a).wf = true ∧ (Lit.int .i64 x.b).wf = true ∧ (Lit.int .i32 x.i).wf = true
def flat (l : List Q5) : List Value := l.flatMap Q5.cells
theorem flat_nil : flat [] = [] := rfl
theorem flat_cons (x : Q5) (l : List Q5) : flat (x :: l) = x.cells ++ flat l := by simp [flat]
theorem flat_app (l m : List Q5) : flat (l ++ m) = flat l ++ flat m := by simp [flat]
theorem flat_len (l : List Q5) : (flat l).length = l.length * 5 := by
  induction l with
  | nil => rfl
  | cons x l ih => rw [flat_cons, List.length_append, ih]; simp [Q5.cells]; omega
theorem flat_get : ∀ (l : List Q5) (k : Nat) (x : Q5), l[k]? = some x → ∀ j, j < 5 → (flat l)[k * 5 + j]? = x.cells[j]? := by
  intro l
  induction l with
  | nil => intro k x h; simp at h
  | cons y l ih =>
    intro k x h j hj
    rw [flat_cons]
    cases k with
    | zero =>
      obtain rfl : y = x := by simpa using h
      rw [List.getElem?_append_left (by simp [Q5.cells]; omega)]
      congr 1; omega
    | succ k =>
      have h' : l[k]? = some x := by simpa using h
      rw [List.getElem?_append_right (by simp [Q5.cells]; omega)]
      rw [← ih k x h' j hj]
      congr 1
      simp [Q5.cells]; omega
theorem flat_one (l : List Q5) : ∀ u ∈ flat l, u.oneCell' = true := by
  intro u hu
  simp only [flat, List.mem_flatMap] at hu
  obtain ⟨x, _, hx⟩ := hu
  simp [Q5.cells] at hx
  rcases hx with rfl | rfl | rfl | rfl | rfl <;> rfl
theorem flat_take (l : List Q5) (n : Nat) : flat (l.take n) = (flat l).take (n * 5) := by
  induction l generalizing n with
  | nil => simp [flat]
  | cons x l ih =>
    cases n with
    | zero => simp [flat]
    | succ n =>
      rw [List.take_succ_cons, flat_cons, flat_cons, ih, show (n + 1) * 5 = x.cells.length + n * 5 by simp [Q5.cells]; omega, List.take_length_add_append]

/-- a slice of such: where its cells lie -/
def L5 (w : World) (a : Option Addr) (l : List Q5) : Prop :=
  l.length ≤ 1000000000000 ∧ (l = [] ∨ ∃ b off, a = some ⟨b, off, none⟩ ∧ b < w.heap.size ∧ ∀ k x, l[k]? = some x →
    w.cell? ⟨b, off + k * 5, none⟩ = some (.int .i64 x.o) ∧ w.cell? ⟨b, off + k * 5 + 1, none⟩ = some (.int .i64 x.d) ∧ w.cell? ⟨b, off + k * 5 + 2, none⟩ = some (.int .i64 x.a) ∧
    w.cell? ⟨b, off + k * 5 + 3, none⟩ = some (.int .i64 x.b) ∧ w.cell? ⟨b, off + k * 5 + 4, none⟩ = some (.int .i32 x.i))
theorem add_at (b off j : Nat) : (⟨b, off, none⟩ : Addr).add j = ⟨b, off + j, none⟩ := by unfold Addr.add; split <;> simp_all
theorem l5_mk {w : World} {b off : Nat} {l : List Q5} (hlen : l.length ≤ 1000000000000) (hb : b < w.heap.size) (h : ∀ j u, (flat l)[j]? = some u → w.cell? ⟨b, off + j, none⟩ = some u) : L5 w (some ⟨b, off, none⟩) l := by
  refine ⟨hlen, Or.inr ⟨b, off, rfl, hb, fun k x hx => ?_⟩⟩
  have g := flat_get l k x hx
  refine ⟨h (k * 5) _ (by rw [show k * 5 = k * 5 + 0 by omega, g 0 (by omega)]; rfl), ?_, ?_, ?_, ?_⟩
  · have := h (k * 5 + 1) _ (by rw [g 1 (by omega)]; rfl); rw [← Nat.add_assoc] at this; exact this
  · have := h (k * 5 + 2) _ (by rw [g 2 (by omega)]; rfl); rw [← Nat.add_assoc] at this; exact this
  · have := h (k * 5 + 3) _ (by rw [g 3 (by omega)]; rfl); rw [← Nat.add_assoc] at this; exact this
  · have := h (k * 5 + 4) _ (by rw [g 4 (by omega)]; rfl); rw [← Nat.add_assoc] at this; exact this
theorem L5.news {w : World} {b off : Nat} {l : List Q5} (h : L5 w (some ⟨b, off, none⟩) l) : ∀ j u, (flat l)[j]? = some u → w.cell? ((⟨b, off, none⟩ : Addr).add j) = some u := by
  intro j u hj
  rw [add_at]
  obtain ⟨_, rfl | ⟨b', off', e, _, hc⟩⟩ := h
  · simp [flat] at hj
  · obtain ⟨rfl, rfl⟩ : b = b' ∧ off = off' := by simpa using e
    have hlt : j < (flat l).length := by
      rcases Nat.lt_or_ge j (flat l).length with g | g
      · exact g
      · rw [List.getElem?_eq_none g] at hj; cases hj
    rw [flat_len] at hlt
    have hk : j / 5 < l.length := by omega
    obtain ⟨x, hx⟩ : ∃ x, l[j / 5]? = some x := ⟨_, List.getElem?_eq_getElem hk⟩
    have g := flat_get l (j / 5) x hx (j % 5) (by omega)
    rw [show j / 5 * 5 + j % 5 = j by omega, hj] at g
    obtain ⟨c0, c1, c2, c3, c4⟩ := hc _ x hx
    have hm : j % 5 = 0 ∨ j % 5 = 1 ∨ j % 5 = 2 ∨ j % 5 = 3 ∨ j % 5 = 4 := by omega
    rcases hm with e | e | e | e | e <;> rw [e] at g <;> simp [Q5.cells] at g <;> subst g
    · rw [show off + j = off + j / 5 * 5 by omega]; exact c0
    · rw [show off + j = off + j / 5 * 5 + 1 by omega]; exact c1
    · rw [show off + j = off + j / 5 * 5 + 2 by omega]; exact c2
    · rw [show off + j = off + j / 5 * 5 + 3 by omega]; exact c3
    · rw [show off + j = off + j / 5 * 5 + 4 by omega]; exact c4
theorem L5.later {w w' : World} {a : Option Addr} {l : List Q5} (h : L5 w a l) (hb : Below w.heap.size w w') : L5 w' a l := by
  obtain ⟨h1, h | ⟨b, off, rfl, hlt, hc⟩⟩ := h
  · exact ⟨h1, Or.inl h⟩
  · refine ⟨h1, Or.inr ⟨b, off, rfl, Nat.lt_of_lt_of_le hlt hb.size, fun k x hx => ?_⟩⟩
    obtain ⟨c0, c1, c2, c3, c4⟩ := hc k x hx
    exact ⟨(hb.cell hlt).trans c0, (hb.cell hlt).trans c1, (hb.cell hlt).trans c2, (hb.cell hlt).trans c3, (hb.cell hlt).trans c4⟩
theorem L5.empty (w : World) (a : Option Addr) : L5 w a [] := ⟨by simp, Or.inl rfl⟩
/-- a row of the call's own that has these -/
theorem l5_own {w : World} {base : Nat} {e : TypeId} {v : Value} {n : Nat} {l : List Q5} (h : w.ownsRow base e 5 v n (flat l)) (hn : n = l.length) (hl : l.length ≤ 1000000000000) :
    ∃ a c, v = .slice a l.length c ∧ L5 w a l ∧ l.length ≤ c ∧ c ≤ 9223372036854775807 := by
  subst hn
  have hlt := h.lt
  have h' := h
  obtain ⟨_, ⟨hv, hn⟩ | ⟨g, cap, cur, hv, hg, hh, hc, hcm, _⟩⟩ := h
  · have : l = [] := List.eq_nil_of_length_eq_zero hn
    subst this
    exact ⟨none, 0, hv, L5.empty _ _, by simp, by omega⟩
  · refine ⟨some ⟨g, 0, none⟩, cap, hv, l5_mk hl (hlt g (by rw [hv]; rfl)).2 ?_, hc, by simpa [maxLen] using hcm⟩
    intro j u hj
    have := h'.cells (g := g) (by rw [hv]; rfl) j u hj
    rw [add_at] at this
    exact this
/-- one element, laid into a block of its own -/
theorem l5_lit (w : World) (e : TypeId) (l : List Q5) (xs : Array Value) (h : flat l = xs.toList) (H : Nat) (hH : w.heap.size = H) (hl : l.length ≤ 1000000000000) : L5 (w.alloc (.cells xs e)) (some ⟨H, 0, none⟩) l := by
  subst hH
  refine l5_mk hl (by simp) fun j u hj => ?_
  rw [Nat.zero_add, World.cell?_alloc_new]
  rw [h] at hj
  simpa using hj
end Go.Proofs.YtipecnofjdhobaaDoor
