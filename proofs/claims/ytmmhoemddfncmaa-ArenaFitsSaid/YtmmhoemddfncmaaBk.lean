/- Slices of blocks (structs of three integers): how they lie, over any program. -/
import Derived.WalkKit
import Derived.Below
import Derived.OwnWalk
import Derived.Lib.Hide
import Derived.Handy
import Derived.WideShapes
import Derived.ChangeSlices
import Derived.OpenShut
import Derived.Deep.Slices
import Derived.Deep.Fields
namespace Go.Proofs.Ytmmhoemddfncmaa
open Go Go.RowKit Go.ChangeShapes Go.WideShapes Go.Deep
set_option linter.unusedVariables false

/-- a block: its size, from when and up to when it is needed -/
structure Q3 where
  s : Int
  f : Int
  t : Int
deriving DecidableEq, Inhabited

def Q3.cells (x : Q3) : List Value := [.int .i64 x.s, .int .i64 x.f, .int .i64 x.t]
def Q3.wf (x : Q3) : Prop := (Lit.int .i64 x.s).wf = true ∧ (Lit.int .i64 x.f).wf = true ∧ (Lit.int .i64 x.t).wf = true
def flat3 (l : List Q3) : List Value := l.flatMap Q3.cells
theorem flat3_cons (x : Q3) (l : List Q3) : flat3 (x :: l) = x.cells ++ flat3 l := by simp [flat3]
theorem flat3_app (l m : List Q3) : flat3 (l ++ m) = flat3 l ++ flat3 m := by simp [flat3]
theorem flat3_len (l : List Q3) : (flat3 l).length = l.length * 3 := by
  induction l with
  | nil => rfl
  | cons x l ih => rw [flat3_cons, List.length_append, ih]; simp [Q3.cells]; omega
theorem flat3_get : ∀ (l : List Q3) (k : Nat) (x : Q3), l[k]? = some x → ∀ j, j < 3 → (flat3 l)[k * 3 + j]? = x.cells[j]? := by
  intro l
  induction l with
  | nil => intro k x h; simp at h
  | cons y l ih =>
    intro k x h j hj
    rw [flat3_cons]
    cases k with
    | zero =>
      obtain rfl : y = x := by simpa using h
      rw [List.getElem?_append_left (by simp [Q3.cells]; omega)]
      congr 1; omega
    | succ k =>
      have h' : l[k]? = some x := by simpa using h
      rw [List.getElem?_append_right (by simp [Q3.cells]; omega)]
      rw [← ih k x h' j hj]
      congr 1
      simp [Q3.cells]; omega
theorem flat3_one (l : List Q3) : ∀ u ∈ flat3 l, u.oneCell' = true := by
  intro u hu
  simp only [flat3, List.mem_flatMap] at hu
  obtain ⟨x, _, hx⟩ := hu
  simp [Q3.cells] at hx
  rcases hx with rfl | rfl | rfl <;> rfl
theorem flat3_take (l : List Q3) (n : Nat) : flat3 (l.take n) = (flat3 l).take (n * 3) := by
  induction l generalizing n with
  | nil => simp [flat3]
  | cons x l ih =>
    cases n with
    | zero => simp [flat3]
    | succ n =>
      rw [List.take_succ_cons, flat3_cons, flat3_cons, ih, show (n + 1) * 3 = x.cells.length + n * 3 by simp [Q3.cells]; omega, List.take_length_add_append]
theorem add_at (b off j : Nat) : (⟨b, off, none⟩ : Addr).add j = ⟨b, off + j, none⟩ := by unfold Addr.add; split <;> simp_all
/-- a slice of such: where its cells lie -/
def B3 (w : World) (a : Option Addr) (l : List Q3) : Prop :=
  l.length ≤ 1000000000000 ∧ (l = [] ∨ ∃ b off, a = some ⟨b, off, none⟩ ∧ b < w.heap.size ∧ ∀ k x, l[k]? = some x →
    w.cell? ⟨b, off + k * 3, none⟩ = some (.int .i64 x.s) ∧ w.cell? ⟨b, off + k * 3 + 1, none⟩ = some (.int .i64 x.f) ∧ w.cell? ⟨b, off + k * 3 + 2, none⟩ = some (.int .i64 x.t))
theorem b3_mk {w : World} {b off : Nat} {l : List Q3} (hlen : l.length ≤ 1000000000000) (hb : b < w.heap.size) (h : ∀ j u, (flat3 l)[j]? = some u → w.cell? ⟨b, off + j, none⟩ = some u) : B3 w (some ⟨b, off, none⟩) l := by
  refine ⟨hlen, Or.inr ⟨b, off, rfl, hb, fun k x hx => ?_⟩⟩
  have g := flat3_get l k x hx
  refine ⟨h (k * 3) _ (by rw [show k * 3 = k * 3 + 0 by omega, g 0 (by omega)]; rfl), ?_, ?_⟩
  · have := h (k * 3 + 1) _ (by rw [g 1 (by omega)]; rfl); rw [← Nat.add_assoc] at this; exact this
  · have := h (k * 3 + 2) _ (by rw [g 2 (by omega)]; rfl); rw [← Nat.add_assoc] at this; exact this
theorem B3.news {w : World} {b off : Nat} {l : List Q3} (h : B3 w (some ⟨b, off, none⟩) l) : ∀ j u, (flat3 l)[j]? = some u → w.cell? ((⟨b, off, none⟩ : Addr).add j) = some u := by
  intro j u hj
  rw [add_at]
  obtain ⟨_, rfl | ⟨b', off', e, _, hc⟩⟩ := h
  · simp [flat3] at hj
  · obtain ⟨rfl, rfl⟩ : b = b' ∧ off = off' := by simpa using e
    have hlt : j < (flat3 l).length := by
      rcases Nat.lt_or_ge j (flat3 l).length with g | g
      · exact g
      · rw [List.getElem?_eq_none g] at hj; cases hj
    rw [flat3_len] at hlt
    have hk : j / 3 < l.length := by omega
    obtain ⟨x, hx⟩ : ∃ x, l[j / 3]? = some x := ⟨_, List.getElem?_eq_getElem hk⟩
    have g := flat3_get l (j / 3) x hx (j % 3) (by omega)
    rw [show j / 3 * 3 + j % 3 = j by omega, hj] at g
    obtain ⟨c0, c1, c2⟩ := hc _ x hx
    have hm : j % 3 = 0 ∨ j % 3 = 1 ∨ j % 3 = 2 := by omega
    rcases hm with e | e | e <;> rw [e] at g <;> simp [Q3.cells] at g <;> subst g
    · rw [show off + j = off + j / 3 * 3 by omega]; exact c0
    · rw [show off + j = off + j / 3 * 3 + 1 by omega]; exact c1
    · rw [show off + j = off + j / 3 * 3 + 2 by omega]; exact c2
theorem B3.later {w w' : World} {a : Option Addr} {l : List Q3} (h : B3 w a l) (hb : Below w.heap.size w w') : B3 w' a l := by
  obtain ⟨h1, h | ⟨b, off, rfl, hlt, hc⟩⟩ := h
  · exact ⟨h1, Or.inl h⟩
  · refine ⟨h1, Or.inr ⟨b, off, rfl, Nat.lt_of_lt_of_le hlt hb.size, fun k x hx => ?_⟩⟩
    obtain ⟨c0, c1, c2⟩ := hc k x hx
    exact ⟨(hb.cell hlt).trans c0, (hb.cell hlt).trans c1, (hb.cell hlt).trans c2⟩
theorem B3.empty (w : World) (a : Option Addr) : B3 w a [] := ⟨by simp, Or.inl rfl⟩
/-- a row of the call's own that has these -/
theorem b3_own {w : World} {base : Nat} {e : TypeId} {v : Value} {n : Nat} {l : List Q3} (h : w.ownsRow base e 3 v n (flat3 l)) (hn : n = l.length) (hl : l.length ≤ 1000000000000) :
    ∃ a c, v = .slice a l.length c ∧ B3 w a l ∧ l.length ≤ c ∧ c ≤ 9223372036854775807 := by
  subst hn
  have hlt := h.lt
  have h' := h
  obtain ⟨_, ⟨hv, hn⟩ | ⟨g, cap, cur, hv, hg, hh, hc, hcm, _⟩⟩ := h
  · have : l = [] := List.eq_nil_of_length_eq_zero hn
    subst this
    exact ⟨none, 0, hv, B3.empty _ _, by simp, by omega⟩
  · refine ⟨some ⟨g, 0, none⟩, cap, hv, b3_mk hl (hlt g (by rw [hv]; rfl)).2 ?_, hc, by simpa [maxLen] using hcm⟩
    intro j u hj
    have := h'.cells (g := g) (by rw [hv]; rfl) j u hj
    rw [add_at] at this
    exact this
/-- laid into a block of its own -/
theorem b3_lit (w : World) (e : TypeId) (l : List Q3) (xs : Array Value) (h : flat3 l = xs.toList) (H : Nat) (hH : w.heap.size = H) (hl : l.length ≤ 1000000000000) : B3 (w.alloc (.cells xs e)) (some ⟨H, 0, none⟩) l := by
  subst hH
  refine b3_mk hl (by simp) fun j u hj => ?_
  rw [Nat.zero_add, World.cell?_alloc_new]
  rw [h] at hj
  simpa using hj

/-- a slice of such that came in, with its spare room -/
def B3In (w : World) (a : Option Addr) (l : List Q3) (c : Nat) : Prop :=
  l.length ≤ c ∧ c ≤ 9223372036854775807 ∧ (∀ x ∈ l, x.wf) ∧
  ((a = none ∧ l = [] ∧ c = 0) ∨ ((∃ x, a = some x) ∧ l = []) ∨ ∃ b off, a = some ⟨b, off, none⟩ ∧ b < w.heap.size ∧ ∀ j u, (flat3 l)[j]? = some u → w.cell? ⟨b, off + j, none⟩ = some u)
theorem B3In.later {w w' : World} {a : Option Addr} {l : List Q3} {c : Nat} (h : B3In w a l c) (hb : Below w.heap.size w w') : B3In w' a l c := by
  obtain ⟨h2, h3, h4, h | h | ⟨b, off, rfl, hlt, hc⟩⟩ := h
  · exact ⟨h2, h3, h4, Or.inl h⟩
  · exact ⟨h2, h3, h4, Or.inr (Or.inl h)⟩
  · exact ⟨h2, h3, h4, Or.inr (Or.inr ⟨b, off, rfl, Nat.lt_of_lt_of_le hlt hb.size, fun j u hj => (hb.cell hlt).trans (hc j u hj)⟩)⟩
/-- one struct's three cells, as numbers -/
theorem three_of {H : Type} {enc : TypeId × Value → H} {P : Program} {w : World} {base : Nat} {spare : Nat → Bool} {held : Bool} {e : TypeId} {fs : Array Field} {n : Nat} {cs : List Value} {y : DataW H × List MemPlace}
    (he : P.underlying e = some (.struct fs)) (hC : P.cellsOf e = 3) (hsz : fs.size = 3) (hone : oneCellFields P fs = true) (hk : ∀ (j : Nat) (f : Field), fs[j]? = some f → P.underlying f.type = some (.int .i64))
    (h : DataW.trod enc P w base spare held n e cs = some y) : ∃ q : Q3, q.wf ∧ cs = q.cells := by
  obtain ⟨xs, n', _, _, hlen, hxl, hf⟩ := DataW.trod_struct he h
  have each : ∀ j, j < 3 → ∃ z, cs[j]? = some (.int .i64 z) ∧ (Lit.int .i64 z).wf = true := by
    intro j hj
    have hfj : fs[j]? = some (fs[j]'(by omega)) := Array.getElem?_eq_getElem _
    obtain ⟨ho, hc1⟩ := hone_of hone j _ hfj
    have h1 := hf j _ hfj
    rw [ho, hc1] at h1
    have hxj : xs[j]? = some (xs[j]'(by omega)) := List.getElem?_eq_getElem _
    obtain ⟨z, hz, _, hw⟩ := DataW.trod_int (hk j _ hfj) (h1.trans hxj)
    refine ⟨z, ?_, hw⟩
    have : ((cs.drop j).take 1)[0]? = some (.int .i64 z) := by rw [hz]; rfl
    simpa using this
  obtain ⟨z0, c0, w0⟩ := each 0 (by omega)
  obtain ⟨z1, c1, w1⟩ := each 1 (by omega)
  obtain ⟨z2, c2, w2⟩ := each 2 (by omega)
  refine ⟨⟨z0, z1, z2⟩, ⟨w0, w1, w2⟩, ?_⟩
  rw [hC] at hlen
  match cs, hlen, c0, c1, c2 with
  | [v0, v1, v2], _, c0, c1, c2 =>
    simp at c0 c1 c2
    subst c0 c1 c2
    rfl
theorem blocks_in {H : Type} {enc : TypeId × Value → H} {P : Program} {w : World} {r : Reach} {b base : Nat} {spare : Nat → Bool} {held : Bool} {t e : TypeId} {v : Value} {d : DataW H} {p : List MemPlace} {fs : Array Field}
    (ht : P.underlying t = some (.slice e)) (he : P.underlying e = some (.struct fs)) (hC : P.cellsOf e = 3) (hsz : fs.size = 3) (hone : oneCellFields P fs = true) (hk : ∀ (j : Nat) (f : Field), fs[j]? = some f → P.underlying f.type = some (.int .i64))
    (hv : Value.okWide P w r b t v) (h : DataW.Trod enc P w base spare held t v d p) :
    ∃ (a : Option Addr) (c : Nat) (l : List Q3), v = .slice a l.length c ∧ B3In w a l c := by
  obtain ⟨a, len, cap, rfl⟩ := okWide_slice ht hv
  obtain ⟨fuel, hf⟩ := h
  rcases Go.Deep.open_slice ht hf with ⟨hcs, _⟩ | ⟨x, len', cap', m, n, D, Pl, hcs, _, hl, hm, hmm, _, hi⟩
  · simp [Value.cells] at hcs
    obtain ⟨rfl, rfl, rfl⟩ := hcs
    exact ⟨none, 0, [], rfl, by simp, by omega, by simp, Or.inl ⟨rfl, rfl, rfl⟩⟩
  · simp [Value.cells] at hcs
    obtain ⟨rfl, rfl, rfl⟩ := hcs
    have hlm : len ≤ m := by rw [hmm]; split <;> omega
    have each : ∀ i, ∃ q : Q3, i < len → q.wf ∧ ∀ j, j < 3 → w.cell? (x.add (i * 3 + j)) = q.cells[j]? := by
      intro i
      by_cases hlt : i < len
      · obtain ⟨cs', hc, hd⟩ := hi i (by omega)
        rw [hC] at hc
        obtain ⟨q, hw, rfl⟩ := three_of he hC hsz hone hk hd
        obtain ⟨_, _, hat⟩ := World.cells?_some hc
        exact ⟨q, fun _ => ⟨hw, fun j hj => by rw [← Go.Deep.add_add]; exact hat j hj⟩⟩
      · exact ⟨⟨0, 0, 0⟩, fun h => absurd h hlt⟩
    have ⟨f, hff⟩ := Classical.axiomOfChoice each
    refine ⟨some x, cap, (List.range len).map f, by simp, by simpa using hl, by simpa [maxLen] using hm, ?_, ?_⟩
    · intro q hq
      simp only [List.mem_map, List.mem_range] at hq
      obtain ⟨i, hlt, rfl⟩ := hq
      exact (hff i hlt).1
    · by_cases h0 : len = 0
      · subst h0
        exact Or.inr (Or.inl ⟨⟨x, rfl⟩, by simp⟩)
      · obtain ⟨bl, off, spot⟩ := x
        have c0 := (hff 0 (by omega)).2 0 (by omega)
        have c0' : w.cell? ((⟨bl, off, spot⟩ : Addr).add 0) = some (.int .i64 (f 0).s) := by simpa [Q3.cells] using c0
        have hspot : spot = none := by simpa [Addr.add] using World.cell?_spot c0'
        subst hspot
        have hb := block_lt_of_cell c0'
        refine Or.inr (Or.inr ⟨bl, off, rfl, by simpa [Addr.add] using hb, ?_⟩)
        intro j u hj
        have hjl : j < ((List.range len).map f).length * 3 := by
          rcases Nat.lt_or_ge j (((List.range len).map f).length * 3) with g | g
          · exact g
          · rw [List.getElem?_eq_none (by rw [flat3_len]; exact g)] at hj; cases hj
        simp only [List.length_map, List.length_range] at hjl
        have hk5 : j / 3 < len := by omega
        have g := flat3_get ((List.range len).map f) (j / 3) (f (j / 3)) (by simp [hk5]) (j % 3) (by omega)
        rw [show j / 3 * 3 + j % 3 = j by omega, hj] at g
        have ck := (hff (j / 3) hk5).2 (j % 3) (by omega)
        rw [show j / 3 * 3 + j % 3 = j by omega, ← g] at ck
        rw [← add_at]
        exact ck
end Go.Proofs.Ytmmhoemddfncmaa
