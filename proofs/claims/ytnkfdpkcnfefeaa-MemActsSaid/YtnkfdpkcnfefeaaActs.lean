/- A slice of structs of four integers and a slice of bytes that came in: over any program. -/
import Derived.ProofKit
import Derived.WideShapes
import Derived.ChangeSlices
import Derived.OpenShut
import Derived.Deep.Slices
import Derived.Deep.Fields
namespace Go.Proofs.Ytnkfdpkcnfefeaa
open Go Go.RowKit Go.ChangeShapes Go.WideShapes Go.Deep
set_option linter.unusedVariables false

/-- a slice of bytes, with its spare room -/
def BytesIn (w : World) (a : Option Addr) (l : List Nat) (c : Nat) : Prop :=
  (∀ x ∈ l, x < 256) ∧ l.length ≤ c ∧ c ≤ 9223372036854775807 ∧
  ((a = none ∧ l = [] ∧ c = 0) ∨ ((∃ x, a = some x) ∧ l = []) ∨ ∃ b off, a = some ⟨b, off, none⟩ ∧ b < w.heap.size ∧ ∀ k, k < l.length → w.cell? ⟨b, off + k, none⟩ = some (.int .u8 (l.getD k 0 : Nat)))
theorem BytesIn.later {w w' : World} {a : Option Addr} {l : List Nat} {c : Nat} (h : BytesIn w a l c) (hb : Below w.heap.size w w') : BytesIn w' a l c := by
  obtain ⟨h1, h2, h3, h | h | ⟨b, off, rfl, hlt, hc⟩⟩ := h
  · exact ⟨h1, h2, h3, Or.inl h⟩
  · exact ⟨h1, h2, h3, Or.inr (Or.inl h)⟩
  · exact ⟨h1, h2, h3, Or.inr (Or.inr ⟨b, off, rfl, Nat.lt_of_lt_of_le hlt hb.size, fun k hk => (hb.cell hlt).trans (hc k hk)⟩)⟩
/-- a slice of bytes that came in, as a cell -/
theorem bytes_cell {H : Type} {enc : TypeId × Value → H} {P : Program} {w : World} {base : Nat} {spare : Nat → Bool} {held : Bool} {t e : TypeId} {fuel : Nat} {cs : List Value} {y : DataW H × List MemPlace}
    (ht : P.underlying t = some (.slice e)) (he : P.underlying e = some (.int .u8)) (hc : P.cellsOf e = 1) (hf : DataW.trod enc P w base spare held fuel t cs = some y) :
    ∃ (a : Option Addr) (c : Nat) (l : List Nat), cs = [.slice a l.length c] ∧ BytesIn w a l c := by
  rcases open_ints ht he hc hf with ⟨hcs, _⟩ | ⟨x, len, cap, zs, hcs, _, hl, hm, hz, _, hcell, hwz⟩
  · exact ⟨none, 0, [], hcs, by simp, by simp, by omega, Or.inl ⟨rfl, rfl, rfl⟩⟩
  · have hlen : len ≤ zs.length := by rw [hz]; split <;> omega
    have l1 : ((zs.take len).map Int.toNat).length = len := by simp; omega
    have pos : ∀ z ∈ zs, 0 ≤ z ∧ z < 256 := by
      intro z hz
      have : 0 ≤ z ∧ z ≤ 255 := by simpa [Lit.wf, IntKind.min, IntKind.max, IntKind.signed, IntKind.bits] using hwz z hz
      omega
    refine ⟨some x, cap, (zs.take len).map Int.toNat, by rw [l1]; exact hcs, ?_, by rw [l1]; exact hl, by simpa [maxLen] using hm, ?_⟩
    · intro n hn
      simp only [List.mem_map] at hn
      obtain ⟨z, hz, rfl⟩ := hn
      have := pos z (List.mem_of_mem_take hz)
      omega
    · by_cases h0 : len = 0
      · subst h0
        exact Or.inr (Or.inl ⟨⟨x, rfl⟩, by simp⟩)
      · obtain ⟨bl, off, spot⟩ := x
        have c0 := hcell 0 (by omega)
        have hspot : spot = none := by simpa [Addr.add] using World.cell?_spot c0
        subst hspot
        have hb := block_lt_of_cell c0
        refine Or.inr (Or.inr ⟨bl, off, rfl, by simpa [Addr.add] using hb, ?_⟩)
        intro k hk
        rw [l1] at hk
        have ck := hcell k (by omega)
        have e1 : (⟨bl, off, none⟩ : Addr).add k = ⟨bl, off + k, none⟩ := by unfold Addr.add; split <;> simp_all
        rw [e1] at ck
        rw [ck]
        have hm : zs.getD k 0 ∈ zs := by
          simp only [List.getD, List.getElem?_eq_getElem (show k < zs.length by omega), Option.getD_some]
          exact List.getElem_mem _
        have hp := pos _ hm
        have e2 : ((zs.take len).map Int.toNat).getD k 0 = (zs.getD k 0).toNat := by
          simp [List.getD, hk, List.getElem?_eq_getElem (show k < zs.length by omega)]
        rw [e2]
        congr 2
        omega
def actK (j : Nat) : IntKind := if j < 2 then .i64 else .u32
structure ActQ where
  k : Int
  s : Int
  a : Int
  u : Int
  x : Option Addr
  c : Nat
  bs : List Nat
def ActQ.cells (q : ActQ) : List Value := [.int .i64 q.k, .int .i64 q.s, .int .u32 q.a, .int .u32 q.u, .slice q.x q.bs.length q.c]
def ActQ.ok (w : World) (q : ActQ) : Prop := (Lit.int .i64 q.k).wf = true ∧ (Lit.int .i64 q.s).wf = true ∧ (Lit.int .u32 q.a).wf = true ∧ (Lit.int .u32 q.u).wf = true ∧ BytesIn w q.x q.bs q.c
theorem act_one {H : Type} {enc : TypeId × Value → H} {P : Program} {w : World} {base : Nat} {spare : Nat → Bool} {held : Bool} {t : TypeId} {fs : Array Field} {fuel : Nat} {l : List Value} {y : DataW H × List MemPlace}
    (hs : P.underlying t = some (.struct fs)) (hC : P.cellsOf t = 5) (hsz : fs.size = 5) (hone : oneCellFields P fs = true) (hk : ∀ j f, j < 4 → fs[j]? = some f → P.underlying f.type = some (.int (actK j)))
    (h4 : ∀ f, fs[4]? = some f → ∃ e, P.underlying f.type = some (.slice e) ∧ P.underlying e = some (.int .u8) ∧ P.cellsOf e = 1) (hf : DataW.trod enc P w base spare held fuel t l = some y) :
    ∃ q : ActQ, q.ok w ∧ l = q.cells := by
  obtain ⟨xs, n', _, _, hlen, hxl, hg⟩ := DataW.trod_struct hs hf
  have one : ∀ j, j < 5 → ∃ f y, fs[j]? = some f ∧ DataW.trod enc P w base spare held n' f.type ((l.drop j).take 1) = some y := by
    intro j hj
    have hfj : fs[j]? = some (fs[j]'(by omega)) := Array.getElem?_eq_getElem _
    obtain ⟨ho, hc1⟩ := hone_of hone j _ hfj
    have h1 := hg j _ hfj
    rw [ho, hc1] at h1
    exact ⟨_, _, hfj, h1.trans (List.getElem?_eq_getElem (by omega))⟩
  have each : ∀ j, j < 4 → ∃ z, (l.drop j).take 1 = [.int (actK j) z] ∧ (Lit.int (actK j) z).wf = true := by
    intro j hj
    obtain ⟨f, y, hfj, hy⟩ := one j (by omega)
    obtain ⟨z, hz, _, hw⟩ := DataW.trod_int (hk j f hj hfj) hy
    exact ⟨z, hz, hw⟩
  have last : ∃ x c bs, (l.drop 4).take 1 = [.slice x bs.length c] ∧ BytesIn w x bs c := by
    obtain ⟨f, y, hfj, hy⟩ := one 4 (by omega)
    obtain ⟨e, he, he2, he3⟩ := h4 f hfj
    exact bytes_cell he he2 he3 hy
  obtain ⟨z0, e0, w0⟩ := each 0 (by omega)
  obtain ⟨z1, e1, w1⟩ := each 1 (by omega)
  obtain ⟨z2, e2, w2⟩ := each 2 (by omega)
  obtain ⟨z3, e3, w3⟩ := each 3 (by omega)
  obtain ⟨x, c, bs, e4, hb⟩ := last
  rw [hC] at hlen
  refine ⟨⟨z0, z1, z2, z3, x, c, bs⟩, ⟨w0, w1, w2, w3, hb⟩, ?_⟩
  match l, hlen, e0, e1, e2, e3, e4 with
  | [v0, v1, v2, v3, v4], _, e0, e1, e2, e3, e4 =>
    simp [actK] at e0 e1 e2 e3 e4
    subst e0 e1 e2 e3 e4
    rfl
/-- a slice of such structs -/
def ActsIn (w : World) (a : Option Addr) (l : List ActQ) (c : Nat) : Prop :=
  l.length ≤ c ∧ c ≤ 9223372036854775807 ∧ (∀ q ∈ l, q.ok w) ∧
  (l = [] ∨ ∃ b off, a = some ⟨b, off, none⟩ ∧ b < w.heap.size ∧ ∀ i q, l[i]? = some q → ∀ j u, q.cells[j]? = some u → w.cell? ⟨b, off + (i * 5 + j), none⟩ = some u)
theorem acts_in {H : Type} {enc : TypeId × Value → H} {P : Program} {w : World} {r : Reach} {b base : Nat} {spare : Nat → Bool} {held : Bool} {t e : TypeId} {v : Value} {d : DataW H} {p : List MemPlace} {fs : Array Field}
    (ht : P.underlying t = some (.slice e)) (hs : P.underlying e = some (.struct fs)) (hC : P.cellsOf e = 5) (hsz : fs.size = 5) (hone : oneCellFields P fs = true) (hk : ∀ j f, j < 4 → fs[j]? = some f → P.underlying f.type = some (.int (actK j)))
    (h4 : ∀ f, fs[4]? = some f → ∃ e, P.underlying f.type = some (.slice e) ∧ P.underlying e = some (.int .u8) ∧ P.cellsOf e = 1)
    (hv : Value.okWide P w r b t v) (h : DataW.Trod enc P w base spare held t v d p) :
    ∃ (a : Option Addr) (c : Nat) (l : List ActQ), v = .slice a l.length c ∧ ActsIn w a l c := by
  obtain ⟨a, len, cap, rfl⟩ := okWide_slice ht hv
  obtain ⟨fuel, hf⟩ := h
  rcases Go.Deep.open_slice ht hf with ⟨hcs, _⟩ | ⟨x, len', cap', m, n, D, Pl, hcs, _, hl, hm, hmm, _, hi⟩
  · simp [Value.cells] at hcs
    obtain ⟨rfl, rfl, rfl⟩ := hcs
    exact ⟨none, 0, [], rfl, by simp, by omega, by simp, Or.inl rfl⟩
  · simp [Value.cells] at hcs
    obtain ⟨rfl, rfl, rfl⟩ := hcs
    have hlm : len ≤ m := by rw [hmm]; split <;> omega
    have each : ∀ i, ∃ q : ActQ, i < len → q.ok w ∧ ∀ j, j < 5 → w.cell? (x.add (i * 5 + j)) = q.cells[j]? := by
      intro i
      by_cases hlt : i < len
      · obtain ⟨cs', hc, hd⟩ := hi i (by omega)
        rw [hC] at hc
        obtain ⟨q, hw, rfl⟩ := act_one hs hC hsz hone hk h4 hd
        obtain ⟨_, _, hat⟩ := World.cells?_some hc
        exact ⟨q, fun _ => ⟨hw, fun j hj => by rw [← Go.Deep.add_add]; exact hat j hj⟩⟩
      · exact ⟨⟨0, 0, 0, 0, none, 0, []⟩, fun h => absurd h hlt⟩
    have ⟨f, hff⟩ := Classical.axiomOfChoice each
    refine ⟨some x, cap, (List.range len).map f, by simp, by simpa using hl, by simpa [maxLen] using hm, ?_, ?_⟩
    · intro q hq
      simp only [List.mem_map, List.mem_range] at hq
      obtain ⟨i, hlt, rfl⟩ := hq
      exact (hff i hlt).1
    · by_cases h0 : len = 0
      · subst h0
        exact Or.inl (by simp)
      · obtain ⟨bl, off, spot⟩ := x
        have c0 := (hff 0 (by omega)).2 0 (by omega)
        have c0' : w.cell? ((⟨bl, off, spot⟩ : Addr).add 0) = some (.int .i64 (f 0).k) := by simpa [ActQ.cells] using c0
        have hspot : spot = none := by simpa [Addr.add] using World.cell?_spot c0'
        subst hspot
        have hb := block_lt_of_cell c0'
        refine Or.inr ⟨bl, off, rfl, by simpa [Addr.add] using hb, ?_⟩
        intro i q hq j u hj
        have hlt : i < len := by have := (List.getElem?_eq_some_iff.1 hq).1; simpa using this
        have hqf : f i = q := by
          rw [List.getElem?_map, List.getElem?_range hlt] at hq
          simpa using hq
        have hj5 : j < 5 := by
          have := (List.getElem?_eq_some_iff.1 hj).1
          simpa [ActQ.cells] using this
        have ck := (hff i hlt).2 j hj5
        rw [hqf, hj] at ck
        have e1 : (⟨bl, off, none⟩ : Addr).add (i * 5 + j) = ⟨bl, off + (i * 5 + j), none⟩ := by unfold Addr.add; split <;> simp_all
        rw [e1] at ck
        exact ck
theorem ActsIn.later {w w' : World} {a : Option Addr} {l : List ActQ} {c : Nat} (h : ActsIn w a l c) (hb : Below w.heap.size w w') : ActsIn w' a l c := by
  obtain ⟨h1, h2, h3, h4⟩ := h
  refine ⟨h1, h2, fun q hq => ?_, ?_⟩
  · obtain ⟨g1, g2, g3, g4, g5⟩ := h3 q hq
    exact ⟨g1, g2, g3, g4, g5.later hb⟩
  · rcases h4 with h4 | ⟨b, off, rfl, hlt, hc⟩
    · exact .inl h4
    · exact .inr ⟨b, off, rfl, Nat.lt_of_lt_of_le hlt hb.size, fun i q hq j u hj => (hb.cell hlt).trans (hc i q hq j u hj)⟩
end Go.Proofs.Ytnkfdpkcnfefeaa
