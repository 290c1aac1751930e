/- Values of flat types (structs and arrays whose cells are integers), and slices of them, as they came in: over any program. -/
import Derived.ProofKit
import Derived.WideShapes
import Derived.ChangeSlices
import Derived.OpenShut
import Derived.Deep.Slices
import Derived.Deep.Fields
namespace Go.Proofs.YtipecnofjdhobaaDoor
open Go Go.RowKit Go.ChangeShapes Go.WideShapes Go.Deep
set_option linter.unusedVariables false

/-- integers of these kinds, each within its kind -/
def AreInts : List IntKind → List Value → Prop
  | [], [] => True
  | k :: ks, v :: cs => (∃ z, v = .int k z ∧ (Lit.int k z).wf = true) ∧ AreInts ks cs
  | _, _ => False
theorem areInts_app : ∀ {ks ks' : List IntKind} {cs cs' : List Value}, AreInts ks cs → AreInts ks' cs' → AreInts (ks ++ ks') (cs ++ cs')
  | [], _, [], _, _, h => h
  | k :: ks, _, v :: cs, _, h, h' => ⟨h.1, areInts_app h.2 h'⟩
  | [], _, _ :: _, _, h, _ => h.elim
  | _ :: _, _, [], _, h, _ => h.elim
theorem areInts_len : ∀ {ks : List IntKind} {cs : List Value}, AreInts ks cs → cs.length = ks.length
  | [], [], _ => rfl
  | k :: ks, v :: cs, h => by simp [areInts_len h.2]
  | [], _ :: _, h => h.elim
  | _ :: _, [], h => h.elim
/-- the kinds of a struct's fields, one behind the other -/
def fieldsKinds (P : Program) (g : TypeId → Option (List IntKind)) : List Field → Nat → Option (List IntKind)
  | [], _ => some []
  | f :: fs, off => match g f.type with
    | some ks => if f.offset = off ∧ P.cellsOf f.type = ks.length then (fieldsKinds P g fs (off + ks.length)).map (ks ++ ·) else none
    | none => none
def leafKinds (P : Program) : Nat → TypeId → Option (List IntKind)
  | 0, _ => none
  | n + 1, t => match P.underlying t with
    | some (.int k) => some [k]
    | some (.struct fs) => match fieldsKinds P (leafKinds P n) fs.toList 0 with
      | some ks => if P.cellsOf t = ks.length then some ks else none
      | none => none
    | some (.array m e) => match leafKinds P n e with
      | some ks => if P.cellsOf e = ks.length ∧ P.cellsOf t = m * ks.length then some (List.replicate m ks).flatten else none
      | none => none
    | _ => none
section
variable {H : Type} {enc : TypeId × Value → H} {P : Program} {w : World} {base : Nat} {spare : Nat → Bool} {held : Bool}

theorem fields_ints {g : TypeId → Option (List IntKind)} {m : Nat} (hg : ∀ t ks cs y, g t = some ks → DataW.trod enc P w base spare held m t cs = some y → AreInts ks cs) {cs : List Value} :
    ∀ (fs : List Field) (off : Nat) (ks : List IntKind), fieldsKinds P g fs off = some ks → (∀ f ∈ fs, ∃ y, DataW.trod enc P w base spare held m f.type ((cs.drop f.offset).take (P.cellsOf f.type)) = some y) → cs.length = off + ks.length → AreInts ks (cs.drop off)
  | [], off, ks, h, _, hl => by
    obtain rfl : ks = [] := by simpa [fieldsKinds] using h.symm
    rw [List.drop_eq_nil_of_le (by simp at hl; omega)]
    trivial
  | f :: fs, off, ks, h, hy, hl => by
    rw [fieldsKinds] at h
    cases hk : g f.type with
    | none => rw [hk] at h; simp at h
    | some k1 =>
      rw [hk] at h
      simp only at h
      split at h
      · rename_i ho
        cases h2 : fieldsKinds P g fs (off + k1.length) with
        | none => rw [h2] at h; simp at h
        | some k2 =>
          rw [h2] at h
          obtain rfl : k1 ++ k2 = ks := by simpa using h
          obtain ⟨y, hy1⟩ := hy f (by simp)
          rw [ho.1, ho.2] at hy1
          have a := hg _ _ _ _ hk hy1
          have b := fields_ints hg fs (off + k1.length) k2 h2 (fun f hf => hy f (by simp [hf])) (by rw [hl]; simp; omega)
          have e : cs.drop off = (cs.drop off).take k1.length ++ cs.drop (off + k1.length) := by
            rw [← List.drop_drop, List.take_append_drop]
          rw [e]
          exact areInts_app a b
      · simp at h
theorem leaf_ints : ∀ (n : Nat) (t : TypeId) (ks : List IntKind) (m : Nat) (cs : List Value) (y : DataW H × List MemPlace), leafKinds P n t = some ks → DataW.trod enc P w base spare held m t cs = some y → AreInts ks cs
  | 0, t, ks, m, cs, y, h, _ => by simp [leafKinds] at h
  | n + 1, t, ks, m, cs, y, h, hd => by
    rw [leafKinds] at h
    cases hu : P.underlying t with
    | none => rw [hu] at h; simp at h
    | some u =>
      rw [hu] at h
      cases u with
      | int k =>
        obtain rfl : [k] = ks := by simpa using h
        obtain ⟨z, rfl, _, hw⟩ := DataW.trod_int hu hd
        exact ⟨⟨z, rfl, hw⟩, trivial⟩
      | struct fs =>
        simp only at h
        cases hk : fieldsKinds P (leafKinds P n) fs.toList 0 with
        | none => rw [hk] at h; simp at h
        | some k1 =>
          rw [hk] at h
          simp only at h
          split at h
          · rename_i hC
            obtain rfl : k1 = ks := by simpa using h
            obtain ⟨xs, m', _, _, hl, hx, hf⟩ := DataW.trod_struct hu hd
            have := fields_ints (P := P) (g := leafKinds P n) (m := m') (cs := cs) (fun t ks cs y => leaf_ints n t ks m' cs y) fs.toList 0 k1 hk (fun f hf' => by
              obtain ⟨i, hi, rfl⟩ := List.getElem_of_mem hf'
              have e := hf i _ (by rw [Array.getElem?_eq_getElem (by simpa using hi)]; try simp)
              have hxi : i < xs.length := by rw [hx]; simpa using hi
              rw [List.getElem?_eq_getElem hxi] at e
              exact ⟨_, e⟩) (by rw [hl, hC, Nat.zero_add])
            simpa using this
          · simp at h
      | array m e =>
        simp only at h
        cases hk : leafKinds P n e with
        | none => rw [hk] at h; simp at h
        | some k1 =>
          rw [hk] at h
          simp only at h
          split at h
          · rename_i hC
            obtain rfl : (List.replicate m k1).flatten = ks := by simpa using h
            obtain ⟨xs, m', _, _, hl, hx, hf⟩ := DataW.trod_array hu hd
            rw [hC.1] at hf
            rw [hC.2] at hl
            have key : ∀ i, i ≤ m → AreInts (List.replicate i k1).flatten (cs.take (i * k1.length)) := by
              intro i
              induction i with
              | zero => intro _; simp [AreInts]
              | succ i ih =>
                intro hi
                have e := hf i (by omega)
                rw [List.getElem?_eq_getElem (by omega)] at e
                have a := leaf_ints n _ _ _ _ _ hk e
                have b := areInts_app (ih (by omega)) a
                rw [List.replicate_succ', List.flatten_append]
                have e2 : cs.take ((i + 1) * k1.length) = cs.take (i * k1.length) ++ (cs.drop (i * k1.length)).take k1.length := by
                  rw [Nat.succ_mul, List.take_add]
                rw [e2]
                simpa using b
            have := key m (Nat.le_refl _)
            rw [List.take_of_length_le (by omega)] at this
            exact this
          · simp at h
      | _ => simp at h

/-- a slice of flat values that came in: its elements' cells -/
def FlatIn (ks : List IntKind) (w : World) (a : Option Addr) (l : List (List Value)) (c : Nat) : Prop :=
  l.length ≤ c ∧ c ≤ 9223372036854775807 ∧ (∀ x ∈ l, AreInts ks x) ∧
  ((a = none ∧ l = [] ∧ c = 0) ∨ ((∃ x, a = some x) ∧ l = []) ∨ ∃ b off, a = some ⟨b, off, none⟩ ∧ b < w.heap.size ∧ ∀ k x, l[k]? = some x → ∀ j u, x[j]? = some u → w.cell? ⟨b, off + k * ks.length + j, none⟩ = some u)
theorem FlatIn.later {ks : List IntKind} {w w' : World} {a : Option Addr} {l : List (List Value)} {c : Nat} (h : FlatIn ks w a l c) (hb : Below w.heap.size w w') : FlatIn ks w' a l c := by
  obtain ⟨h2, h3, h4, h | h | ⟨b, off, rfl, hlt, hc⟩⟩ := h
  · exact ⟨h2, h3, h4, Or.inl h⟩
  · exact ⟨h2, h3, h4, Or.inr (Or.inl h)⟩
  · exact ⟨h2, h3, h4, Or.inr (Or.inr ⟨b, off, rfl, Nat.lt_of_lt_of_le hlt hb.size, fun k x hx j u hj => (hb.cell hlt).trans (hc k x hx j u hj)⟩)⟩
theorem flats_cell {t e : TypeId} {fuel n : Nat} {cs : List Value} {y : DataW H × List MemPlace} {ks : List IntKind}
    (ht : P.underlying t = some (.slice e)) (hk : leafKinds P n e = some ks) (hC : P.cellsOf e = ks.length) (hpos : 0 < ks.length) (hf : DataW.trod enc P w base spare held fuel t cs = some y) :
    ∃ (a : Option Addr) (c : Nat) (l : List (List Value)), cs = [.slice a l.length c] ∧ FlatIn ks w a l c := by
  rcases Go.Deep.open_slice ht hf with ⟨hcs, _⟩ | ⟨x, len, cap, m, n', D, Pl, hcs, _, hl, hm, hmm, _, hi⟩
  · exact ⟨none, 0, [], hcs, by simp, by omega, by simp, Or.inl ⟨rfl, rfl, rfl⟩⟩
  · have hlm : len ≤ m := by rw [hmm]; split <;> omega
    have each : ∀ i, ∃ q : List Value, i < len → AreInts ks q ∧ ∀ j, j < ks.length → w.cell? (x.add (i * ks.length + j)) = q[j]? := by
      intro i
      by_cases hlt : i < len
      · obtain ⟨cs', hc, hd⟩ := hi i (by omega)
        rw [hC] at hc
        obtain ⟨_, _, hat⟩ := World.cells?_some hc
        exact ⟨cs', fun _ => ⟨leaf_ints _ _ _ _ _ _ hk hd, fun j hj => by rw [← Go.Deep.add_add]; exact hat j hj⟩⟩
      · exact ⟨[], fun h => absurd h hlt⟩
    have ⟨f, hff⟩ := Classical.axiomOfChoice each
    refine ⟨some x, cap, (List.range len).map f, by simpa using hcs, by simpa using hl, by simpa [maxLen] using hm, ?_, ?_⟩
    · intro q hq
      simp only [List.mem_map, List.mem_range] at hq
      obtain ⟨i, hlt, rfl⟩ := hq
      exact (hff i hlt).1
    · by_cases h0 : len = 0
      · subst h0
        exact Or.inr (Or.inl ⟨⟨x, rfl⟩, by simp⟩)
      · obtain ⟨bl, off, spot⟩ := x
        have hl0 := areInts_len (hff 0 (by omega)).1
        have c0 := (hff 0 (by omega)).2 0 hpos
        rw [List.getElem?_eq_getElem (by omega)] at c0
        simp only [Nat.zero_mul, Nat.zero_add] at c0
        have hspot : spot = none := by simpa [Addr.add] using World.cell?_spot c0
        subst hspot
        have hb := block_lt_of_cell c0
        refine Or.inr (Or.inr ⟨bl, off, rfl, by simpa [Addr.add] using hb, ?_⟩)
        intro k q hq j u hj
        have hkl : k < len := by
          rcases Nat.lt_or_ge k len with g | g
          · exact g
          · rw [List.getElem?_eq_none (by simpa using g)] at hq; cases hq
        rw [List.getElem?_map, List.getElem?_range hkl] at hq
        obtain rfl : f k = q := by simpa using hq
        have hlk := areInts_len (hff k hkl).1
        have hjl : j < ks.length := by
          rcases Nat.lt_or_ge j ks.length with g | g
          · exact g
          · rw [List.getElem?_eq_none (by omega)] at hj; cases hj
        have := (hff k hkl).2 j hjl
        rw [hj] at this
        have e1 : (⟨bl, off, none⟩ : Addr).add (k * ks.length + j) = ⟨bl, off + k * ks.length + j, none⟩ := by unfold Addr.add; split <;> simp_all [Nat.add_assoc]
        rw [e1] at this
        exact this
end
end Go.Proofs.YtipecnofjdhobaaDoor
