/- Values of flat types (structs and arrays whose cells are integers), and slices of them, as they came in: over any program. -/
import Derived.ProofKit
import Derived.WideShapes
import Derived.ChangeSlices
import Derived.OpenShut
import Derived.Deep.Slices
import Derived.Deep.Fields
import Derived.Below
import Derived.Test.YtmifojpmomdmeaaProg
import Derived.Lib.Hide
import Derived.Great.Walk
import Derived.Laws.OwnMore
namespace Go.Proofs.Ytmifojpmomdmeaa
open Go Go.RowKit Go.ChangeShapes Go.WideShapes Go.Deep
set_option linter.unusedVariables false

/-- integers of these kinds, each within its kind -/
def AreInts : List IntKind → List Value → Prop
  | [], [] => True
  | k :: ks, v :: cs => (∃ z, v = .int k z ∧ (Lit.int k z).wf = true) ∧ AreInts ks cs
  | _, _ => False
theorem areInts_app : ∀ {ks ks' : List IntKind} {cs cs' : List Value}, AreInts ks cs → AreInts ks' cs' → AreInts (ks ++ ks') (cs ++ cs')
  | [], _, [], _, _, h => h
  | k :: ks, _, v :: cs, _, h, h' => ⟨h.1, areInts_app h.2 h'⟩
  | [], _, _ :: _, _, h, _ => h.elim
  | _ :: _, _, [], _, h, _ => h.elim
theorem areInts_len : ∀ {ks : List IntKind} {cs : List Value}, AreInts ks cs → cs.length = ks.length
  | [], [], _ => rfl
  | k :: ks, v :: cs, h => by simp [areInts_len h.2]
  | [], _ :: _, h => h.elim
  | _ :: _, [], h => h.elim
/-- the kinds of a struct's fields, one behind the other -/
def fieldsKinds (P : Program) (g : TypeId → Option (List IntKind)) : List Field → Nat → Option (List IntKind)
  | [], _ => some []
  | f :: fs, off => match g f.type with
    | some ks => if f.offset = off ∧ P.cellsOf f.type = ks.length then (fieldsKinds P g fs (off + ks.length)).map (ks ++ ·) else none
    | none => none
def leafKinds (P : Program) : Nat → TypeId → Option (List IntKind)
  | 0, _ => none
  | n + 1, t => match P.underlying t with
    | some (.int k) => some [k]
    | some (.struct fs) => match fieldsKinds P (leafKinds P n) fs.toList 0 with
      | some ks => if P.cellsOf t = ks.length then some ks else none
      | none => none
    | some (.array m e) => match leafKinds P n e with
      | some ks => if P.cellsOf e = ks.length ∧ P.cellsOf t = m * ks.length then some (List.replicate m ks).flatten else none
      | none => none
    | _ => none
section
variable {H : Type} {enc : TypeId × Value → H} {P : Program} {w : World} {base : Nat} {spare : Nat → Bool} {held : Bool}

theorem fields_ints {g : TypeId → Option (List IntKind)} {m : Nat} (hg : ∀ t ks cs y, g t = some ks → DataW.trod enc P w base spare held m t cs = some y → AreInts ks cs) {cs : List Value} :
    ∀ (fs : List Field) (off : Nat) (ks : List IntKind), fieldsKinds P g fs off = some ks → (∀ f ∈ fs, ∃ y, DataW.trod enc P w base spare held m f.type ((cs.drop f.offset).take (P.cellsOf f.type)) = some y) → cs.length = off + ks.length → AreInts ks (cs.drop off)
  | [], off, ks, h, _, hl => by
    obtain rfl : ks = [] := by simpa [fieldsKinds] using h.symm
    rw [List.drop_eq_nil_of_le (by simp at hl; omega)]
    trivial
  | f :: fs, off, ks, h, hy, hl => by
    rw [fieldsKinds] at h
    cases hk : g f.type with
    | none => rw [hk] at h; simp at h
    | some k1 =>
      rw [hk] at h
      simp only at h
      split at h
      · rename_i ho
        cases h2 : fieldsKinds P g fs (off + k1.length) with
        | none => rw [h2] at h; simp at h
        | some k2 =>
          rw [h2] at h
          obtain rfl : k1 ++ k2 = ks := by simpa using h
          obtain ⟨y, hy1⟩ := hy f (by simp)
          rw [ho.1, ho.2] at hy1
          have a := hg _ _ _ _ hk hy1
          have b := fields_ints hg fs (off + k1.length) k2 h2 (fun f hf => hy f (by simp [hf])) (by rw [hl]; simp; omega)
          have e : cs.drop off = (cs.drop off).take k1.length ++ cs.drop (off + k1.length) := by
            rw [← List.drop_drop, List.take_append_drop]
          rw [e]
          exact areInts_app a b
      · simp at h
theorem leaf_ints : ∀ (n : Nat) (t : TypeId) (ks : List IntKind) (m : Nat) (cs : List Value) (y : DataW H × List MemPlace), leafKinds P n t = some ks → DataW.trod enc P w base spare held m t cs = some y → AreInts ks cs
  | 0, t, ks, m, cs, y, h, _ => by simp [leafKinds] at h
  | n + 1, t, ks, m, cs, y, h, hd => by
    rw [leafKinds] at h
    cases hu : P.underlying t with
    | none => rw [hu] at h; simp at h
    | some u =>
      rw [hu] at h
      cases u with
      | int k =>
        obtain rfl : [k] = ks := by simpa using h
        obtain ⟨z, rfl, _, hw⟩ := DataW.trod_int hu hd
        exact ⟨⟨z, rfl, hw⟩, trivial⟩
      | struct fs =>
        simp only at h
        cases hk : fieldsKinds P (leafKinds P n) fs.toList 0 with
        | none => rw [hk] at h; simp at h
        | some k1 =>
          rw [hk] at h
          simp only at h
          split at h
          · rename_i hC
            obtain rfl : k1 = ks := by simpa using h
            obtain ⟨xs, m', _, _, hl, hx, hf⟩ := DataW.trod_struct hu hd
            have := fields_ints (P := P) (g := leafKinds P n) (m := m') (cs := cs) (fun t ks cs y => leaf_ints n t ks m' cs y) fs.toList 0 k1 hk (fun f hf' => by
              obtain ⟨i, hi, rfl⟩ := List.getElem_of_mem hf'
              have e := hf i _ (by rw [Array.getElem?_eq_getElem (by simpa using hi)]; try simp)
              have hxi : i < xs.length := by rw [hx]; simpa using hi
              rw [List.getElem?_eq_getElem hxi] at e
              exact ⟨_, e⟩) (by rw [hl, hC, Nat.zero_add])
            simpa using this
          · simp at h
      | array m e =>
        simp only at h
        cases hk : leafKinds P n e with
        | none => rw [hk] at h; simp at h
        | some k1 =>
          rw [hk] at h
          simp only at h
          split at h
          · rename_i hC
            obtain rfl : (List.replicate m k1).flatten = ks := by simpa using h
            obtain ⟨xs, m', _, _, hl, hx, hf⟩ := DataW.trod_array hu hd
            rw [hC.1] at hf
            rw [hC.2] at hl
            have key : ∀ i, i ≤ m → AreInts (List.replicate i k1).flatten (cs.take (i * k1.length)) := by
              intro i
              induction i with
              | zero => intro _; simp [AreInts]
              | succ i ih =>
                intro hi
                have e := hf i (by omega)
                rw [List.getElem?_eq_getElem (by omega)] at e
                have a := leaf_ints n _ _ _ _ _ hk e
                have b := areInts_app (ih (by omega)) a
                rw [List.replicate_succ', List.flatten_append]
                have e2 : cs.take ((i + 1) * k1.length) = cs.take (i * k1.length) ++ (cs.drop (i * k1.length)).take k1.length := by
                  rw [Nat.succ_mul, List.take_add]
                rw [e2]
                simpa using b
            have := key m (Nat.le_refl _)
            rw [List.take_of_length_le (by omega)] at this
            exact this
          · simp at h
      | _ => simp at h

/-- a slice of flat values that came in: its elements' cells -/
def FlatIn (ks : List IntKind) (w : World) (a : Option Addr) (l : List (List Value)) (c : Nat) : Prop :=
  l.length ≤ c ∧ c ≤ 9223372036854775807 ∧ (∀ x ∈ l, AreInts ks x) ∧
  ((a = none ∧ l = [] ∧ c = 0) ∨ ((∃ x, a = some x) ∧ l = []) ∨ ∃ b off, a = some ⟨b, off, none⟩ ∧ b < w.heap.size ∧ ∀ k x, l[k]? = some x → ∀ j u, x[j]? = some u → w.cell? ⟨b, off + k * ks.length + j, none⟩ = some u)
theorem FlatIn.later {ks : List IntKind} {w w' : World} {a : Option Addr} {l : List (List Value)} {c : Nat} (h : FlatIn ks w a l c) (hb : Below w.heap.size w w') : FlatIn ks w' a l c := by
  obtain ⟨h2, h3, h4, h | h | ⟨b, off, rfl, hlt, hc⟩⟩ := h
  · exact ⟨h2, h3, h4, Or.inl h⟩
  · exact ⟨h2, h3, h4, Or.inr (Or.inl h)⟩
  · exact ⟨h2, h3, h4, Or.inr (Or.inr ⟨b, off, rfl, Nat.lt_of_lt_of_le hlt hb.size, fun k x hx j u hj => (hb.cell hlt).trans (hc k x hx j u hj)⟩)⟩
theorem flats_cell {t e : TypeId} {fuel n : Nat} {cs : List Value} {y : DataW H × List MemPlace} {ks : List IntKind}
    (ht : P.underlying t = some (.slice e)) (hk : leafKinds P n e = some ks) (hC : P.cellsOf e = ks.length) (hpos : 0 < ks.length) (hf : DataW.trod enc P w base spare held fuel t cs = some y) :
    ∃ (a : Option Addr) (c : Nat) (l : List (List Value)), cs = [.slice a l.length c] ∧ FlatIn ks w a l c := by
  rcases Go.Deep.open_slice ht hf with ⟨hcs, _⟩ | ⟨x, len, cap, m, n', D, Pl, hcs, _, hl, hm, hmm, _, hi⟩
  · exact ⟨none, 0, [], hcs, by simp, by omega, by simp, Or.inl ⟨rfl, rfl, rfl⟩⟩
  · have hlm : len ≤ m := by rw [hmm]; split <;> omega
    have each : ∀ i, ∃ q : List Value, i < len → AreInts ks q ∧ ∀ j, j < ks.length → w.cell? (x.add (i * ks.length + j)) = q[j]? := by
      intro i
      by_cases hlt : i < len
      · obtain ⟨cs', hc, hd⟩ := hi i (by omega)
        rw [hC] at hc
        obtain ⟨_, _, hat⟩ := World.cells?_some hc
        exact ⟨cs', fun _ => ⟨leaf_ints _ _ _ _ _ _ hk hd, fun j hj => by rw [← Go.Deep.add_add]; exact hat j hj⟩⟩
      · exact ⟨[], fun h => absurd h hlt⟩
    have ⟨f, hff⟩ := Classical.axiomOfChoice each
    refine ⟨some x, cap, (List.range len).map f, by simpa using hcs, by simpa using hl, by simpa [maxLen] using hm, ?_, ?_⟩
    · intro q hq
      simp only [List.mem_map, List.mem_range] at hq
      obtain ⟨i, hlt, rfl⟩ := hq
      exact (hff i hlt).1
    · by_cases h0 : len = 0
      · subst h0
        exact Or.inr (Or.inl ⟨⟨x, rfl⟩, by simp⟩)
      · obtain ⟨bl, off, spot⟩ := x
        have hl0 := areInts_len (hff 0 (by omega)).1
        have c0 := (hff 0 (by omega)).2 0 hpos
        rw [List.getElem?_eq_getElem (by omega)] at c0
        simp only [Nat.zero_mul, Nat.zero_add] at c0
        have hspot : spot = none := by simpa [Addr.add] using World.cell?_spot c0
        subst hspot
        have hb := block_lt_of_cell c0
        refine Or.inr (Or.inr ⟨bl, off, rfl, by simpa [Addr.add] using hb, ?_⟩)
        intro k q hq j u hj
        have hkl : k < len := by
          rcases Nat.lt_or_ge k len with g | g
          · exact g
          · rw [List.getElem?_eq_none (by simpa using g)] at hq; cases hq
        rw [List.getElem?_map, List.getElem?_range hkl] at hq
        obtain rfl : f k = q := by simpa using hq
        have hlk := areInts_len (hff k hkl).1
        have hjl : j < ks.length := by
          rcases Nat.lt_or_ge j ks.length with g | g
          · exact g
          · rw [List.getElem?_eq_none (by omega)] at hj; cases hj
        have := (hff k hkl).2 j hjl
        rw [hj] at this
        have e1 : (⟨bl, off, none⟩ : Addr).add (k * ks.length + j) = ⟨bl, off + k * ks.length + j, none⟩ := by unfold Addr.add; split <;> simp_all [Nat.add_assoc]
        rw [e1] at this
        exact this
end
end Go.Proofs.Ytmifojpmomdmeaa

namespace Go.Proofs.Ytmifojpmomdmeaa
open Go Go.RowKit
set_option linter.unusedVariables false

/-- a node: its numbers as they lie -/
structure Nd where
  (op a b k0 k1 s0 s1 p0 p1 p2 p3 za zb zo m1 m2 t1 t2 lo hi w bias chans h0 h1 h2 : Int)
deriving DecidableEq, Inhabited
/-- a shape -/
structure Sh where
  (x y z : Int)
deriving DecidableEq, Inhabited
/-- a constant -/
structure Cn where
  (bytes words : List Int)
deriving DecidableEq, Inhabited

def Sh.good (s : Sh) : Bool := decide (1 ≤ s.x ∧ s.x ≤ 64 ∧ 1 ≤ s.y ∧ s.y ≤ 64 ∧ 1 ≤ s.z ∧ s.z ≤ 64 ∧ s.x * s.y * s.z ≤ 16384)
def Sh.fit (s : Sh) : Int := if s.x < 1 ∨ s.y < 1 ∨ s.z < 1 then 10 else if s.good then 0 else 12
def Sh.size (s : Sh) : Int := s.x * s.y * s.z
theorem Sh.fit_good {s : Sh} (h : s.fit = 0) : s.good = true := by
  unfold Sh.fit at h
  split at h
  · simp at h
  · split at h
    · assumption
    · simp at h

/-! ### what an operator has -/
def hA (o : Int) : Bool := decide (o ≠ 1)
def hB (o : Int) : Bool := decide (o = 7 ∨ o = 8 ∨ o = 12)
def hWin (o : Int) : Bool := decide (o = 2 ∨ o = 3 ∨ o = 5 ∨ o = 6)
def hPad (o : Int) : Bool := decide (o = 2 ∨ o = 3 ∨ o = 5 ∨ o = 6 ∨ o = 10)
def hZa (o : Int) : Bool := decide (o = 2 ∨ o = 3 ∨ o = 4 ∨ o = 7 ∨ o = 8)
def hZb (o : Int) : Bool := decide (o = 7 ∨ o = 8)
def hZo (o : Int) : Bool := decide (o = 2 ∨ o = 3 ∨ o = 4 ∨ o = 7 ∨ o = 8 ∨ o = 10)
def hM (o : Int) : Bool := decide (o = 2 ∨ o = 3 ∨ o = 4 ∨ o = 7 ∨ o = 8)
def hN (o : Int) : Bool := decide (o = 7)
def hL (o : Int) : Bool := decide (o = 2 ∨ o = 3 ∨ o = 4 ∨ o = 7 ∨ o = 8 ∨ o = 9)
def hW (o : Int) : Bool := decide (o = 1 ∨ o = 2 ∨ o = 3 ∨ o = 4 ∨ o = 14)
def hI (o : Int) : Bool := decide (o = 2 ∨ o = 3 ∨ o = 4)
def hC (o : Int) : Bool := decide (o = 2 ∨ o = 4)
def hS (o : Int) : Bool := decide (o = 1 ∨ o = 11)

def idleN (n : Nd) : Bool :=
  (hA n.op || n.a == 0) && (hB n.op || n.b == 0) && (hWin n.op || (n.k0 == 0 && n.k1 == 0 && n.s0 == 0 && n.s1 == 0)) &&
  (hPad n.op || (n.p0 == 0 && n.p1 == 0 && n.p2 == 0 && n.p3 == 0)) && (hZa n.op || n.za == 0) && (hZb n.op || n.zb == 0) && (hZo n.op || n.zo == 0) &&
  (hM n.op || (n.m1 == 0 && n.t1 == 0)) && (hN n.op || (n.m2 == 0 && n.t2 == 0)) && (hL n.op || (n.lo == 0 && n.hi == 0)) &&
  (hW n.op || n.w == 0) && (hI n.op || n.bias == 0) && (hC n.op || n.chans == 0) && (hS n.op || (n.h0 == 0 && n.h1 == 0 && n.h2 == 0))
def insN (n : Nd) : List Int := if n.op = 1 then [] else if hB n.op then [n.a, n.b] else [n.a]
def insOk (n : Nd) (m : Nat) : Bool := (insN n).all fun v => decide (0 ≤ v ∧ v < m)

/-! ### what comes out -/
def gdS (n k s p q : Int) : Bool := decide (1 ≤ n ∧ n ≤ 64 ∧ 1 ≤ k ∧ k ≤ 8 ∧ 1 ≤ s ∧ s ≤ 8 ∧ 0 ≤ p ∧ p < k ∧ 0 ≤ q ∧ q < k ∧ k ≤ n + p + q)
def odS (n k s p q : Int) : Int := (n + p + q - k) / s + 1
def winG (n : Nd) (a : Sh) : Bool := gdS a.x n.k0 n.s0 n.p0 n.p2 && gdS a.y n.k1 n.s1 n.p1 n.p3
def rowX (n : Nd) (a : Sh) : Int := odS a.x n.k0 n.s0 n.p0 n.p2
def rowY (n : Nd) (a : Sh) : Int := odS a.y n.k1 n.s1 n.p1 n.p3
def Nd.sh (n : Nd) : Sh := ⟨n.h0, n.h1, n.h2⟩
def padB7 (n : Nd) : Bool := decide ((0 ≤ n.p0 ∧ n.p0 ≤ 7) ∧ (0 ≤ n.p1 ∧ n.p1 ≤ 7) ∧ (0 ≤ n.p2 ∧ n.p2 ≤ 7) ∧ (0 ≤ n.p3 ∧ n.p3 ≤ 7))
/-- what is wrong (0: nothing), and the shape -/
def outN (n : Nd) (a b : Sh) : Int × Sh :=
  if hWin n.op && !winG n a then (10, a)
  else if hC n.op && !decide (1 ≤ n.chans ∧ n.chans ≤ 64) then (10, a)
  else if n.op = 1 then (n.sh.fit, n.sh)
  else if n.op = 2 then (0, ⟨rowX n a, rowY n a, n.chans⟩)
  else if n.op = 3 ∨ n.op = 5 ∨ n.op = 6 then (0, ⟨rowX n a, rowY n a, a.z⟩)
  else if n.op = 4 then (0, ⟨1, 1, n.chans⟩)
  else if n.op = 7 ∨ n.op = 8 then (if a = b then 0 else 10, a)
  else if n.op = 10 then (if padB7 n then 0 else 10, ⟨a.x + n.p0 + n.p2, a.y + n.p1 + n.p3, a.z⟩)
  else if n.op = 11 then (if n.sh.fit ≠ 0 then n.sh.fit else if n.sh.size ≠ a.size then 10 else 0, n.sh)
  else if n.op = 12 then (if a.x = b.x ∧ a.y = b.y then 0 else 10, ⟨a.x, a.y, a.z + b.z⟩)
  else if n.op = 13 then (0, ⟨a.x, a.y, 1⟩)
  else (0, a)
def constE (C : List Cn) (i : Int) (bytes words : Int) : Int :=
  if i < 0 ∨ C.length ≤ i then 4 else if ((C.getD i.toNat default).bytes.length : Int) ≠ bytes ∨ ((C.getD i.toNat default).words.length : Int) ≠ words then 10 else 0
def bytesN (n : Nd) (a s : Sh) : Int :=
  if n.op = 1 then s.size else if n.op = 2 then n.chans * (n.k0 * n.k1 * a.z) else if n.op = 3 then n.k0 * n.k1 * a.z else if n.op = 4 then n.chans * a.size else 0
def weightsE (C : List Cn) (n : Nd) (a s : Sh) : Int :=
  if hW n.op ∧ constE C n.w (bytesN n a s) (if n.op = 14 then 256 else 0) ≠ 0 then constE C n.w (bytesN n a s) (if n.op = 14 then 256 else 0)
  else if hI n.op then constE C n.bias 0 s.z else 0
def smallB (n : Int) : Bool := decide (-128 ≤ n ∧ n ≤ 127)
def wordsN (C : List Cn) (i : Int) : List Int := (C.getD i.toNat default).words
def numbersB (C : List Cn) (n : Nd) : Bool :=
  smallB n.za && smallB n.zb && smallB n.zo && smallB n.lo && smallB n.hi && decide (n.lo ≤ n.hi ∧ 0 ≤ n.m1 ∧ 0 ≤ n.m2 ∧ 0 ≤ n.t1 ∧ n.t1 ≤ 31 ∧ 0 ≤ n.t2 ∧ n.t2 ≤ 31) &&
  (!hI n.op || (wordsN C n.bias).all fun v => decide (-268435456 ≤ v ∧ v ≤ 268435456)) &&
  (!decide (n.op = 14) || ((wordsN C n.w).all (fun v => decide (0 ≤ v ∧ v ≤ 65535)) && decide ((wordsN C n.w).getD 0 0 ≠ 0)))
def nodeE (C : List Cn) (n : Nd) (l : List Sh) : Int × Sh :=
  if n.op < 1 ∨ 14 < n.op then (15, default)
  else if insOk n l.length = false then (4, default)
  else if idleN n = false then (4, default)
  else if (outN n (l.getD n.a.toNat default) (l.getD n.b.toNat default)).1 ≠ 0 then ((outN n (l.getD n.a.toNat default) (l.getD n.b.toNat default)).1, default)
  else if (outN n (l.getD n.a.toNat default) (l.getD n.b.toNat default)).2.fit ≠ 0 then ((outN n (l.getD n.a.toNat default) (l.getD n.b.toNat default)).2.fit, default)
  else if n.op = 4 ∧ 4096 < (l.getD n.a.toNat default).size then (12, default)
  else if weightsE C n (l.getD n.a.toNat default) (outN n (l.getD n.a.toNat default) (l.getD n.b.toNat default)).2 ≠ 0 then (weightsE C n (l.getD n.a.toNat default) (outN n (l.getD n.a.toNat default) (l.getD n.b.toNat default)).2, default)
  else if numbersB C n = false then (11, default)
  else (0, (outN n (l.getD n.a.toNat default) (l.getD n.b.toNat default)).2)
theorem nodeE_fit {C : List Cn} {n : Nd} {l : List Sh} (h : (nodeE C n l).1 = 0) : (nodeE C n l).2.fit = 0 ∧ 1 ≤ n.op ∧ n.op ≤ 14 ∧ insOk n l.length = true ∧ idleN n = true := by
  unfold nodeE at h ⊢
  generalize outN n (l.getD n.a.toNat default) (l.getD n.b.toNat default) = q at h ⊢
  by_cases h1 : n.op < 1 ∨ 14 < n.op
  · rw [if_pos h1] at h; simp at h
  · rw [if_neg h1] at h ⊢
    by_cases h2 : insOk n l.length = false
    · rw [if_pos h2] at h; simp at h
    · rw [if_neg h2] at h ⊢
      by_cases h3 : idleN n = false
      · rw [if_pos h3] at h; simp at h
      · rw [if_neg h3] at h ⊢
        by_cases h4 : q.1 ≠ 0
        · rw [if_pos h4] at h; exact absurd h h4
        · rw [if_neg h4] at h ⊢
          by_cases h5 : q.2.fit ≠ 0
          · rw [if_pos h5] at h; exact absurd h h5
          · rw [if_neg h5] at h ⊢
            by_cases h6 : n.op = 4 ∧ 4096 < (l.getD n.a.toNat default).size
            · rw [if_pos h6] at h; simp at h
            · rw [if_neg h6] at h ⊢
              by_cases h7 : weightsE C n (l.getD n.a.toNat default) q.2 ≠ 0
              · rw [if_pos h7] at h; exact absurd h h7
              · rw [if_neg h7] at h ⊢
                by_cases h8 : numbersB C n = false
                · rw [if_pos h8] at h; simp at h
                · rw [if_neg h8]
                  exact ⟨by simpa using h5, by omega, by omega, by simpa using h2, by simpa using h3⟩
/-- a node that isn't idle where it should be -/
theorem nodeE_busy {C : List Cn} {n : Nd} {l : List Sh} (h1 : 1 ≤ n.op) (h2 : n.op ≤ 14) (h3 : idleN n = false) : (nodeE C n l).1 = 4 := by
  unfold nodeE
  rw [if_neg (by omega)]
  by_cases h : insOk n l.length = false
  · rw [if_pos h]
  · rw [if_neg h, if_pos h3]

/-! ### all nodes -/
def shapesE (C : List Cn) : List Nd → List Sh → Int × List Sh
  | [], l => (0, l)
  | n :: r, l => if (nodeE C n l).1 ≠ 0 then ((nodeE C n l).1, []) else shapesE C r (l ++ [(nodeE C n l).2])
structure Gr where
  (inp : Sh) (C : List Cn) (ns : List Nd) (out : Int)
def graphE (g : Gr) : Int × List Sh :=
  if g.inp.fit ≠ 0 then (g.inp.fit, [])
  else if (shapesE g.C g.ns [g.inp]).1 ≠ 0 then ((shapesE g.C g.ns [g.inp]).1, [])
  else if g.out < 0 ∨ (shapesE g.C g.ns [g.inp]).2.length ≤ g.out then (4, [])
  else (0, (shapesE g.C g.ns [g.inp]).2)
theorem shapes_ok {C : List Cn} : ∀ (ns : List Nd) (l : List Sh), (shapesE C ns l).1 = 0 → (∀ s ∈ l, s.fit = 0) → (∀ s ∈ (shapesE C ns l).2, s.fit = 0) ∧ (shapesE C ns l).2.length = l.length + ns.length
  | [], l, _, h => ⟨h, by simp [shapesE]⟩
  | n :: r, l, h0, h => by
    rw [shapesE] at h0 ⊢
    by_cases e : (nodeE C n l).1 ≠ 0
    · rw [if_pos e] at h0; exact absurd h0 e
    · rw [if_neg e] at h0 ⊢
      have f := (nodeE_fit (C := C) (n := n) (l := l) (by simpa using e)).1
      obtain ⟨a, b⟩ := shapes_ok r _ h0 (fun s hs => by
        rcases List.mem_append.mp hs with hs | hs
        · exact h s hs
        · obtain rfl : s = _ := by simpa using hs
          exact f)
      exact ⟨a, by rw [b]; simp; omega⟩
theorem graph_ok {g : Gr} (h : (graphE g).1 = 0) : (∀ s ∈ (graphE g).2, s.good = true) ∧ (graphE g).2.length = g.ns.length + 1 := by
  unfold graphE at h ⊢
  by_cases h1 : g.inp.fit ≠ 0
  · rw [if_pos h1] at h; exact absurd h h1
  · rw [if_neg h1] at h ⊢
    by_cases h2 : (shapesE g.C g.ns [g.inp]).1 ≠ 0
    · rw [if_pos h2] at h; exact absurd h h2
    · rw [if_neg h2] at h ⊢
      by_cases h3 : g.out < 0 ∨ (shapesE g.C g.ns [g.inp]).2.length ≤ g.out
      · rw [if_pos h3] at h; simp at h
      · rw [if_neg h3]
        obtain ⟨a, b⟩ := shapes_ok g.ns [g.inp] (by simpa using h2) (fun s hs => by
          obtain rfl : s = g.inp := by simpa using hs
          simpa using h1)
        exact ⟨fun s hs => Sh.fit_good (a s hs), by rw [b]; simp; omega⟩
theorem Sh.fit_good' {s : Sh} (h : s.fit = 0) : s.good = true := s.fit_good h
/-- a node in the midst that isn't idle -/
theorem shapes_busy {C : List Cn} {n : Nd} (h1 : 1 ≤ n.op) (h2 : n.op ≤ 14) (h3 : idleN n = false) : ∀ (ns : List Nd) (i : Nat) (l : List Sh), (shapesE C ns l).1 = 0 → i < ns.length → (shapesE C (ns.set i n) l).1 = 4
  | [], i, l, _, hi => absurd hi (by simp)
  | m :: r, 0, l, _, _ => by
    rw [List.set_cons_zero, shapesE, if_pos (by rw [nodeE_busy h1 h2 h3]; simp), nodeE_busy h1 h2 h3]
  | m :: r, i + 1, l, h0, hi => by
    rw [List.set_cons_succ, shapesE]
    rw [shapesE] at h0
    by_cases e : (nodeE C m l).1 ≠ 0
    · rw [if_pos e] at h0; exact absurd h0 e
    · rw [if_neg e] at h0 ⊢
      exact shapes_busy h1 h2 h3 r i _ h0 (by simpa using hi)
theorem graph_busy {g : Gr} {n : Nd} {i : Nat} (h : (graphE g).1 = 0) (hi : i < g.ns.length) (h1 : 1 ≤ n.op) (h2 : n.op ≤ 14) (h3 : idleN n = false) : (graphE { g with ns := g.ns.set i n }).1 = 4 := by
  unfold graphE at h ⊢
  by_cases e1 : g.inp.fit ≠ 0
  · rw [if_pos e1] at h; exact absurd h e1
  · rw [if_neg e1] at h ⊢
    by_cases e2 : (shapesE g.C g.ns [g.inp]).1 ≠ 0
    · rw [if_pos e2] at h; exact absurd h e2
    · have := shapes_busy (C := g.C) h1 h2 h3 g.ns i [g.inp] (by simpa using e2) hi
      rw [if_pos (by show (shapesE g.C (g.ns.set i n) [g.inp]).1 ≠ 0; rw [this]; simp)]
      exact this
end Go.Proofs.Ytmifojpmomdmeaa

namespace Go.Proofs.Ytmifojpmomdmeaa
open Go Go.RowKit Go.ChangeShapes Go.WideShapes Go.Deep
set_option linter.unusedVariables false
set_option maxRecDepth 100000

def kN : List IntKind := [.i64, .i64, .i64, .i64, .i64, .i64, .i64, .i64, .i64, .i64, .i64, .i64, .i64, .i64, .i32, .i32, .i64, .i64, .i64, .i64, .i64, .i64, .i64, .i64, .i64, .i64]
def Nd.cells (n : Nd) : List Value := [.int .i64 n.op, .int .i64 n.a, .int .i64 n.b, .int .i64 n.k0, .int .i64 n.k1, .int .i64 n.s0, .int .i64 n.s1, .int .i64 n.p0, .int .i64 n.p1, .int .i64 n.p2, .int .i64 n.p3, .int .i64 n.za, .int .i64 n.zb, .int .i64 n.zo, .int .i32 n.m1, .int .i32 n.m2, .int .i64 n.t1, .int .i64 n.t2, .int .i64 n.lo, .int .i64 n.hi, .int .i64 n.w, .int .i64 n.bias, .int .i64 n.chans, .int .i64 n.h0, .int .i64 n.h1, .int .i64 n.h2]
theorem Nd.cells_len (n : Nd) : n.cells.length = 26 := rfl
theorem nd_of {x : List Value} (h : AreInts kN x) : ∃ n : Nd, x = n.cells := by
  have hl : x.length = 26 := areInts_len h
  match x, hl with
  | [v0, v1, v2, v3, v4, v5, v6, v7, v8, v9, v10, v11, v12, v13, v14, v15, v16, v17, v18, v19, v20, v21, v22, v23, v24, v25], _ =>
    obtain ⟨⟨z0, rfl, _⟩, ⟨z1, rfl, _⟩, ⟨z2, rfl, _⟩, ⟨z3, rfl, _⟩, ⟨z4, rfl, _⟩, ⟨z5, rfl, _⟩, ⟨z6, rfl, _⟩, ⟨z7, rfl, _⟩, ⟨z8, rfl, _⟩, ⟨z9, rfl, _⟩, ⟨z10, rfl, _⟩, ⟨z11, rfl, _⟩, ⟨z12, rfl, _⟩, ⟨z13, rfl, _⟩, ⟨z14, rfl, _⟩, ⟨z15, rfl, _⟩, ⟨z16, rfl, _⟩, ⟨z17, rfl, _⟩, ⟨z18, rfl, _⟩, ⟨z19, rfl, _⟩, ⟨z20, rfl, _⟩, ⟨z21, rfl, _⟩, ⟨z22, rfl, _⟩, ⟨z23, rfl, _⟩, ⟨z24, rfl, _⟩, ⟨z25, rfl, _⟩, _⟩ := h
    exact ⟨⟨z0, z1, z2, z3, z4, z5, z6, z7, z8, z9, z10, z11, z12, z13, z14, z15, z16, z17, z18, z19, z20, z21, z22, z23, z24, z25⟩, rfl⟩
theorem nds_of : ∀ {l : List (List Value)}, (∀ x ∈ l, AreInts kN x) → ∃ ns : List Nd, l = ns.map Nd.cells ∧ ∀ n ∈ ns, AreInts kN n.cells
  | [], _ => ⟨[], rfl, by simp⟩
  | x :: l, h => by
    obtain ⟨n, rfl⟩ := nd_of (h x (by simp))
    obtain ⟨ns, rfl, hw⟩ := nds_of (l := l) (fun y hy => h y (by simp [hy]))
    exact ⟨n :: ns, rfl, fun m hm => by
      rcases List.mem_cons.mp hm with rfl | hm
      · exact h _ (by simp)
      · exact hw m hm⟩
theorem one_of {k : IntKind} : ∀ {l : List (List Value)}, (∀ x ∈ l, AreInts [k] x) → ∃ zs : List Int, l = zs.map (fun z => [.int k z]) ∧ ∀ z ∈ zs, (Lit.int k z).wf = true
  | [], _ => ⟨[], rfl, by simp⟩
  | x :: l, h => by
    obtain ⟨zs, rfl, hw⟩ := one_of (l := l) (fun y hy => h y (by simp [hy]))
    have hx := h x (by simp)
    have hl := areInts_len hx
    match x, hl with
    | [v], _ =>
      obtain ⟨⟨z, rfl, hz⟩, _⟩ := hx
      exact ⟨z :: zs, rfl, fun m hm => by
        rcases List.mem_cons.mp hm with rfl | hm
        · exact hz
        · exact hw m hm⟩
/-- a slice of nodes that came in -/
def NdsIn (w : World) (a : Option Addr) (l : List Nd) (c : Nat) : Prop := FlatIn kN w a (l.map Nd.cells) c
/-- a slice of integers that came in -/
def IntsIn (k : IntKind) (w : World) (a : Option Addr) (l : List Int) (c : Nat) : Prop := FlatIn [k] w a (l.map fun z => [.int k z]) c ∧ ∀ z ∈ l, (Lit.int k z).wf = true
/-- a constant as it lies -/
structure CnQ where
  (ba : Option Addr) (bc : Nat) (bs : List Int) (wa : Option Addr) (wc : Nat) (ws : List Int)
deriving Inhabited
def CnQ.cells (q : CnQ) : List Value := [.slice q.ba q.bs.length q.bc, .slice q.wa q.ws.length q.wc]
def CnQ.ok (w : World) (q : CnQ) : Prop := IntsIn .i8 w q.ba q.bs q.bc ∧ IntsIn .i32 w q.wa q.ws q.wc
def CnQ.cn (q : CnQ) : Cn := ⟨q.bs, q.ws⟩
/-- a slice of constants that came in -/
def CnsIn (w : World) (a : Option Addr) (l : List CnQ) (c : Nat) : Prop :=
  l.length ≤ c ∧ c ≤ 9223372036854775807 ∧ (∀ q ∈ l, q.ok w) ∧
  ((a = none ∧ l = [] ∧ c = 0) ∨ ((∃ x, a = some x) ∧ l = []) ∨ ∃ b off, a = some ⟨b, off, none⟩ ∧ b < w.heap.size ∧ ∀ k q, l[k]? = some q → w.cell? ⟨b, off + k * 2, none⟩ = some (.slice q.ba q.bs.length q.bc) ∧ w.cell? ⟨b, off + k * 2 + 1, none⟩ = some (.slice q.wa q.ws.length q.wc))
theorem IntsIn.later {k : IntKind} {w w' : World} {a : Option Addr} {l : List Int} {c : Nat} (h : IntsIn k w a l c) (hb : Below w.heap.size w w') : IntsIn k w' a l c := ⟨FlatIn.later h.1 hb, h.2⟩
theorem CnQ.ok.later {w w' : World} {q : CnQ} (h : q.ok w) (hb : Below w.heap.size w w') : q.ok w' := ⟨h.1.later hb, h.2.later hb⟩
theorem CnsIn.later {w w' : World} {a : Option Addr} {l : List CnQ} {c : Nat} (h : CnsIn w a l c) (hb : Below w.heap.size w w') : CnsIn w' a l c := by
  obtain ⟨h2, h3, h4, h | h | ⟨b, off, rfl, hlt, hc⟩⟩ := h
  · exact ⟨h2, h3, fun q hq => (h4 q hq).later hb, Or.inl h⟩
  · exact ⟨h2, h3, fun q hq => (h4 q hq).later hb, Or.inr (Or.inl h)⟩
  · exact ⟨h2, h3, fun q hq => (h4 q hq).later hb, Or.inr (Or.inr ⟨b, off, rfl, Nat.lt_of_lt_of_le hlt hb.size, fun k q hq => ⟨(hb.cell hlt).trans (hc k q hq).1, (hb.cell hlt).trans (hc k q hq).2⟩⟩)⟩
section
variable {H : Type} {enc : TypeId × Value → H} {w : World} {base : Nat} {spare : Nat → Bool} {held : Bool}
theorem nodes_cell {fuel : Nat} {cs : List Value} {y : DataW H × List MemPlace} (hf : DataW.trod enc Try.prog w base spare held fuel 24 cs = some y) :
    ∃ (a : Option Addr) (c : Nat) (l : List Nd), cs = [.slice a l.length c] ∧ NdsIn w a l c := by
  obtain ⟨a, c, l, rfl, h⟩ := flats_cell (n := 4) (ks := kN) Try.underlying24 (by kernel_rfl) (by kernel_rfl) (by decide) hf
  obtain ⟨ns, rfl, _⟩ := nds_of h.2.2.1
  exact ⟨a, c, ns, by simp, h⟩
theorem i8s_cell {fuel : Nat} {cs : List Value} {y : DataW H × List MemPlace} (hf : DataW.trod enc Try.prog w base spare held fuel 50 cs = some y) :
    ∃ (a : Option Addr) (c : Nat) (l : List Int), cs = [.slice a l.length c] ∧ IntsIn .i8 w a l c := by
  obtain ⟨a, c, l, rfl, h⟩ := flats_cell (n := 1) (ks := [.i8]) Try.underlying50 (by kernel_rfl) (by kernel_rfl) (by decide) hf
  obtain ⟨zs, rfl, hw⟩ := one_of h.2.2.1
  exact ⟨a, c, zs, by simp, h, hw⟩
theorem i32s_cell {fuel : Nat} {cs : List Value} {y : DataW H × List MemPlace} (hf : DataW.trod enc Try.prog w base spare held fuel 51 cs = some y) :
    ∃ (a : Option Addr) (c : Nat) (l : List Int), cs = [.slice a l.length c] ∧ IntsIn .i32 w a l c := by
  obtain ⟨a, c, l, rfl, h⟩ := flats_cell (n := 1) (ks := [.i32]) Try.underlying51 (by kernel_rfl) (by kernel_rfl) (by decide) hf
  obtain ⟨zs, rfl, hw⟩ := one_of h.2.2.1
  exact ⟨a, c, zs, by simp, h, hw⟩
theorem const_one {fuel : Nat} {cs : List Value} {y : DataW H × List MemPlace} (hf : DataW.trod enc Try.prog w base spare held fuel 53 cs = some y) : ∃ q : CnQ, q.ok w ∧ cs = q.cells := by
  obtain ⟨xs, n', _, _, hlen, hxl, hg⟩ := DataW.trod_struct Try.underlying53 hf
  have hC : Try.prog.cellsOf 53 = 2 := by kernel_rfl
  have hB : Try.prog.cellsOf 50 = 1 := by kernel_rfl
  have hW : Try.prog.cellsOf 51 = 1 := by kernel_rfl
  rw [hC] at hlen
  match cs, hlen, xs, hxl with
  | [v0, v1], _, [y0, y1], _ =>
    have g0 := hg 0 _ rfl
    have g1 := hg 1 _ rfl
    simp [hB, hW] at g0 g1
    obtain ⟨ba, bc, bs, e0, h0⟩ := i8s_cell g0
    obtain ⟨wa, wc, ws, e1, h1⟩ := i32s_cell g1
    simp at e0 e1
    subst e0 e1
    exact ⟨⟨ba, bc, bs, wa, wc, ws⟩, ⟨h0, h1⟩, rfl⟩
theorem consts_cell {fuel : Nat} {cs : List Value} {y : DataW H × List MemPlace} (hf : DataW.trod enc Try.prog w base spare held fuel 23 cs = some y) :
    ∃ (a : Option Addr) (c : Nat) (l : List CnQ), cs = [.slice a l.length c] ∧ CnsIn w a l c := by
  have hC : Try.prog.cellsOf 53 = 2 := by kernel_rfl
  rcases Go.Deep.open_slice Try.underlying23 hf with ⟨hcs, _⟩ | ⟨x, len, cap, m, n', D, Pl, hcs, _, hl, hm, hmm, _, hi⟩
  · exact ⟨none, 0, [], hcs, by simp, by omega, by simp, Or.inl ⟨rfl, rfl, rfl⟩⟩
  · have hlm : len ≤ m := by rw [hmm]; split <;> omega
    have each : ∀ i, ∃ q : CnQ, i < len → q.ok w ∧ ∀ j, j < 2 → w.cell? (x.add (i * 2 + j)) = q.cells[j]? := by
      intro i
      by_cases hlt : i < len
      · obtain ⟨cs', hc, hd⟩ := hi i (by omega)
        rw [hC] at hc
        obtain ⟨q, hw, rfl⟩ := const_one hd
        obtain ⟨_, _, hat⟩ := World.cells?_some hc
        exact ⟨q, fun _ => ⟨hw, fun j hj => by rw [← Go.Deep.add_add]; exact hat j hj⟩⟩
      · exact ⟨default, fun h => absurd h hlt⟩
    have ⟨f, hff⟩ := Classical.axiomOfChoice each
    refine ⟨some x, cap, (List.range len).map f, by simpa using hcs, by simpa using hl, by simpa [maxLen] using hm, ?_, ?_⟩
    · intro q hq
      simp only [List.mem_map, List.mem_range] at hq
      obtain ⟨i, hlt, rfl⟩ := hq
      exact (hff i hlt).1
    · by_cases h0 : len = 0
      · subst h0
        exact Or.inr (Or.inl ⟨⟨x, rfl⟩, by simp⟩)
      · obtain ⟨bl, off, spot⟩ := x
        have c0 := (hff 0 (by omega)).2 0 (by omega)
        have c0' : w.cell? ((⟨bl, off, spot⟩ : Addr).add 0) = some (.slice (f 0).ba (f 0).bs.length (f 0).bc) := by simpa [CnQ.cells] using c0
        have hspot : spot = none := by simpa [Addr.add] using World.cell?_spot c0'
        subst hspot
        have hb := block_lt_of_cell c0'
        refine Or.inr (Or.inr ⟨bl, off, rfl, by simpa [Addr.add] using hb, ?_⟩)
        intro k q hq
        have hkl : k < len := by
          rcases Nat.lt_or_ge k len with g | g
          · exact g
          · rw [List.getElem?_eq_none (by simpa using g)] at hq; cases hq
        rw [List.getElem?_map, List.getElem?_range hkl] at hq
        obtain rfl : f k = q := by simpa using hq
        have d0 := (hff k hkl).2 0 (by omega)
        have d1 := (hff k hkl).2 1 (by omega)
        have e0 : (⟨bl, off, none⟩ : Addr).add (k * 2 + 0) = ⟨bl, off + k * 2, none⟩ := by unfold Addr.add; split <;> simp_all
        have e1 : (⟨bl, off, none⟩ : Addr).add (k * 2 + 1) = ⟨bl, off + k * 2 + 1, none⟩ := by unfold Addr.add; split <;> simp_all [Nat.add_assoc]
        rw [e0] at d0
        rw [e1] at d1
        exact ⟨d0, d1⟩
/-- a network that came in -/
structure GrQ where
  (x y z : Int) (ca : Option Addr) (cc : Nat) (C : List CnQ) (na : Option Addr) (nc : Nat) (ns : List Nd) (o : Int)
def GrQ.val (g : GrQ) : Value := .agg #[.int .i64 g.x, .int .i64 g.y, .int .i64 g.z, .slice g.ca g.C.length g.cc, .slice g.na g.ns.length g.nc, .int .i64 g.o]
def GrQ.ok (w : World) (g : GrQ) : Prop := ((Lit.int .i64 g.x).wf = true ∧ (Lit.int .i64 g.y).wf = true ∧ (Lit.int .i64 g.z).wf = true) ∧ CnsIn w g.ca g.C g.cc ∧ NdsIn w g.na g.ns g.nc ∧ (Lit.int .i64 g.o).wf = true
def GrQ.gr (g : GrQ) : Gr := ⟨⟨g.x, g.y, g.z⟩, g.C.map CnQ.cn, g.ns, g.o⟩
theorem struct_cells6 {P : Program} {w : World} {r : Reach} {b : Nat} {t : TypeId} {v : Value} {n : Nat} {fs : Array Field}
    (hu : P.underlying t = some (.struct fs)) (hC : P.cellsOf t = n) (h : Value.okWide P w r b t v) : ∃ l : List Value, l.length = n ∧ v = .agg l.toArray := by
  have : ∃ cs, v = .agg cs ∧ cs.size = P.cellsOf t ∧ Row.okWide P w r b t cs := by
    unfold Value.okWide at h
    rw [hu] at h
    exact h
  obtain ⟨cs, rfl, hsz, _⟩ := this
  exact ⟨cs.toList, by simp [hsz, hC], rfl⟩
theorem graph_in {r : Reach} {b : Nat} {v : Value} {d : DataW H} {p : List MemPlace} (hv : Value.okWide Try.prog w r b 26 v) (h : DataW.Trod enc Try.prog w base spare held 26 v d p) :
    ∃ g : GrQ, v = g.val ∧ g.ok w := by
  obtain ⟨l, hl, rfl⟩ := struct_cells6 (n := 6) Try.underlying26 (by kernel_rfl) hv
  obtain ⟨fuel, hf⟩ := h
  obtain ⟨xs, n', _, _, hlen, hxl, hg⟩ := DataW.trod_struct Try.underlying26 hf
  have c3 : Try.prog.cellsOf 22 = 3 := by kernel_rfl
  have cC : Try.prog.cellsOf 23 = 1 := by kernel_rfl
  have cN : Try.prog.cellsOf 24 = 1 := by kernel_rfl
  have cI : Try.prog.cellsOf 3 = 1 := by kernel_rfl
  match l, hl, xs, hxl with
  | [v0, v1, v2, v3, v4, v5], _, [y0, y1, y2, y3], _ =>
    have g0 := hg 0 _ rfl
    have g1 := hg 1 _ rfl
    have g2 := hg 2 _ rfl
    have g3 := hg 3 _ rfl
    simp [Value.cells, c3, cC, cN, cI] at g0 g1 g2 g3
    have s := leaf_ints (P := Try.prog) 2 22 [.i64, .i64, .i64] _ _ _ (by kernel_rfl) g0
    obtain ⟨⟨x, rfl, wx⟩, ⟨y, rfl, wy⟩, ⟨z, rfl, wz⟩, _⟩ := s
    obtain ⟨ca, cc, C, e1, h1⟩ := consts_cell g1
    obtain ⟨na, nc, ns, e2, h2⟩ := nodes_cell g2
    obtain ⟨o, e3, _, wo⟩ := DataW.trod_int Try.underlying3 g3
    simp at e1 e2 e3
    subst e1 e2 e3
    exact ⟨⟨x, y, z, ca, cc, C, na, nc, ns, o⟩, rfl, ⟨wx, wy, wz⟩, h1, h2, wo⟩
end
end Go.Proofs.Ytmifojpmomdmeaa

namespace Go.Proofs.Ytmifojpmomdmeaa
open Go Go.RowKit
set_option linter.unusedVariables false

/-- a node in a block of its own -/
structure NdAt (w : World) (b : Nat) (k : Nd) : Prop where
  lt : b < w.heap.size
  fr : ∀ j : Nat, w.frozen? ⟨b, j, none⟩ = false
  cell : ∀ (j : Nat) (u : Value), k.cells[j]? = some u → w.cell? ⟨b, j, none⟩ = some u
theorem NdAt.set {w : World} {b : Nat} {k k' : Nd} (h : NdAt w b k) (j : Nat) (v : Value) (hj : j < 26) (e : k'.cells = k.cells.set j v) : NdAt (w.setCell ⟨b, j, none⟩ v) b k' := by
  obtain ⟨u, hu⟩ : ∃ u, k.cells[j]? = some u := ⟨_, List.getElem?_eq_getElem (by rw [Nd.cells_len]; exact hj)⟩
  refine ⟨by simpa using h.lt, fun i => by simpa using h.fr i, fun i u hi => ?_⟩
  rw [e] at hi
  by_cases g : i = j
  · subst g
    rw [World.cell?_setCell_same _ _ _ (h.cell _ _ hu)]
    rw [List.getElem?_set_self hj] at hi
    exact hi
  · rw [World.cell?_setCell_other _ _ _ _ (by intro e; simp at e; try exact g e.symm)]
    rw [List.getElem?_set_ne (by omega)] at hi
    exact h.cell i u hi
theorem NdAt.far {w w' : World} {b : Nat} {k : Nd} {r : Option Nat} (h : NdAt w b k) (hg : w.grownBy w' r) (hr : some b ≠ r) : NdAt w' b k :=
  ⟨Nat.lt_of_lt_of_le h.lt hg.size, fun j => (World.frozen?_of_block (hg.block b h.lt hr)).trans (h.fr j), fun j u hu => hg.cell (h.cell j u hu) hr⟩
/-- the block K is written alone, and holds k -/
structure Kept (w0 w : World) (K : Nat) (k : Nd) : Prop where
  at_ : NdAt w K k
  gr : w0.grownBy w (some K)
theorem grownN_set {w w1 : World} {B k : Nat} {x : Value} (h : w.grownBy w1 (some B)) : w.grownBy (w1.setCell ⟨B, k, none⟩ x) (some B) :=
  ⟨h.os, h.tape, h.output, by simpa [World.setCell] using h.size, fun i hk hne => (RowKit.Below.heap_setCell _ _ _ _ (by intro e; exact hne (by rw [e]))).trans (h.block i hk hne)⟩
theorem Kept.start {w : World} {K : Nat} {k : Nd} (h : NdAt w K k) : Kept w w K k := ⟨h, ⟨rfl, rfl, rfl, Nat.le_refl _, fun _ _ _ => rfl⟩⟩
theorem Kept.set {w0 w : World} {K : Nat} {k : Nd} (k' : Nd) (h : Kept w0 w K k) (j : Nat) (v : Value) (hj : j < 26) (e : k'.cells = k.cells.set j v) : Kept w0 (w.setCell ⟨K, j, none⟩ v) K k' :=
  ⟨h.at_.set j v hj e, grownN_set h.gr⟩
theorem Kept.drew {w0 w : World} {K : Nat} {k : Nd} (h : Kept w0 w K k) : Kept w0 w.drew K k := ⟨⟨h.at_.lt, h.at_.fr, h.at_.cell⟩, ⟨h.gr.os, h.gr.tape, h.gr.output, h.gr.size, h.gr.block⟩⟩

set_option maxHeartbeats 1000000 in
theorem take_1 (N K : Nat) (n k : Nd) (w : World) (hN : NdAt w N n) (hK : NdAt w K k) (hne : N ≠ K) :
    Calls Try.prog 67 #[.pointer (some ⟨N, 0, none⟩), .pointer (some ⟨K, 0, none⟩)] w fun e w' => e = .returned (.tuple #[]) ∧ Kept w w' K { k with a := n.a } := by
  have c1 := hN.cell 1 _ rfl
  have d1 := hK.cell 1 _ rfl
  have f1 := hK.fr 1
  have lN := hN.lt
  have lK := hK.lt
  have HK := Lib.hid hK
  clear hN hK
  go_enter Try.func67, Try.ntmps67
  go_wp2_with fail
  go_end0
  exact ⟨rfl, (Kept.set { k with a := n.a } (Kept.start HK.out) 1 _ (by decide) rfl)⟩

set_option maxHeartbeats 1000000 in
theorem take_2 (N K : Nat) (n k : Nd) (w : World) (hN : NdAt w N n) (hK : NdAt w K k) (hne : N ≠ K) :
    Calls Try.prog 68 #[.pointer (some ⟨N, 0, none⟩), .pointer (some ⟨K, 0, none⟩)] w fun e w' => e = .returned (.tuple #[]) ∧ Kept w w' K { k with b := n.b } := by
  have c2 := hN.cell 2 _ rfl
  have d2 := hK.cell 2 _ rfl
  have f2 := hK.fr 2
  have lN := hN.lt
  have lK := hK.lt
  have HK := Lib.hid hK
  clear hN hK
  go_enter Try.func68, Try.ntmps68
  go_wp2_with fail
  go_end0
  exact ⟨rfl, (Kept.set { k with b := n.b } (Kept.start HK.out) 2 _ (by decide) rfl)⟩

set_option maxHeartbeats 1000000 in
theorem take_3 (N K : Nat) (n k : Nd) (w : World) (hN : NdAt w N n) (hK : NdAt w K k) (hne : N ≠ K) :
    Calls Try.prog 69 #[.pointer (some ⟨N, 0, none⟩), .pointer (some ⟨K, 0, none⟩)] w fun e w' => e = .returned (.tuple #[]) ∧ Kept w w' K { k with k0 := n.k0, k1 := n.k1, s0 := n.s0, s1 := n.s1 } := by
  have c3 := hN.cell 3 _ rfl
  have d3 := hK.cell 3 _ rfl
  have f3 := hK.fr 3
  have c4 := hN.cell 4 _ rfl
  have d4 := hK.cell 4 _ rfl
  have f4 := hK.fr 4
  have c5 := hN.cell 5 _ rfl
  have d5 := hK.cell 5 _ rfl
  have f5 := hK.fr 5
  have c6 := hN.cell 6 _ rfl
  have d6 := hK.cell 6 _ rfl
  have f6 := hK.fr 6
  have lN := hN.lt
  have lK := hK.lt
  have HK := Lib.hid hK
  clear hN hK
  go_enter Try.func69, Try.ntmps69
  go_wp2_with fail
  go_region
  go_wp2_with fail
  go_end0
  exact ⟨rfl, (Kept.set { k with k0 := n.k0, k1 := n.k1, s0 := n.s0, s1 := n.s1 } (Kept.set { k with k0 := n.k0, k1 := n.k1, s0 := n.s0 } (Kept.set { k with k0 := n.k0, k1 := n.k1 } (Kept.set { k with k0 := n.k0 } (Kept.start HK.out) 3 _ (by decide) rfl) 4 _ (by decide) rfl) 5 _ (by decide) rfl) 6 _ (by decide) rfl).drew⟩

set_option maxHeartbeats 1000000 in
theorem take_4 (N K : Nat) (n k : Nd) (w : World) (hN : NdAt w N n) (hK : NdAt w K k) (hne : N ≠ K) :
    Calls Try.prog 70 #[.pointer (some ⟨N, 0, none⟩), .pointer (some ⟨K, 0, none⟩)] w fun e w' => e = .returned (.tuple #[]) ∧ Kept w w' K { k with p0 := n.p0, p1 := n.p1, p2 := n.p2, p3 := n.p3 } := by
  have c7 := hN.cell 7 _ rfl
  have d7 := hK.cell 7 _ rfl
  have f7 := hK.fr 7
  have c8 := hN.cell 8 _ rfl
  have d8 := hK.cell 8 _ rfl
  have f8 := hK.fr 8
  have c9 := hN.cell 9 _ rfl
  have d9 := hK.cell 9 _ rfl
  have f9 := hK.fr 9
  have c10 := hN.cell 10 _ rfl
  have d10 := hK.cell 10 _ rfl
  have f10 := hK.fr 10
  have lN := hN.lt
  have lK := hK.lt
  have HK := Lib.hid hK
  clear hN hK
  go_enter Try.func70, Try.ntmps70
  go_wp2_with fail
  go_end0
  exact ⟨rfl, (Kept.set { k with p0 := n.p0, p1 := n.p1, p2 := n.p2, p3 := n.p3 } (Kept.set { k with p0 := n.p0, p1 := n.p1, p2 := n.p2 } (Kept.set { k with p0 := n.p0, p1 := n.p1 } (Kept.set { k with p0 := n.p0 } (Kept.start HK.out) 7 _ (by decide) rfl) 8 _ (by decide) rfl) 9 _ (by decide) rfl) 10 _ (by decide) rfl)⟩

set_option maxHeartbeats 1000000 in
theorem take_5 (N K : Nat) (n k : Nd) (w : World) (hN : NdAt w N n) (hK : NdAt w K k) (hne : N ≠ K) :
    Calls Try.prog 71 #[.pointer (some ⟨N, 0, none⟩), .pointer (some ⟨K, 0, none⟩)] w fun e w' => e = .returned (.tuple #[]) ∧ Kept w w' K { k with za := n.za } := by
  have c11 := hN.cell 11 _ rfl
  have d11 := hK.cell 11 _ rfl
  have f11 := hK.fr 11
  have lN := hN.lt
  have lK := hK.lt
  have HK := Lib.hid hK
  clear hN hK
  go_enter Try.func71, Try.ntmps71
  go_wp2_with fail
  go_end0
  exact ⟨rfl, (Kept.set { k with za := n.za } (Kept.start HK.out) 11 _ (by decide) rfl)⟩

set_option maxHeartbeats 1000000 in
theorem take_6 (N K : Nat) (n k : Nd) (w : World) (hN : NdAt w N n) (hK : NdAt w K k) (hne : N ≠ K) :
    Calls Try.prog 72 #[.pointer (some ⟨N, 0, none⟩), .pointer (some ⟨K, 0, none⟩)] w fun e w' => e = .returned (.tuple #[]) ∧ Kept w w' K { k with zb := n.zb } := by
  have c12 := hN.cell 12 _ rfl
  have d12 := hK.cell 12 _ rfl
  have f12 := hK.fr 12
  have lN := hN.lt
  have lK := hK.lt
  have HK := Lib.hid hK
  clear hN hK
  go_enter Try.func72, Try.ntmps72
  go_wp2_with fail
  go_end0
  exact ⟨rfl, (Kept.set { k with zb := n.zb } (Kept.start HK.out) 12 _ (by decide) rfl)⟩

set_option maxHeartbeats 1000000 in
theorem take_7 (N K : Nat) (n k : Nd) (w : World) (hN : NdAt w N n) (hK : NdAt w K k) (hne : N ≠ K) :
    Calls Try.prog 73 #[.pointer (some ⟨N, 0, none⟩), .pointer (some ⟨K, 0, none⟩)] w fun e w' => e = .returned (.tuple #[]) ∧ Kept w w' K { k with zo := n.zo } := by
  have c13 := hN.cell 13 _ rfl
  have d13 := hK.cell 13 _ rfl
  have f13 := hK.fr 13
  have lN := hN.lt
  have lK := hK.lt
  have HK := Lib.hid hK
  clear hN hK
  go_enter Try.func73, Try.ntmps73
  go_wp2_with fail
  go_end0
  exact ⟨rfl, (Kept.set { k with zo := n.zo } (Kept.start HK.out) 13 _ (by decide) rfl)⟩

set_option maxHeartbeats 1000000 in
theorem take_8 (N K : Nat) (n k : Nd) (w : World) (hN : NdAt w N n) (hK : NdAt w K k) (hne : N ≠ K) :
    Calls Try.prog 74 #[.pointer (some ⟨N, 0, none⟩), .pointer (some ⟨K, 0, none⟩)] w fun e w' => e = .returned (.tuple #[]) ∧ Kept w w' K { k with m1 := n.m1, t1 := n.t1 } := by
  have c14 := hN.cell 14 _ rfl
  have d14 := hK.cell 14 _ rfl
  have f14 := hK.fr 14
  have c16 := hN.cell 16 _ rfl
  have d16 := hK.cell 16 _ rfl
  have f16 := hK.fr 16
  have lN := hN.lt
  have lK := hK.lt
  have HK := Lib.hid hK
  clear hN hK
  go_enter Try.func74, Try.ntmps74
  go_wp2_with fail
  go_region
  go_wp2_with fail
  go_end0
  exact ⟨rfl, (Kept.set { k with m1 := n.m1, t1 := n.t1 } (Kept.set { k with m1 := n.m1 } (Kept.start HK.out) 14 _ (by decide) rfl) 16 _ (by decide) rfl).drew⟩

set_option maxHeartbeats 1000000 in
theorem take_9 (N K : Nat) (n k : Nd) (w : World) (hN : NdAt w N n) (hK : NdAt w K k) (hne : N ≠ K) :
    Calls Try.prog 75 #[.pointer (some ⟨N, 0, none⟩), .pointer (some ⟨K, 0, none⟩)] w fun e w' => e = .returned (.tuple #[]) ∧ Kept w w' K { k with m2 := n.m2, t2 := n.t2 } := by
  have c15 := hN.cell 15 _ rfl
  have d15 := hK.cell 15 _ rfl
  have f15 := hK.fr 15
  have c17 := hN.cell 17 _ rfl
  have d17 := hK.cell 17 _ rfl
  have f17 := hK.fr 17
  have lN := hN.lt
  have lK := hK.lt
  have HK := Lib.hid hK
  clear hN hK
  go_enter Try.func75, Try.ntmps75
  go_wp2_with fail
  go_region
  go_wp2_with fail
  go_end0
  exact ⟨rfl, (Kept.set { k with m2 := n.m2, t2 := n.t2 } (Kept.set { k with m2 := n.m2 } (Kept.start HK.out) 15 _ (by decide) rfl) 17 _ (by decide) rfl).drew⟩

set_option maxHeartbeats 1000000 in
theorem take_10 (N K : Nat) (n k : Nd) (w : World) (hN : NdAt w N n) (hK : NdAt w K k) (hne : N ≠ K) :
    Calls Try.prog 76 #[.pointer (some ⟨N, 0, none⟩), .pointer (some ⟨K, 0, none⟩)] w fun e w' => e = .returned (.tuple #[]) ∧ Kept w w' K { k with lo := n.lo, hi := n.hi } := by
  have c18 := hN.cell 18 _ rfl
  have d18 := hK.cell 18 _ rfl
  have f18 := hK.fr 18
  have c19 := hN.cell 19 _ rfl
  have d19 := hK.cell 19 _ rfl
  have f19 := hK.fr 19
  have lN := hN.lt
  have lK := hK.lt
  have HK := Lib.hid hK
  clear hN hK
  go_enter Try.func76, Try.ntmps76
  go_wp2_with fail
  go_region
  go_wp2_with fail
  go_end0
  exact ⟨rfl, (Kept.set { k with lo := n.lo, hi := n.hi } (Kept.set { k with lo := n.lo } (Kept.start HK.out) 18 _ (by decide) rfl) 19 _ (by decide) rfl).drew⟩

set_option maxHeartbeats 1000000 in
theorem take_11 (N K : Nat) (n k : Nd) (w : World) (hN : NdAt w N n) (hK : NdAt w K k) (hne : N ≠ K) :
    Calls Try.prog 77 #[.pointer (some ⟨N, 0, none⟩), .pointer (some ⟨K, 0, none⟩)] w fun e w' => e = .returned (.tuple #[]) ∧ Kept w w' K { k with w := n.w } := by
  have c20 := hN.cell 20 _ rfl
  have d20 := hK.cell 20 _ rfl
  have f20 := hK.fr 20
  have lN := hN.lt
  have lK := hK.lt
  have HK := Lib.hid hK
  clear hN hK
  go_enter Try.func77, Try.ntmps77
  go_wp2_with fail
  go_end0
  exact ⟨rfl, (Kept.set { k with w := n.w } (Kept.start HK.out) 20 _ (by decide) rfl)⟩

set_option maxHeartbeats 1000000 in
theorem take_12 (N K : Nat) (n k : Nd) (w : World) (hN : NdAt w N n) (hK : NdAt w K k) (hne : N ≠ K) :
    Calls Try.prog 78 #[.pointer (some ⟨N, 0, none⟩), .pointer (some ⟨K, 0, none⟩)] w fun e w' => e = .returned (.tuple #[]) ∧ Kept w w' K { k with bias := n.bias } := by
  have c21 := hN.cell 21 _ rfl
  have d21 := hK.cell 21 _ rfl
  have f21 := hK.fr 21
  have lN := hN.lt
  have lK := hK.lt
  have HK := Lib.hid hK
  clear hN hK
  go_enter Try.func78, Try.ntmps78
  go_wp2_with fail
  go_end0
  exact ⟨rfl, (Kept.set { k with bias := n.bias } (Kept.start HK.out) 21 _ (by decide) rfl)⟩

set_option maxHeartbeats 1000000 in
theorem take_13 (N K : Nat) (n k : Nd) (w : World) (hN : NdAt w N n) (hK : NdAt w K k) (hne : N ≠ K) :
    Calls Try.prog 79 #[.pointer (some ⟨N, 0, none⟩), .pointer (some ⟨K, 0, none⟩)] w fun e w' => e = .returned (.tuple #[]) ∧ Kept w w' K { k with chans := n.chans } := by
  have c22 := hN.cell 22 _ rfl
  have d22 := hK.cell 22 _ rfl
  have f22 := hK.fr 22
  have lN := hN.lt
  have lK := hK.lt
  have HK := Lib.hid hK
  clear hN hK
  go_enter Try.func79, Try.ntmps79
  go_wp2_with fail
  go_end0
  exact ⟨rfl, (Kept.set { k with chans := n.chans } (Kept.start HK.out) 22 _ (by decide) rfl)⟩

set_option maxHeartbeats 1000000 in
theorem take_14 (N K : Nat) (n k : Nd) (w : World) (hN : NdAt w N n) (hK : NdAt w K k) (hne : N ≠ K) :
    Calls Try.prog 80 #[.pointer (some ⟨N, 0, none⟩), .pointer (some ⟨K, 0, none⟩)] w fun e w' => e = .returned (.tuple #[]) ∧ Kept w w' K { k with h0 := n.h0, h1 := n.h1, h2 := n.h2 } := by
  have c23 := hN.cell 23 _ rfl
  have d23 := hK.cell 23 _ rfl
  have f23 := hK.fr 23
  have c24 := hN.cell 24 _ rfl
  have d24 := hK.cell 24 _ rfl
  have f24 := hK.fr 24
  have c25 := hN.cell 25 _ rfl
  have d25 := hK.cell 25 _ rfl
  have f25 := hK.fr 25
  have lN := hN.lt
  have lK := hK.lt
  have HK := Lib.hid hK
  clear hN hK
  go_enter Try.func80, Try.ntmps80
  go_wp2_with fail
  go_end0
  exact ⟨rfl, (Kept.set { k with h0 := n.h0, h1 := n.h1, h2 := n.h2 } (Kept.set { k with h0 := n.h0, h1 := n.h1 } (Kept.set { k with h0 := n.h0 } (Kept.start HK.out) 23 _ (by decide) rfl) 24 _ (by decide) rfl) 25 _ (by decide) rfl)⟩
end Go.Proofs.Ytmifojpmomdmeaa

namespace Go.Proofs.Ytmifojpmomdmeaa
open Go Go.RowKit
set_option linter.unusedVariables false

def hasV (o : Int) : Int :=
  if o = 1 then 9216 else if o = 2 then 7901 else if o = 3 then 3805 else if o = 4 then 7889 else if o = 5 then 13 else if o = 6 then 13 else if o = 7 then 1011 else
  if o = 8 then 755 else if o = 9 then 513 else if o = 10 then 73 else if o = 11 then 8193 else if o = 12 then 3 else if o = 13 then 1 else 1025
theorem ops14 {o : Int} (h : 1 ≤ o ∧ o ≤ 14) : o = 1 ∨ o = 2 ∨ o = 3 ∨ o = 4 ∨ o = 5 ∨ o = 6 ∨ o = 7 ∨ o = 8 ∨ o = 9 ∨ o = 10 ∨ o = 11 ∨ o = 12 ∨ o = 13 ∨ o = 14 := by omega
set_option maxHeartbeats 2000000 in
theorem has_any (o : Int) (h : 1 ≤ o ∧ o ≤ 14) (w : World) : Calls Try.prog 53 #[.int .i64 o] w fun e w' => e = .returned (.int .i64 (hasV o)) ∧ w' = w := by
  rcases ops14 h with rfl | rfl | rfl | rfl | rfl | rfl | rfl | rfl | rfl | rfl | rfl | rfl | rfl | rfl
  all_goals
    go_enter Try.func53, Try.ntmps53
    go_wp2_with fail
    go_ret
    exact ⟨rfl, rfl⟩
def keep1 (h : Int) (n k : Nd) : Nd := if bits .and .i64 h 1 = 0 then k else { k with a := n.a }
def keep2 (h : Int) (n k : Nd) : Nd := if bits .and .i64 h 2 = 0 then k else { k with b := n.b }
def keep3 (h : Int) (n k : Nd) : Nd := if bits .and .i64 h 4 = 0 then k else { k with k0 := n.k0, k1 := n.k1, s0 := n.s0, s1 := n.s1 }
def keep4 (h : Int) (n k : Nd) : Nd := if bits .and .i64 h 8 = 0 then k else { k with p0 := n.p0, p1 := n.p1, p2 := n.p2, p3 := n.p3 }
def keep5 (h : Int) (n k : Nd) : Nd := if bits .and .i64 h 16 = 0 then k else { k with za := n.za }
def keep6 (h : Int) (n k : Nd) : Nd := if bits .and .i64 h 32 = 0 then k else { k with zb := n.zb }
def keep7 (h : Int) (n k : Nd) : Nd := if bits .and .i64 h 64 = 0 then k else { k with zo := n.zo }
def keep8 (h : Int) (n k : Nd) : Nd := if bits .and .i64 h 128 = 0 then k else { k with m1 := n.m1, t1 := n.t1 }
def keep9 (h : Int) (n k : Nd) : Nd := if bits .and .i64 h 256 = 0 then k else { k with m2 := n.m2, t2 := n.t2 }
def keep10 (h : Int) (n k : Nd) : Nd := if bits .and .i64 h 512 = 0 then k else { k with lo := n.lo, hi := n.hi }
def keep11 (h : Int) (n k : Nd) : Nd := if bits .and .i64 h 1024 = 0 then k else { k with w := n.w }
def keep12 (h : Int) (n k : Nd) : Nd := if bits .and .i64 h 2048 = 0 then k else { k with bias := n.bias }
def keep13 (h : Int) (n k : Nd) : Nd := if bits .and .i64 h 4096 = 0 then k else { k with chans := n.chans }
def keep14 (h : Int) (n k : Nd) : Nd := if bits .and .i64 h 8192 = 0 then k else { k with h0 := n.h0, h1 := n.h1, h2 := n.h2 }
set_option maxHeartbeats 1000000 in
theorem only_no (H : Nat) (h bit : Int) (f : Value) (w : World) (c : w.cell? ⟨H, 0, none⟩ = some (.int .i64 h)) (hb : bits .and .i64 h bit = 0) :
    Calls Try.prog 66 #[.int .i64 bit, f, .pointer (some ⟨H, 0, none⟩)] w fun e w' => e = .returned (.tuple #[]) ∧ w' = w := by
  go_enter Try.func66, Try.ntmps66
  go_wp2_with fail
  go_end0
  exact ⟨rfl, rfl⟩
set_option maxHeartbeats 1000000 in
theorem only_1 (N K H : Nat) (n k : Nd) (h : Int) (w : World) (hN : NdAt w N n) (hK : NdAt w K k) (hne : N ≠ K) (c : w.cell? ⟨H, 0, none⟩ = some (.int .i64 h)) :
    Calls Try.prog 66 #[.int .i64 1, .func (.func 67) #[] #[.pointer (some ⟨N, 0, none⟩), .pointer (some ⟨K, 0, none⟩)], .pointer (some ⟨H, 0, none⟩)] w fun e w' => e = .returned (.tuple #[]) ∧ Kept w w' K (keep1 h n k) := by
  unfold keep1
  by_cases hb : bits .and .i64 h 1 = 0
  · refine (only_no H h 1 _ w c hb).mono ?_
    rintro e w' ⟨rfl, rfl⟩
    rw [if_pos hb]
    exact ⟨rfl, Kept.start hK⟩
  · rw [if_neg hb]
    have TK := Lib.hid (take_1 N K n k w hN hK hne)
    clear hN hK
    go_enter Try.func66, Try.ntmps66
    go_wp2_with fail
    refine TK.out.mono ?_
    rintro e w' ⟨rfl, kp⟩
    go_wp2_with fail
    go_end0
    exact ⟨rfl, kp⟩
set_option maxHeartbeats 1000000 in
theorem only_2 (N K H : Nat) (n k : Nd) (h : Int) (w : World) (hN : NdAt w N n) (hK : NdAt w K k) (hne : N ≠ K) (c : w.cell? ⟨H, 0, none⟩ = some (.int .i64 h)) :
    Calls Try.prog 66 #[.int .i64 2, .func (.func 68) #[] #[.pointer (some ⟨N, 0, none⟩), .pointer (some ⟨K, 0, none⟩)], .pointer (some ⟨H, 0, none⟩)] w fun e w' => e = .returned (.tuple #[]) ∧ Kept w w' K (keep2 h n k) := by
  unfold keep2
  by_cases hb : bits .and .i64 h 2 = 0
  · refine (only_no H h 2 _ w c hb).mono ?_
    rintro e w' ⟨rfl, rfl⟩
    rw [if_pos hb]
    exact ⟨rfl, Kept.start hK⟩
  · rw [if_neg hb]
    have TK := Lib.hid (take_2 N K n k w hN hK hne)
    clear hN hK
    go_enter Try.func66, Try.ntmps66
    go_wp2_with fail
    refine TK.out.mono ?_
    rintro e w' ⟨rfl, kp⟩
    go_wp2_with fail
    go_end0
    exact ⟨rfl, kp⟩
set_option maxHeartbeats 1000000 in
theorem only_3 (N K H : Nat) (n k : Nd) (h : Int) (w : World) (hN : NdAt w N n) (hK : NdAt w K k) (hne : N ≠ K) (c : w.cell? ⟨H, 0, none⟩ = some (.int .i64 h)) :
    Calls Try.prog 66 #[.int .i64 4, .func (.func 69) #[] #[.pointer (some ⟨N, 0, none⟩), .pointer (some ⟨K, 0, none⟩)], .pointer (some ⟨H, 0, none⟩)] w fun e w' => e = .returned (.tuple #[]) ∧ Kept w w' K (keep3 h n k) := by
  unfold keep3
  by_cases hb : bits .and .i64 h 4 = 0
  · refine (only_no H h 4 _ w c hb).mono ?_
    rintro e w' ⟨rfl, rfl⟩
    rw [if_pos hb]
    exact ⟨rfl, Kept.start hK⟩
  · rw [if_neg hb]
    have TK := Lib.hid (take_3 N K n k w hN hK hne)
    clear hN hK
    go_enter Try.func66, Try.ntmps66
    go_wp2_with fail
    refine TK.out.mono ?_
    rintro e w' ⟨rfl, kp⟩
    go_wp2_with fail
    go_end0
    exact ⟨rfl, kp⟩
set_option maxHeartbeats 1000000 in
theorem only_4 (N K H : Nat) (n k : Nd) (h : Int) (w : World) (hN : NdAt w N n) (hK : NdAt w K k) (hne : N ≠ K) (c : w.cell? ⟨H, 0, none⟩ = some (.int .i64 h)) :
    Calls Try.prog 66 #[.int .i64 8, .func (.func 70) #[] #[.pointer (some ⟨N, 0, none⟩), .pointer (some ⟨K, 0, none⟩)], .pointer (some ⟨H, 0, none⟩)] w fun e w' => e = .returned (.tuple #[]) ∧ Kept w w' K (keep4 h n k) := by
  unfold keep4
  by_cases hb : bits .and .i64 h 8 = 0
  · refine (only_no H h 8 _ w c hb).mono ?_
    rintro e w' ⟨rfl, rfl⟩
    rw [if_pos hb]
    exact ⟨rfl, Kept.start hK⟩
  · rw [if_neg hb]
    have TK := Lib.hid (take_4 N K n k w hN hK hne)
    clear hN hK
    go_enter Try.func66, Try.ntmps66
    go_wp2_with fail
    refine TK.out.mono ?_
    rintro e w' ⟨rfl, kp⟩
    go_wp2_with fail
    go_end0
    exact ⟨rfl, kp⟩
set_option maxHeartbeats 1000000 in
theorem only_5 (N K H : Nat) (n k : Nd) (h : Int) (w : World) (hN : NdAt w N n) (hK : NdAt w K k) (hne : N ≠ K) (c : w.cell? ⟨H, 0, none⟩ = some (.int .i64 h)) :
    Calls Try.prog 66 #[.int .i64 16, .func (.func 71) #[] #[.pointer (some ⟨N, 0, none⟩), .pointer (some ⟨K, 0, none⟩)], .pointer (some ⟨H, 0, none⟩)] w fun e w' => e = .returned (.tuple #[]) ∧ Kept w w' K (keep5 h n k) := by
  unfold keep5
  by_cases hb : bits .and .i64 h 16 = 0
  · refine (only_no H h 16 _ w c hb).mono ?_
    rintro e w' ⟨rfl, rfl⟩
    rw [if_pos hb]
    exact ⟨rfl, Kept.start hK⟩
  · rw [if_neg hb]
    have TK := Lib.hid (take_5 N K n k w hN hK hne)
    clear hN hK
    go_enter Try.func66, Try.ntmps66
    go_wp2_with fail
    refine TK.out.mono ?_
    rintro e w' ⟨rfl, kp⟩
    go_wp2_with fail
    go_end0
    exact ⟨rfl, kp⟩
set_option maxHeartbeats 1000000 in
theorem only_6 (N K H : Nat) (n k : Nd) (h : Int) (w : World) (hN : NdAt w N n) (hK : NdAt w K k) (hne : N ≠ K) (c : w.cell? ⟨H, 0, none⟩ = some (.int .i64 h)) :
    Calls Try.prog 66 #[.int .i64 32, .func (.func 72) #[] #[.pointer (some ⟨N, 0, none⟩), .pointer (some ⟨K, 0, none⟩)], .pointer (some ⟨H, 0, none⟩)] w fun e w' => e = .returned (.tuple #[]) ∧ Kept w w' K (keep6 h n k) := by
  unfold keep6
  by_cases hb : bits .and .i64 h 32 = 0
  · refine (only_no H h 32 _ w c hb).mono ?_
    rintro e w' ⟨rfl, rfl⟩
    rw [if_pos hb]
    exact ⟨rfl, Kept.start hK⟩
  · rw [if_neg hb]
    have TK := Lib.hid (take_6 N K n k w hN hK hne)
    clear hN hK
    go_enter Try.func66, Try.ntmps66
    go_wp2_with fail
    refine TK.out.mono ?_
    rintro e w' ⟨rfl, kp⟩
    go_wp2_with fail
    go_end0
    exact ⟨rfl, kp⟩
set_option maxHeartbeats 1000000 in
theorem only_7 (N K H : Nat) (n k : Nd) (h : Int) (w : World) (hN : NdAt w N n) (hK : NdAt w K k) (hne : N ≠ K) (c : w.cell? ⟨H, 0, none⟩ = some (.int .i64 h)) :
    Calls Try.prog 66 #[.int .i64 64, .func (.func 73) #[] #[.pointer (some ⟨N, 0, none⟩), .pointer (some ⟨K, 0, none⟩)], .pointer (some ⟨H, 0, none⟩)] w fun e w' => e = .returned (.tuple #[]) ∧ Kept w w' K (keep7 h n k) := by
  unfold keep7
  by_cases hb : bits .and .i64 h 64 = 0
  · refine (only_no H h 64 _ w c hb).mono ?_
    rintro e w' ⟨rfl, rfl⟩
    rw [if_pos hb]
    exact ⟨rfl, Kept.start hK⟩
  · rw [if_neg hb]
    have TK := Lib.hid (take_7 N K n k w hN hK hne)
    clear hN hK
    go_enter Try.func66, Try.ntmps66
    go_wp2_with fail
    refine TK.out.mono ?_
    rintro e w' ⟨rfl, kp⟩
    go_wp2_with fail
    go_end0
    exact ⟨rfl, kp⟩
set_option maxHeartbeats 1000000 in
theorem only_8 (N K H : Nat) (n k : Nd) (h : Int) (w : World) (hN : NdAt w N n) (hK : NdAt w K k) (hne : N ≠ K) (c : w.cell? ⟨H, 0, none⟩ = some (.int .i64 h)) :
    Calls Try.prog 66 #[.int .i64 128, .func (.func 74) #[] #[.pointer (some ⟨N, 0, none⟩), .pointer (some ⟨K, 0, none⟩)], .pointer (some ⟨H, 0, none⟩)] w fun e w' => e = .returned (.tuple #[]) ∧ Kept w w' K (keep8 h n k) := by
  unfold keep8
  by_cases hb : bits .and .i64 h 128 = 0
  · refine (only_no H h 128 _ w c hb).mono ?_
    rintro e w' ⟨rfl, rfl⟩
    rw [if_pos hb]
    exact ⟨rfl, Kept.start hK⟩
  · rw [if_neg hb]
    have TK := Lib.hid (take_8 N K n k w hN hK hne)
    clear hN hK
    go_enter Try.func66, Try.ntmps66
    go_wp2_with fail
    refine TK.out.mono ?_
    rintro e w' ⟨rfl, kp⟩
    go_wp2_with fail
    go_end0
    exact ⟨rfl, kp⟩
set_option maxHeartbeats 1000000 in
theorem only_9 (N K H : Nat) (n k : Nd) (h : Int) (w : World) (hN : NdAt w N n) (hK : NdAt w K k) (hne : N ≠ K) (c : w.cell? ⟨H, 0, none⟩ = some (.int .i64 h)) :
    Calls Try.prog 66 #[.int .i64 256, .func (.func 75) #[] #[.pointer (some ⟨N, 0, none⟩), .pointer (some ⟨K, 0, none⟩)], .pointer (some ⟨H, 0, none⟩)] w fun e w' => e = .returned (.tuple #[]) ∧ Kept w w' K (keep9 h n k) := by
  unfold keep9
  by_cases hb : bits .and .i64 h 256 = 0
  · refine (only_no H h 256 _ w c hb).mono ?_
    rintro e w' ⟨rfl, rfl⟩
    rw [if_pos hb]
    exact ⟨rfl, Kept.start hK⟩
  · rw [if_neg hb]
    have TK := Lib.hid (take_9 N K n k w hN hK hne)
    clear hN hK
    go_enter Try.func66, Try.ntmps66
    go_wp2_with fail
    refine TK.out.mono ?_
    rintro e w' ⟨rfl, kp⟩
    go_wp2_with fail
    go_end0
    exact ⟨rfl, kp⟩
set_option maxHeartbeats 1000000 in
theorem only_10 (N K H : Nat) (n k : Nd) (h : Int) (w : World) (hN : NdAt w N n) (hK : NdAt w K k) (hne : N ≠ K) (c : w.cell? ⟨H, 0, none⟩ = some (.int .i64 h)) :
    Calls Try.prog 66 #[.int .i64 512, .func (.func 76) #[] #[.pointer (some ⟨N, 0, none⟩), .pointer (some ⟨K, 0, none⟩)], .pointer (some ⟨H, 0, none⟩)] w fun e w' => e = .returned (.tuple #[]) ∧ Kept w w' K (keep10 h n k) := by
  unfold keep10
  by_cases hb : bits .and .i64 h 512 = 0
  · refine (only_no H h 512 _ w c hb).mono ?_
    rintro e w' ⟨rfl, rfl⟩
    rw [if_pos hb]
    exact ⟨rfl, Kept.start hK⟩
  · rw [if_neg hb]
    have TK := Lib.hid (take_10 N K n k w hN hK hne)
    clear hN hK
    go_enter Try.func66, Try.ntmps66
    go_wp2_with fail
    refine TK.out.mono ?_
    rintro e w' ⟨rfl, kp⟩
    go_wp2_with fail
    go_end0
    exact ⟨rfl, kp⟩
set_option maxHeartbeats 1000000 in
theorem only_11 (N K H : Nat) (n k : Nd) (h : Int) (w : World) (hN : NdAt w N n) (hK : NdAt w K k) (hne : N ≠ K) (c : w.cell? ⟨H, 0, none⟩ = some (.int .i64 h)) :
    Calls Try.prog 66 #[.int .i64 1024, .func (.func 77) #[] #[.pointer (some ⟨N, 0, none⟩), .pointer (some ⟨K, 0, none⟩)], .pointer (some ⟨H, 0, none⟩)] w fun e w' => e = .returned (.tuple #[]) ∧ Kept w w' K (keep11 h n k) := by
  unfold keep11
  by_cases hb : bits .and .i64 h 1024 = 0
  · refine (only_no H h 1024 _ w c hb).mono ?_
    rintro e w' ⟨rfl, rfl⟩
    rw [if_pos hb]
    exact ⟨rfl, Kept.start hK⟩
  · rw [if_neg hb]
    have TK := Lib.hid (take_11 N K n k w hN hK hne)
    clear hN hK
    go_enter Try.func66, Try.ntmps66
    go_wp2_with fail
    refine TK.out.mono ?_
    rintro e w' ⟨rfl, kp⟩
    go_wp2_with fail
    go_end0
    exact ⟨rfl, kp⟩
set_option maxHeartbeats 1000000 in
theorem only_12 (N K H : Nat) (n k : Nd) (h : Int) (w : World) (hN : NdAt w N n) (hK : NdAt w K k) (hne : N ≠ K) (c : w.cell? ⟨H, 0, none⟩ = some (.int .i64 h)) :
    Calls Try.prog 66 #[.int .i64 2048, .func (.func 78) #[] #[.pointer (some ⟨N, 0, none⟩), .pointer (some ⟨K, 0, none⟩)], .pointer (some ⟨H, 0, none⟩)] w fun e w' => e = .returned (.tuple #[]) ∧ Kept w w' K (keep12 h n k) := by
  unfold keep12
  by_cases hb : bits .and .i64 h 2048 = 0
  · refine (only_no H h 2048 _ w c hb).mono ?_
    rintro e w' ⟨rfl, rfl⟩
    rw [if_pos hb]
    exact ⟨rfl, Kept.start hK⟩
  · rw [if_neg hb]
    have TK := Lib.hid (take_12 N K n k w hN hK hne)
    clear hN hK
    go_enter Try.func66, Try.ntmps66
    go_wp2_with fail
    refine TK.out.mono ?_
    rintro e w' ⟨rfl, kp⟩
    go_wp2_with fail
    go_end0
    exact ⟨rfl, kp⟩
set_option maxHeartbeats 1000000 in
theorem only_13 (N K H : Nat) (n k : Nd) (h : Int) (w : World) (hN : NdAt w N n) (hK : NdAt w K k) (hne : N ≠ K) (c : w.cell? ⟨H, 0, none⟩ = some (.int .i64 h)) :
    Calls Try.prog 66 #[.int .i64 4096, .func (.func 79) #[] #[.pointer (some ⟨N, 0, none⟩), .pointer (some ⟨K, 0, none⟩)], .pointer (some ⟨H, 0, none⟩)] w fun e w' => e = .returned (.tuple #[]) ∧ Kept w w' K (keep13 h n k) := by
  unfold keep13
  by_cases hb : bits .and .i64 h 4096 = 0
  · refine (only_no H h 4096 _ w c hb).mono ?_
    rintro e w' ⟨rfl, rfl⟩
    rw [if_pos hb]
    exact ⟨rfl, Kept.start hK⟩
  · rw [if_neg hb]
    have TK := Lib.hid (take_13 N K n k w hN hK hne)
    clear hN hK
    go_enter Try.func66, Try.ntmps66
    go_wp2_with fail
    refine TK.out.mono ?_
    rintro e w' ⟨rfl, kp⟩
    go_wp2_with fail
    go_end0
    exact ⟨rfl, kp⟩
set_option maxHeartbeats 1000000 in
theorem only_14 (N K H : Nat) (n k : Nd) (h : Int) (w : World) (hN : NdAt w N n) (hK : NdAt w K k) (hne : N ≠ K) (c : w.cell? ⟨H, 0, none⟩ = some (.int .i64 h)) :
    Calls Try.prog 66 #[.int .i64 8192, .func (.func 80) #[] #[.pointer (some ⟨N, 0, none⟩), .pointer (some ⟨K, 0, none⟩)], .pointer (some ⟨H, 0, none⟩)] w fun e w' => e = .returned (.tuple #[]) ∧ Kept w w' K (keep14 h n k) := by
  unfold keep14
  by_cases hb : bits .and .i64 h 8192 = 0
  · refine (only_no H h 8192 _ w c hb).mono ?_
    rintro e w' ⟨rfl, rfl⟩
    rw [if_pos hb]
    exact ⟨rfl, Kept.start hK⟩
  · rw [if_neg hb]
    have TK := Lib.hid (take_14 N K n k w hN hK hne)
    clear hN hK
    go_enter Try.func66, Try.ntmps66
    go_wp2_with fail
    refine TK.out.mono ?_
    rintro e w' ⟨rfl, kp⟩
    go_wp2_with fail
    go_end0
    exact ⟨rfl, kp⟩
end Go.Proofs.Ytmifojpmomdmeaa

namespace Go.Proofs.Ytmifojpmomdmeaa
open Go Go.RowKit
set_option linter.unusedVariables false

theorem bit_1 {o : Int} (h : 1 ≤ o ∧ o ≤ 14) : bits .and .i64 (hasV o) 1 = 0 ↔ hA o = false := by
  rcases ops14 h with rfl | rfl | rfl | rfl | rfl | rfl | rfl | rfl | rfl | rfl | rfl | rfl | rfl | rfl <;> decide
theorem bit_2 {o : Int} (h : 1 ≤ o ∧ o ≤ 14) : bits .and .i64 (hasV o) 2 = 0 ↔ hB o = false := by
  rcases ops14 h with rfl | rfl | rfl | rfl | rfl | rfl | rfl | rfl | rfl | rfl | rfl | rfl | rfl | rfl <;> decide
theorem bit_3 {o : Int} (h : 1 ≤ o ∧ o ≤ 14) : bits .and .i64 (hasV o) 4 = 0 ↔ hWin o = false := by
  rcases ops14 h with rfl | rfl | rfl | rfl | rfl | rfl | rfl | rfl | rfl | rfl | rfl | rfl | rfl | rfl <;> decide
theorem bit_4 {o : Int} (h : 1 ≤ o ∧ o ≤ 14) : bits .and .i64 (hasV o) 8 = 0 ↔ hPad o = false := by
  rcases ops14 h with rfl | rfl | rfl | rfl | rfl | rfl | rfl | rfl | rfl | rfl | rfl | rfl | rfl | rfl <;> decide
theorem bit_5 {o : Int} (h : 1 ≤ o ∧ o ≤ 14) : bits .and .i64 (hasV o) 16 = 0 ↔ hZa o = false := by
  rcases ops14 h with rfl | rfl | rfl | rfl | rfl | rfl | rfl | rfl | rfl | rfl | rfl | rfl | rfl | rfl <;> decide
theorem bit_6 {o : Int} (h : 1 ≤ o ∧ o ≤ 14) : bits .and .i64 (hasV o) 32 = 0 ↔ hZb o = false := by
  rcases ops14 h with rfl | rfl | rfl | rfl | rfl | rfl | rfl | rfl | rfl | rfl | rfl | rfl | rfl | rfl <;> decide
theorem bit_7 {o : Int} (h : 1 ≤ o ∧ o ≤ 14) : bits .and .i64 (hasV o) 64 = 0 ↔ hZo o = false := by
  rcases ops14 h with rfl | rfl | rfl | rfl | rfl | rfl | rfl | rfl | rfl | rfl | rfl | rfl | rfl | rfl <;> decide
theorem bit_8 {o : Int} (h : 1 ≤ o ∧ o ≤ 14) : bits .and .i64 (hasV o) 128 = 0 ↔ hM o = false := by
  rcases ops14 h with rfl | rfl | rfl | rfl | rfl | rfl | rfl | rfl | rfl | rfl | rfl | rfl | rfl | rfl <;> decide
theorem bit_9 {o : Int} (h : 1 ≤ o ∧ o ≤ 14) : bits .and .i64 (hasV o) 256 = 0 ↔ hN o = false := by
  rcases ops14 h with rfl | rfl | rfl | rfl | rfl | rfl | rfl | rfl | rfl | rfl | rfl | rfl | rfl | rfl <;> decide
theorem bit_10 {o : Int} (h : 1 ≤ o ∧ o ≤ 14) : bits .and .i64 (hasV o) 512 = 0 ↔ hL o = false := by
  rcases ops14 h with rfl | rfl | rfl | rfl | rfl | rfl | rfl | rfl | rfl | rfl | rfl | rfl | rfl | rfl <;> decide
theorem bit_11 {o : Int} (h : 1 ≤ o ∧ o ≤ 14) : bits .and .i64 (hasV o) 1024 = 0 ↔ hW o = false := by
  rcases ops14 h with rfl | rfl | rfl | rfl | rfl | rfl | rfl | rfl | rfl | rfl | rfl | rfl | rfl | rfl <;> decide
theorem bit_12 {o : Int} (h : 1 ≤ o ∧ o ≤ 14) : bits .and .i64 (hasV o) 2048 = 0 ↔ hI o = false := by
  rcases ops14 h with rfl | rfl | rfl | rfl | rfl | rfl | rfl | rfl | rfl | rfl | rfl | rfl | rfl | rfl <;> decide
theorem bit_13 {o : Int} (h : 1 ≤ o ∧ o ≤ 14) : bits .and .i64 (hasV o) 4096 = 0 ↔ hC o = false := by
  rcases ops14 h with rfl | rfl | rfl | rfl | rfl | rfl | rfl | rfl | rfl | rfl | rfl | rfl | rfl | rfl <;> decide
theorem bit_14 {o : Int} (h : 1 ≤ o ∧ o ≤ 14) : bits .and .i64 (hasV o) 8192 = 0 ↔ hS o = false := by
  rcases ops14 h with rfl | rfl | rfl | rfl | rfl | rfl | rfl | rfl | rfl | rfl | rfl | rfl | rfl | rfl <;> decide
/-- step by step, as the program does it -/
def bare1 (n k : Nd) : Nd := keep1 (hasV n.op) n k
def bare2 (n k : Nd) : Nd := keep2 (hasV n.op) n k
def bare3 (n k : Nd) : Nd := keep3 (hasV n.op) n k
def bare4 (n k : Nd) : Nd := keep4 (hasV n.op) n k
def bare5 (n k : Nd) : Nd := keep5 (hasV n.op) n k
def bare6 (n k : Nd) : Nd := keep6 (hasV n.op) n k
def bare7 (n k : Nd) : Nd := keep7 (hasV n.op) n k
def bare8 (n k : Nd) : Nd := keep8 (hasV n.op) n k
def bare9 (n k : Nd) : Nd := keep9 (hasV n.op) n k
def bare10 (n k : Nd) : Nd := keep10 (hasV n.op) n k
def bare11 (n k : Nd) : Nd := keep11 (hasV n.op) n k
def bare12 (n k : Nd) : Nd := keep12 (hasV n.op) n k
def bare13 (n k : Nd) : Nd := keep13 (hasV n.op) n k
def bare14 (n k : Nd) : Nd := keep14 (hasV n.op) n k
def bare0 (n : Nd) : Nd := ⟨n.op, 0, 0, 0, 0, 0, 0, 0, 0, 0, 0, 0, 0, 0, 0, 0, 0, 0, 0, 0, 0, 0, 0, 0, 0, 0⟩
def bareN (n : Nd) : Nd := (bare14 n (bare13 n (bare12 n (bare11 n (bare10 n (bare9 n (bare8 n (bare7 n (bare6 n (bare5 n (bare4 n (bare3 n (bare2 n (bare1 n (bare0 n)))))))))))))))
def bareM (n : Nd) : Nd := ⟨n.op, bif hA n.op then n.a else 0, bif hB n.op then n.b else 0, bif hWin n.op then n.k0 else 0, bif hWin n.op then n.k1 else 0, bif hWin n.op then n.s0 else 0, bif hWin n.op then n.s1 else 0, bif hPad n.op then n.p0 else 0, bif hPad n.op then n.p1 else 0, bif hPad n.op then n.p2 else 0, bif hPad n.op then n.p3 else 0, bif hZa n.op then n.za else 0, bif hZb n.op then n.zb else 0, bif hZo n.op then n.zo else 0, bif hM n.op then n.m1 else 0, bif hN n.op then n.m2 else 0, bif hM n.op then n.t1 else 0, bif hN n.op then n.t2 else 0, bif hL n.op then n.lo else 0, bif hL n.op then n.hi else 0, bif hW n.op then n.w else 0, bif hI n.op then n.bias else 0, bif hC n.op then n.chans else 0, bif hS n.op then n.h0 else 0, bif hS n.op then n.h1 else 0, bif hS n.op then n.h2 else 0⟩
theorem bareM_1 {n : Nd} (h : 1 ≤ n.op ∧ n.op ≤ 14) (k : Nd) : bare1 n k = { k with a := bif hA n.op then n.a else k.a } := by
  unfold bare1 keep1
  cases e : hA n.op
  · rw [if_pos ((bit_1 h).2 e)]; rfl
  · rw [if_neg (fun g => by rw [(bit_1 h).1 g] at e; cases e)]; rfl
theorem bareM_2 {n : Nd} (h : 1 ≤ n.op ∧ n.op ≤ 14) (k : Nd) : bare2 n k = { k with b := bif hB n.op then n.b else k.b } := by
  unfold bare2 keep2
  cases e : hB n.op
  · rw [if_pos ((bit_2 h).2 e)]; rfl
  · rw [if_neg (fun g => by rw [(bit_2 h).1 g] at e; cases e)]; rfl
theorem bareM_3 {n : Nd} (h : 1 ≤ n.op ∧ n.op ≤ 14) (k : Nd) : bare3 n k = { k with k0 := bif hWin n.op then n.k0 else k.k0, k1 := bif hWin n.op then n.k1 else k.k1, s0 := bif hWin n.op then n.s0 else k.s0, s1 := bif hWin n.op then n.s1 else k.s1 } := by
  unfold bare3 keep3
  cases e : hWin n.op
  · rw [if_pos ((bit_3 h).2 e)]; rfl
  · rw [if_neg (fun g => by rw [(bit_3 h).1 g] at e; cases e)]; rfl
theorem bareM_4 {n : Nd} (h : 1 ≤ n.op ∧ n.op ≤ 14) (k : Nd) : bare4 n k = { k with p0 := bif hPad n.op then n.p0 else k.p0, p1 := bif hPad n.op then n.p1 else k.p1, p2 := bif hPad n.op then n.p2 else k.p2, p3 := bif hPad n.op then n.p3 else k.p3 } := by
  unfold bare4 keep4
  cases e : hPad n.op
  · rw [if_pos ((bit_4 h).2 e)]; rfl
  · rw [if_neg (fun g => by rw [(bit_4 h).1 g] at e; cases e)]; rfl
theorem bareM_5 {n : Nd} (h : 1 ≤ n.op ∧ n.op ≤ 14) (k : Nd) : bare5 n k = { k with za := bif hZa n.op then n.za else k.za } := by
  unfold bare5 keep5
  cases e : hZa n.op
  · rw [if_pos ((bit_5 h).2 e)]; rfl
  · rw [if_neg (fun g => by rw [(bit_5 h).1 g] at e; cases e)]; rfl
theorem bareM_6 {n : Nd} (h : 1 ≤ n.op ∧ n.op ≤ 14) (k : Nd) : bare6 n k = { k with zb := bif hZb n.op then n.zb else k.zb } := by
  unfold bare6 keep6
  cases e : hZb n.op
  · rw [if_pos ((bit_6 h).2 e)]; rfl
  · rw [if_neg (fun g => by rw [(bit_6 h).1 g] at e; cases e)]; rfl
theorem bareM_7 {n : Nd} (h : 1 ≤ n.op ∧ n.op ≤ 14) (k : Nd) : bare7 n k = { k with zo := bif hZo n.op then n.zo else k.zo } := by
  unfold bare7 keep7
  cases e : hZo n.op
  · rw [if_pos ((bit_7 h).2 e)]; rfl
  · rw [if_neg (fun g => by rw [(bit_7 h).1 g] at e; cases e)]; rfl
theorem bareM_8 {n : Nd} (h : 1 ≤ n.op ∧ n.op ≤ 14) (k : Nd) : bare8 n k = { k with m1 := bif hM n.op then n.m1 else k.m1, t1 := bif hM n.op then n.t1 else k.t1 } := by
  unfold bare8 keep8
  cases e : hM n.op
  · rw [if_pos ((bit_8 h).2 e)]; rfl
  · rw [if_neg (fun g => by rw [(bit_8 h).1 g] at e; cases e)]; rfl
theorem bareM_9 {n : Nd} (h : 1 ≤ n.op ∧ n.op ≤ 14) (k : Nd) : bare9 n k = { k with m2 := bif hN n.op then n.m2 else k.m2, t2 := bif hN n.op then n.t2 else k.t2 } := by
  unfold bare9 keep9
  cases e : hN n.op
  · rw [if_pos ((bit_9 h).2 e)]; rfl
  · rw [if_neg (fun g => by rw [(bit_9 h).1 g] at e; cases e)]; rfl
theorem bareM_10 {n : Nd} (h : 1 ≤ n.op ∧ n.op ≤ 14) (k : Nd) : bare10 n k = { k with lo := bif hL n.op then n.lo else k.lo, hi := bif hL n.op then n.hi else k.hi } := by
  unfold bare10 keep10
  cases e : hL n.op
  · rw [if_pos ((bit_10 h).2 e)]; rfl
  · rw [if_neg (fun g => by rw [(bit_10 h).1 g] at e; cases e)]; rfl
theorem bareM_11 {n : Nd} (h : 1 ≤ n.op ∧ n.op ≤ 14) (k : Nd) : bare11 n k = { k with w := bif hW n.op then n.w else k.w } := by
  unfold bare11 keep11
  cases e : hW n.op
  · rw [if_pos ((bit_11 h).2 e)]; rfl
  · rw [if_neg (fun g => by rw [(bit_11 h).1 g] at e; cases e)]; rfl
theorem bareM_12 {n : Nd} (h : 1 ≤ n.op ∧ n.op ≤ 14) (k : Nd) : bare12 n k = { k with bias := bif hI n.op then n.bias else k.bias } := by
  unfold bare12 keep12
  cases e : hI n.op
  · rw [if_pos ((bit_12 h).2 e)]; rfl
  · rw [if_neg (fun g => by rw [(bit_12 h).1 g] at e; cases e)]; rfl
theorem bareM_13 {n : Nd} (h : 1 ≤ n.op ∧ n.op ≤ 14) (k : Nd) : bare13 n k = { k with chans := bif hC n.op then n.chans else k.chans } := by
  unfold bare13 keep13
  cases e : hC n.op
  · rw [if_pos ((bit_13 h).2 e)]; rfl
  · rw [if_neg (fun g => by rw [(bit_13 h).1 g] at e; cases e)]; rfl
theorem bareM_14 {n : Nd} (h : 1 ≤ n.op ∧ n.op ≤ 14) (k : Nd) : bare14 n k = { k with h0 := bif hS n.op then n.h0 else k.h0, h1 := bif hS n.op then n.h1 else k.h1, h2 := bif hS n.op then n.h2 else k.h2 } := by
  unfold bare14 keep14
  cases e : hS n.op
  · rw [if_pos ((bit_14 h).2 e)]; rfl
  · rw [if_neg (fun g => by rw [(bit_14 h).1 g] at e; cases e)]; rfl
theorem bareN_eq {n : Nd} (h : 1 ≤ n.op ∧ n.op ≤ 14) : bareN n = bareM n := by
  unfold bareN
  rw [bareM_1 h, bareM_2 h, bareM_3 h, bareM_4 h, bareM_5 h, bareM_6 h, bareM_7 h, bareM_8 h, bareM_9 h, bareM_10 h, bareM_11 h, bareM_12 h, bareM_13 h, bareM_14 h]
  rfl
theorem bif_eq {b : Bool} {x : Int} : (bif b then x else 0) = x ↔ (b || x == 0) = true := by
  cases b
  · show (0 : Int) = x ↔ (x == 0) = true
    rw [beq_iff_eq]; exact eq_comm
  · exact ⟨fun _ => rfl, fun _ => rfl⟩
theorem bare_same {n : Nd} (h : 1 ≤ n.op ∧ n.op ≤ 14) : bareN n = n ↔ idleN n = true := by
  rw [bareN_eq h]
  have e : bareM n = n ↔ (bif hA n.op then n.a else 0) = n.a ∧ (bif hB n.op then n.b else 0) = n.b ∧ (bif hWin n.op then n.k0 else 0) = n.k0 ∧ (bif hWin n.op then n.k1 else 0) = n.k1 ∧ (bif hWin n.op then n.s0 else 0) = n.s0 ∧ (bif hWin n.op then n.s1 else 0) = n.s1 ∧ (bif hPad n.op then n.p0 else 0) = n.p0 ∧ (bif hPad n.op then n.p1 else 0) = n.p1 ∧ (bif hPad n.op then n.p2 else 0) = n.p2 ∧ (bif hPad n.op then n.p3 else 0) = n.p3 ∧ (bif hZa n.op then n.za else 0) = n.za ∧ (bif hZb n.op then n.zb else 0) = n.zb ∧ (bif hZo n.op then n.zo else 0) = n.zo ∧ (bif hM n.op then n.m1 else 0) = n.m1 ∧ (bif hN n.op then n.m2 else 0) = n.m2 ∧ (bif hM n.op then n.t1 else 0) = n.t1 ∧ (bif hN n.op then n.t2 else 0) = n.t2 ∧ (bif hL n.op then n.lo else 0) = n.lo ∧ (bif hL n.op then n.hi else 0) = n.hi ∧ (bif hW n.op then n.w else 0) = n.w ∧ (bif hI n.op then n.bias else 0) = n.bias ∧ (bif hC n.op then n.chans else 0) = n.chans ∧ (bif hS n.op then n.h0 else 0) = n.h0 ∧ (bif hS n.op then n.h1 else 0) = n.h1 ∧ (bif hS n.op then n.h2 else 0) = n.h2 := by
    constructor
    · intro g
      exact ⟨congrArg Nd.a g, congrArg Nd.b g, congrArg Nd.k0 g, congrArg Nd.k1 g, congrArg Nd.s0 g, congrArg Nd.s1 g, congrArg Nd.p0 g, congrArg Nd.p1 g, congrArg Nd.p2 g, congrArg Nd.p3 g, congrArg Nd.za g, congrArg Nd.zb g, congrArg Nd.zo g, congrArg Nd.m1 g, congrArg Nd.m2 g, congrArg Nd.t1 g, congrArg Nd.t2 g, congrArg Nd.lo g, congrArg Nd.hi g, congrArg Nd.w g, congrArg Nd.bias g, congrArg Nd.chans g, congrArg Nd.h0 g, congrArg Nd.h1 g, congrArg Nd.h2 g⟩
    · rintro ⟨e0, e1, e2, e3, e4, e5, e6, e7, e8, e9, e10, e11, e12, e13, e14, e15, e16, e17, e18, e19, e20, e21, e22, e23, e24⟩
      show Nd.mk n.op (bif hA n.op then n.a else 0) (bif hB n.op then n.b else 0) (bif hWin n.op then n.k0 else 0) (bif hWin n.op then n.k1 else 0) (bif hWin n.op then n.s0 else 0) (bif hWin n.op then n.s1 else 0) (bif hPad n.op then n.p0 else 0) (bif hPad n.op then n.p1 else 0) (bif hPad n.op then n.p2 else 0) (bif hPad n.op then n.p3 else 0) (bif hZa n.op then n.za else 0) (bif hZb n.op then n.zb else 0) (bif hZo n.op then n.zo else 0) (bif hM n.op then n.m1 else 0) (bif hN n.op then n.m2 else 0) (bif hM n.op then n.t1 else 0) (bif hN n.op then n.t2 else 0) (bif hL n.op then n.lo else 0) (bif hL n.op then n.hi else 0) (bif hW n.op then n.w else 0) (bif hI n.op then n.bias else 0) (bif hC n.op then n.chans else 0) (bif hS n.op then n.h0 else 0) (bif hS n.op then n.h1 else 0) (bif hS n.op then n.h2 else 0) = Nd.mk n.op n.a n.b n.k0 n.k1 n.s0 n.s1 n.p0 n.p1 n.p2 n.p3 n.za n.zb n.zo n.m1 n.m2 n.t1 n.t2 n.lo n.hi n.w n.bias n.chans n.h0 n.h1 n.h2
      rw [e0, e1, e2, e3, e4, e5, e6, e7, e8, e9, e10, e11, e12, e13, e14, e15, e16, e17, e18, e19, e20, e21, e22, e23, e24]
  rw [e]
  unfold idleN
  clear e
  simp only [bif_eq, Bool.and_eq_true, Bool.or_eq_true, or_and_left, and_assoc]
  constructor
  · rintro ⟨x_a, x_b, x_k0, x_k1, x_s0, x_s1, x_p0, x_p1, x_p2, x_p3, x_za, x_zb, x_zo, x_m1, x_m2, x_t1, x_t2, x_lo, x_hi, x_w, x_bias, x_chans, x_h0, x_h1, x_h2⟩
    exact ⟨x_a, x_b, x_k0, x_k1, x_s0, x_s1, x_p0, x_p1, x_p2, x_p3, x_za, x_zb, x_zo, x_m1, x_t1, x_m2, x_t2, x_lo, x_hi, x_w, x_bias, x_chans, x_h0, x_h1, x_h2⟩
  · rintro ⟨x_a, x_b, x_k0, x_k1, x_s0, x_s1, x_p0, x_p1, x_p2, x_p3, x_za, x_zb, x_zo, x_m1, x_t1, x_m2, x_t2, x_lo, x_hi, x_w, x_bias, x_chans, x_h0, x_h1, x_h2⟩
    exact ⟨x_a, x_b, x_k0, x_k1, x_s0, x_s1, x_p0, x_p1, x_p2, x_p3, x_za, x_zb, x_zo, x_m1, x_m2, x_t1, x_t2, x_lo, x_hi, x_w, x_bias, x_chans, x_h0, x_h1, x_h2⟩
end Go.Proofs.Ytmifojpmomdmeaa
