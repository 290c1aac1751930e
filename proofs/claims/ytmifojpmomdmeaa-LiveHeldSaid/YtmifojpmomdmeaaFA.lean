/- Plain: how often values are used. -/
import Derived.Test.YtmifojpmomdmeaaGA
import Derived.Test.YtmifojpmomdmeaaNsA
import Derived.Test.YtmifojpmomdmeaaNS
namespace Go.Proofs.Ytmifojpmomdmeaa
open Go Go.RowKit
set_option linter.unusedVariables false

/-- one place more (or less) -/
def addAt (b : Int) (L : List Int) (v : Int) : List Int := L.set v.toNat (L.getD v.toNat 0 + b)
def addAll (b : Int) (L : List Int) (vs : List Int) : List Int := vs.foldl (addAt b) L
theorem addAt_len (b : Int) (L : List Int) (v : Int) : (addAt b L v).length = L.length := by simp [addAt]
theorem addAll_len (b : Int) : ∀ (vs : List Int) (L : List Int), (addAll b L vs).length = L.length
  | [], _ => rfl
  | v :: vs, L => by
    show (addAll b (addAt b L v) vs).length = _
    rw [addAll_len b vs, addAt_len]
theorem addAll_cons (b : Int) (L : List Int) (v : Int) (vs : List Int) : addAll b L (v :: vs) = addAll b (addAt b L v) vs := rfl
theorem addAll_snoc (b : Int) (L : List Int) (vs : List Int) (v : Int) : addAll b L (vs ++ [v]) = addAt b (addAll b L vs) v := by simp [addAll]
theorem addAt_at (b : Int) (L : List Int) (v : Int) (i : Nat) (h0 : 0 ≤ v) (h1 : v < L.length) : (addAt b L v).getD i 0 = L.getD i 0 + if v = i then b else 0 := by
  unfold addAt
  by_cases e : v = (i : Int)
  · subst e
    rw [if_pos rfl]
    have hi : i < L.length := by omega
    simp [List.getD, hi]
  · rw [if_neg e]
    have hne : v.toNat ≠ i := by omega
    simp [List.getD, List.getElem?_set_ne hne]
theorem addAll_at (b : Int) (i : Nat) : ∀ (vs : List Int) (L : List Int), (∀ v ∈ vs, 0 ≤ v ∧ v < L.length) → (addAll b L vs).getD i 0 = L.getD i 0 + b * (vs.count (i : Int) : Nat)
  | [], L, _ => by simp [addAll]
  | v :: vs, L, h => by
    rw [addAll_cons, addAll_at b i vs _ (fun x hx => by rw [addAt_len]; exact h x (by simp [hx])), addAt_at b L v i (h v (by simp)).1 (h v (by simp)).2, List.count_cons]
    by_cases e : v = (i : Int)
    · subst e; simp; rw [Int.mul_add]; omega
    · rw [if_neg e]
      have : (v == (i : Int)) = false := by simpa using e
      rw [this]; simp
/-- how often a value is used by nodes -/
def usesNs (v : Int) : List Nd → Nat
  | [] => 0
  | n :: r => (insN n).count v + usesNs v r
def usesV (out : Int) (ns : List Nd) (v : Int) : Nat := (if out = v then 1 else 0) + usesNs v ns
theorem usesNs_app (v : Int) : ∀ a b : List Nd, usesNs v (a ++ b) = usesNs v a + usesNs v b
  | [], b => by simp [usesNs]
  | n :: a, b => by rw [List.cons_append, usesNs, usesNs, usesNs_app v a b]; omega
theorem ins_len (n : Nd) : (insN n).length ≤ 2 := by unfold insN; split <;> (try split) <;> simp
theorem usesNs_le (v : Int) : ∀ ns : List Nd, usesNs v ns ≤ 2 * ns.length
  | [] => by simp [usesNs]
  | n :: r => by
    have h1 := ins_len n
    have h2 := List.count_le_length (a := v) (l := insN n)
    have h3 := usesNs_le v r
    rw [usesNs, List.length_cons]; omega
theorem usesV_le (out v : Int) (ns : List Nd) : usesV out ns v ≤ 2 * ns.length + 1 := by
  unfold usesV
  have := usesNs_le v ns
  split <;> omega
/-- all uses that nodes make, node by node -/
def usesL (m : Nat) (ns : List Nd) : List Int := ns.foldl (fun L n => addAll 1 L (insN n)) (List.replicate m 0)
theorem usesL_snoc (m : Nat) (ns : List Nd) (n : Nd) : usesL m (ns ++ [n]) = addAll 1 (usesL m ns) (insN n) := by simp [usesL]
theorem fold_len : ∀ (ns : List Nd) (L : List Int), (ns.foldl (fun L n => addAll 1 L (insN n)) L).length = L.length
  | [], _ => rfl
  | n :: r, L => by rw [List.foldl_cons, fold_len r, addAll_len]
theorem usesL_len (m : Nat) (ns : List Nd) : (usesL m ns).length = m := by unfold usesL; rw [fold_len, List.length_replicate]
theorem fold_at (i : Nat) : ∀ (ns : List Nd) (L : List Int), (∀ n ∈ ns, ∀ v ∈ insN n, 0 ≤ v ∧ v < L.length) → (ns.foldl (fun L n => addAll 1 L (insN n)) L).getD i 0 = L.getD i 0 + (usesNs (i : Int) ns : Nat)
  | [], L, _ => by simp [usesNs]
  | n :: r, L, h => by
    rw [List.foldl_cons, fold_at i r _ (fun m hm v hv => by rw [addAll_len]; exact h m (by simp [hm]) v hv), addAll_at 1 i (insN n) L (h n (by simp)), usesNs]
    push_cast; omega
theorem usesL_at (m i : Nat) (ns : List Nd) (h : ∀ n ∈ ns, ∀ v ∈ insN n, 0 ≤ v ∧ v < m) : (usesL m ns).getD i 0 = (usesNs (i : Int) ns : Nat) := by
  unfold usesL
  rw [fold_at i ns _ (by simpa using h)]
  have : (List.replicate m (0 : Int)).getD i 0 = 0 := by
    by_cases e : i < m <;> simp [List.getD, e]
  rw [this]; omega
/-- all inputs of a sound network's nodes lie ahead -/
theorem shapes_ins {C : List Cn} : ∀ (ns : List Nd) (l : List Sh), (shapesE C ns l).1 = 0 → ∀ n ∈ ns, ∀ v ∈ insN n, 0 ≤ v ∧ v < ((l.length + ns.length : Nat) : Int)
  | [], _, _ => by simp
  | n :: r, l, h0 => by
    rw [shapesE] at h0
    by_cases e : (nodeE C n l).1 ≠ 0
    · rw [if_pos e] at h0; exact absurd h0 e
    · rw [if_neg e] at h0
      obtain ⟨_, h1, h2, hi, _⟩ := nodeE_fit (C := C) (n := n) (l := l) (by simpa using e)
      intro m hm v hv
      rcases List.mem_cons.1 hm with rfl | hm
      · unfold insOk at hi
        have := List.all_eq_true.1 hi v hv
        have := of_decide_eq_true this
        rw [List.length_cons]; push_cast; omega
      · have := shapes_ins r _ h0 m hm v hv
        rw [List.length_append, List.length_singleton] at this
        rw [List.length_cons]; push_cast at this ⊢; omega
theorem graph_ins {g : Gr} (h : (graphE g).1 = 0) : (∀ n ∈ g.ns, ∀ v ∈ insN n, 0 ≤ v ∧ v < ((g.ns.length + 1 : Nat) : Int)) ∧ 0 ≤ g.out ∧ g.out < ((g.ns.length + 1 : Nat) : Int) := by
  have hl := (graph_ok h).2
  unfold graphE at h hl
  by_cases h1 : g.inp.fit ≠ 0
  · rw [if_pos h1] at h; exact absurd h h1
  · rw [if_neg h1] at h hl
    by_cases h2 : (shapesE g.C g.ns [g.inp]).1 ≠ 0
    · rw [if_pos h2] at h; exact absurd h h2
    · rw [if_neg h2] at h hl
      by_cases h3 : g.out < 0 ∨ (shapesE g.C g.ns [g.inp]).2.length ≤ g.out
      · rw [if_pos h3] at h; cases h
      · rw [if_neg h3] at hl
        refine ⟨fun n hn v hv => ?_, by omega, ?_⟩
        · have := shapes_ins g.ns [g.inp] (by simpa using h2) n hn v hv
          rw [List.length_singleton] at this; omega
        · dsimp only at hl; rw [← hl]; omega
end Go.Proofs.Ytmifojpmomdmeaa

namespace Go.Proofs.Ytmifojpmomdmeaa
open Go Go.RowKit
set_option linter.unusedVariables false
set_option linter.unusedSimpArgs false
set_option maxRecDepth 100000

def intsV (L : List Int) : List Value := L.map fun z => .int .i64 z
theorem intsV_len (L : List Int) : (intsV L).length = L.length := by simp [intsV]
theorem intsV_at {L : List Int} {i : Nat} {x : Int} (h : L[i]? = some x) : (intsV L)[i]? = some (.int .i64 x) := by simp [intsV, h]
theorem addAt_row {w : World} {U : Nat} {L : List Int} {v : Nat} {b : Int} (h : RowAt w U (intsV L)) (hv : v < L.length) : RowAt (w.setCell ⟨U, v, none⟩ (.int .i64 (L.getD v 0 + b))) U (intsV (addAt b L (v : Int))) :=
  h.set v _ (by rw [intsV_len]; exact hv) (by unfold intsV addAt; simp [List.map_set])
theorem addAt_bd {b : Int} (hb : -1 ≤ b ∧ b ≤ 1) {L : List Int} {M : Int} (h : ∀ x ∈ L, -M ≤ x ∧ x ≤ M) (hM : 0 ≤ M) (v : Int) : ∀ x ∈ addAt b L v, -(M + 1) ≤ x ∧ x ≤ M + 1 := by
  intro x hx
  unfold addAt at hx
  rcases List.mem_or_eq_of_mem_set hx with hx | rfl
  · have := h x hx; omega
  · have : -M ≤ L.getD v.toNat 0 ∧ L.getD v.toNat 0 ≤ M := by
      by_cases e : v.toNat < L.length
      · have : L.getD v.toNat 0 = L[v.toNat] := by simp [List.getD, e]
        rw [this]; exact h _ (List.getElem_mem e)
      · have : L.getD v.toNat 0 = 0 := by simp [List.getD, List.getElem?_eq_none (by omega : L.length ≤ v.toNat)]
        rw [this]; omega
    omega
theorem addAll_bd {b : Int} (hb : -1 ≤ b ∧ b ≤ 1) : ∀ (vs : List Int) (L : List Int) (M : Int), (∀ x ∈ L, -M ≤ x ∧ x ≤ M) → 0 ≤ M → ∀ x ∈ addAll b L vs, -(M + vs.length) ≤ x ∧ x ≤ M + vs.length
  | [], L, M, h, _ => by intro x hx; have := h x hx; simp; exact this
  | v :: vs, L, M, h, hM => by
    intro x hx
    have := addAll_bd hb vs _ (M + 1) (addAt_bd hb h hM v) (by omega) x hx
    rw [List.length_cons]; push_cast; omega
theorem take_succ_at {α : Type} {l : List α} {k : Nat} {x : α} (h : l[k]? = some x) : l.take (k + 1) = l.take k ++ [x] := by
  rw [List.take_add_one, h]; rfl
end Go.Proofs.Ytmifojpmomdmeaa
