/- Plain: which values are known. -/
import Derived.Test.YtmifojpmomdmeaaFA
namespace Go.Proofs.Ytmifojpmomdmeaa
open Go Go.RowKit
set_option linter.unusedVariables false

def knO (K : List Bool) (n : Nd) : Bool := (insN n).all fun v => K.getD v.toNat false
def knL (ns : List Nd) : List Bool := ns.foldl (fun K n => K ++ [knO K n]) [false]
theorem knL_snoc (ns : List Nd) (n : Nd) : knL (ns ++ [n]) = knL ns ++ [knO (knL ns) n] := by simp [knL]
theorem knF_len : ∀ (ns : List Nd) (K : List Bool), (ns.foldl (fun K n => K ++ [knO K n]) K).length = K.length + ns.length
  | [], K => by simp
  | n :: r, K => by rw [List.foldl_cons, knF_len r]; simp; omega
theorem knL_len (ns : List Nd) : (knL ns).length = ns.length + 1 := by
  have := knF_len ns [false]
  unfold knL; rw [this]; simp; omega
/-- the program's row when k nodes are done -/
def knR (m k : Nat) (ns : List Nd) : List Bool := knL (ns.take k) ++ List.replicate (m - k) false
theorem knR_len {m k : Nat} {ns : List Nd} (hk : k ≤ m) (hl : ns.length = m) : (knR m k ns).length = m + 1 := by
  unfold knR
  rw [List.length_append, knL_len, List.length_take, List.length_replicate]; omega
theorem knR_at {m k v : Nat} {ns : List Nd} (hk : k ≤ m) (hl : ns.length = m) (hv : v ≤ k) : (knR m k ns).getD v false = (knL (ns.take k)).getD v false := by
  unfold knR
  have : v < (knL (ns.take k)).length := by rw [knL_len, List.length_take]; omega
  simp [List.getD, List.getElem?_append_left this]
theorem knR_zero (m : Nat) (ns : List Nd) : knR m 0 ns = List.replicate (m + 1) false := by
  unfold knR
  simp [knL, List.replicate_succ]
theorem knR_end {m : Nat} {ns : List Nd} (hl : ns.length = m) : knR m m ns = knL ns := by
  unfold knR
  rw [← hl, List.take_length]; simp
theorem knR_set {m k : Nat} {ns : List Nd} {n : Nd} (hk : k < m) (hl : ns.length = m) (hn : ns[k]? = some n) : (knR m k ns).set (k + 1) (knO (knL (ns.take k)) n) = knR m (k + 1) ns := by
  have e1 : ns.take (k + 1) = ns.take k ++ [n] := by rw [List.take_add_one, hn]; rfl
  unfold knR
  rw [e1, knL_snoc]
  have hlen : (knL (ns.take k)).length = k + 1 := by rw [knL_len, List.length_take]; omega
  rw [List.set_append_right _ _ (by omega), hlen, Nat.sub_self]
  obtain ⟨r, hr⟩ : ∃ r, m - k = r + 1 := ⟨m - k - 1, by omega⟩
  rw [hr, List.replicate_succ, List.set_cons_zero, show m - (k + 1) = r by omega]
  simp
/-- inputs that lie up to k: the row tells the same -/
theorem knO_row {m k : Nat} {ns : List Nd} {n : Nd} (hk : k ≤ m) (hl : ns.length = m) (hi : ∀ v ∈ insN n, 0 ≤ v ∧ v ≤ (k : Int)) : (insN n).all (fun v => (knR m k ns).getD v.toNat false) = knO (knL (ns.take k)) n := by
  unfold knO
  apply Bool.eq_iff_iff.2
  rw [List.all_eq_true, List.all_eq_true]
  constructor
  · intro h v hv
    have := hi v hv
    rw [← knR_at hk hl (by omega)]; exact h v hv
  · intro h v hv
    have := hi v hv
    rw [knR_at hk hl (by omega)]; exact h v hv
/-- a sound network's nodes read what lies ahead of them -/
theorem shapes_ahead {C : List Cn} : ∀ (ns : List Nd) (l : List Sh), (shapesE C ns l).1 = 0 → ∀ (k : Nat) (n : Nd), ns[k]? = some n → ∀ v ∈ insN n, 0 ≤ v ∧ v < ((l.length + k : Nat) : Int)
  | [], _, _ => by simp
  | m :: r, l, h0 => by
    rw [shapesE] at h0
    by_cases e : (nodeE C m l).1 ≠ 0
    · rw [if_pos e] at h0; exact absurd h0 e
    · rw [if_neg e] at h0
      obtain ⟨_, h1, h2, hi, _⟩ := nodeE_fit (C := C) (n := m) (l := l) (by simpa using e)
      intro k n hn v hv
      cases k with
      | zero =>
        obtain rfl : m = n := by simpa using hn
        unfold insOk at hi
        have := List.all_eq_true.1 hi v hv
        have := of_decide_eq_true this
        omega
      | succ k =>
        have := shapes_ahead r _ h0 k n (by simpa using hn) v hv
        rw [List.length_append, List.length_singleton] at this
        omega
theorem graph_ahead {g : Gr} (h : (graphE g).1 = 0) : ∀ (k : Nat) (n : Nd), g.ns[k]? = some n → ∀ v ∈ insN n, 0 ≤ v ∧ v ≤ (k : Int) := by
  unfold graphE at h
  by_cases h1 : g.inp.fit ≠ 0
  · rw [if_pos h1] at h; exact absurd h h1
  · rw [if_neg h1] at h
    by_cases h2 : (shapesE g.C g.ns [g.inp]).1 ≠ 0
    · rw [if_pos h2] at h; exact absurd h h2
    · intro k n hn v hv
      have := shapes_ahead g.ns [g.inp] (by simpa using h2) k n hn v hv
      rw [List.length_singleton] at this
      omega
end Go.Proofs.Ytmifojpmomdmeaa
