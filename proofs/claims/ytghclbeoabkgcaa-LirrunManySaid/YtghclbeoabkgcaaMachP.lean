/- Plain facts: an array that is laid into a struct's cells. -/
import Derived.Test.YtghclbeoabkgcaaQuantP
namespace Go.Proofs.Ytghclbeoabkgcaa
open Go Go.RowKit
set_option linter.unusedVariables false

theorem lay_list (o : Nat) : ∀ (l : List Value) (n : Nat) (z : Array Value), o + n + l.length ≤ z.size →
    ((l.zipIdx n).foldl (fun cs (x : Value × Nat) => cs.setIfInBounds (o + x.2) x.1) z).size = z.size ∧
    (∀ k, k < l.length → ((l.zipIdx n).foldl (fun cs (x : Value × Nat) => cs.setIfInBounds (o + x.2) x.1) z)[o + n + k]? = l[k]?) ∧
    (∀ j, (j < o + n ∨ o + n + l.length ≤ j) → ((l.zipIdx n).foldl (fun cs (x : Value × Nat) => cs.setIfInBounds (o + x.2) x.1) z)[j]? = z[j]?)
  | [], n, z, h => by simp
  | x :: l, n, z, h => by
    have hs : (z.setIfInBounds (o + n) x).size = z.size := by simp
    obtain ⟨h1, h2, h3⟩ := lay_list o l (n + 1) (z.setIfInBounds (o + n) x) (by rw [hs]; simp at h; omega)
    simp only [List.zipIdx_cons, List.foldl_cons]
    refine ⟨by rw [h1, hs], fun k hk => ?_, fun j hj => ?_⟩
    · cases k with
      | zero =>
        rw [h3 _ (by omega)]
        simp at h
        simp [Array.getElem?_setIfInBounds]
        omega
      | succ k =>
        rw [show o + n + (k + 1) = o + (n + 1) + k by omega, h2 k (by simpa using hk)]
        simp
    · rw [h3 j (by simp at hj; omega), Array.getElem?_setIfInBounds, if_neg (by simp at hj; omega)]
theorem lay_arr (o : Nat) (vs z : Array Value) (h : o + vs.size ≤ z.size) :
    (Array.foldl (fun cs (x : Value × Nat) => cs.setIfInBounds (o + x.2) x.1) z vs.zipIdx 0 vs.size).size = z.size ∧
    (∀ k, k < vs.size → (Array.foldl (fun cs (x : Value × Nat) => cs.setIfInBounds (o + x.2) x.1) z vs.zipIdx 0 vs.size)[o + k]? = vs[k]?) ∧
    (∀ j, (j < o ∨ o + vs.size ≤ j) → (Array.foldl (fun cs (x : Value × Nat) => cs.setIfInBounds (o + x.2) x.1) z vs.zipIdx 0 vs.size)[j]? = z[j]?) := by
  obtain ⟨h1, h2, h3⟩ := lay_list o vs.toList 0 z (by simpa using h)
  have e : Array.foldl (fun cs (x : Value × Nat) => cs.setIfInBounds (o + x.2) x.1) z vs.zipIdx 0 vs.size = (vs.toList.zipIdx 0).foldl (fun cs (x : Value × Nat) => cs.setIfInBounds (o + x.2) x.1) z := by
    have e1 : vs.toList.zipIdx 0 = vs.zipIdx.toList := by simp
    rw [e1, Array.foldl_toList]
    congr 1
    simp
  rw [e]
  refine ⟨h1, fun k hk => ?_, fun j hj => h3 j (by simpa using hj)⟩
  have := h2 k (by simpa using hk)
  simpa using this
/-- the cells of 64 words -/
def cellsF (f : Nat → Int) : List Value := (List.range 64).map fun k => .int .u32 (f k)
theorem cellsF_len (f : Nat → Int) : (cellsF f).length = 64 := by simp [cellsF]
theorem cellsF_at (f : Nat → Int) {k : Nat} (h : k < 64) : (cellsF f)[k]? = some (.int .u32 (f k)) := by
  unfold cellsF
  rw [List.getElem?_map, List.getElem?_range h]; rfl
end Go.Proofs.Ytghclbeoabkgcaa
