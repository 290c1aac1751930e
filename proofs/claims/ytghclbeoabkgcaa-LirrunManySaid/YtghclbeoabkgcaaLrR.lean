/- What the laws of layer 16 need of programs and memories. -/
import Derived.Test.YtghclbeoabkgcaaLrG
import Derived.Test.YtghclbeoabkgcaaLrM
import Derived.Test.YtghclbeoabkgcaaLrL
import Derived.Test.YtghclbeoabkgcaaLirG
import Derived.Test.YtghclbeoabkgcaaOpen
namespace Go.Proofs.Ytghclbeoabkgcaa
open Go Go.RowKit Go.ChangeShapes Go.WideShapes Go.ChangeAt Pl
set_option linter.unusedVariables false

set_option maxRecDepth 100000 in
theorem lop_in {H : Type} {enc : TypeId × Value → H} {w : World} {r : Reach} {b base : Nat} {spare : Nat → Bool} {held : Bool} {v : Value} {d : DataW H} {p : List MemPlace}
    (hv : Value.okWide Try.prog w r b 27 v) (h : DataW.Trod enc Try.prog w base spare held 27 v d p) : ∃ (a : Option Addr) (c : Nat) (l : List Q5), v = .slice a l.length c ∧ L5In w a l c := by
  refine lops_in Try.underlying27 Try.underlying29 (by kernel_rfl) (by rfl) (by kernel_rfl) ?_ hv h
  intro j f hf
  match j, hf with
  | 0, hf => simp at hf; subst hf; exact Try.underlying3
  | 1, hf => simp at hf; subst hf; exact Try.underlying3
  | 2, hf => simp at hf; subst hf; exact Try.underlying3
  | 3, hf => simp at hf; subst hf; exact Try.underlying3
  | 4, hf => simp at hf; subst hf; exact Try.underlying21
  | j + 5, hf => simp at hf
theorem l5_far {w w' : World} {a : Option Addr} {l : List Q5} (h : L5 w a l) (ho : Out (fun j => w.heap.size ≤ j) w w') : L5 w' a l := by
  obtain ⟨h1, h2 | ⟨b, off, rfl, hlt, hc⟩⟩ := h
  · exact ⟨h1, Or.inl h2⟩
  · exact l5_outV ⟨h1, Or.inr ⟨b, off, rfl, hlt, hc⟩⟩ ho (by omega)
theorem l5_not {w : World} {a : Option Addr} {l : List Q5} {R : Nat} (h : L5 w a l) (hR : w.heap.size ≤ R) : l = [] ∨ ∀ x, a = some x → x.block ≠ R := by
  obtain ⟨_, h2 | ⟨b, off, rfl, hlt, hc⟩⟩ := h
  · exact .inl h2
  · exact .inr fun x hx => by cases hx; show b ≠ R; omega
def K16 : Bk := ⟨4096, 2147483648, noughts 256⟩
theorem setB_len {t : List Nat} (h : t.length ≤ 128) : (setB (noughts 128) 0 t).length = 128 := by
  rw [setB_length _ _ _ (by rw [noughts_lenM]; omega), noughts_lenM]
theorem banks16 {t : List Nat} (h : t.length ≤ 128) : Banks K16.ff K16.Fb.length K16.rr (setB (noughts 128) 0 t).length := by
  rw [setB_len h, show K16.Fb.length = 256 from noughts_lenM 256]
  exact banks_mapM
theorem take100 (l : List Nat) : (l.take 100).length ≤ 128 := by rw [List.length_take]; omega
end Go.Proofs.Ytghclbeoabkgcaa
