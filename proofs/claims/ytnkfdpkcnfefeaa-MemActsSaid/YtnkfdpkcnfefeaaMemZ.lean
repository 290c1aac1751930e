/- Layer 5's statement on acts: any act that came in. -/
import Derived.Test.YtnkfdpkcnfefeaaMemY
import Derived.Test.YtnkfdpkcnfefeaaActs
namespace Go.Proofs.Ytnkfdpkcnfefeaa
open Go Go.RowKit
set_option linter.unusedVariables false

theorem bd_i64Z {a : Int} (h : (Lit.int .i64 a).wf = true) : -9223372036854775808 ≤ a ∧ a < 9223372036854775808 := by
  have : -9223372036854775808 ≤ a ∧ a ≤ 9223372036854775807 := by simpa [Lit.wf, IntKind.min, IntKind.max, IntKind.signed, IntKind.bits] using h
  omega
theorem bd_u32Z {a : Int} (h : (Lit.int .u32 a).wf = true) : 0 ≤ a ∧ a < 4294967296 := by
  have : 0 ≤ a ∧ a ≤ 4294967295 := by simpa [Lit.wf, IntKind.min, IntKind.max, IntKind.signed, IntKind.bits] using h
  omega
theorem does_any {M F R X B f r : Nat} {Fb Rb : List Nat} {L : List (Nat × Nat)} {v : Value} {w W : World} (h : Two M F R X B f r Fb Rb L v W) (hb : Banks f Fb.length r Rb.length) (hag : Agree f r Fb Rb L) (hL : L.length + 40 ≤ 1000000) (hap : Apart M F R X B) (q : ActQ) (hq : q.ok w) (hw : Below w.heap.size w W)
    (lF : w.heap.size ≤ F) (lR : w.heap.size ≤ R) (lX : w.heap.size ≤ X) :
    Calls Try.prog 13 #[.pointer (some ⟨M, 0, none⟩), .pointer (some ⟨X, 0, none⟩), .agg #[.int .i64 q.k, .int .i64 q.s, .int .u32 q.a, .int .u32 q.u, .slice q.x q.bs.length q.c]] W (DoesPost M F R X B f r Fb.length Rb.length (L.length + 40) W) := by
  obtain ⟨k, s, a, u, x, c, bs⟩ := q
  obtain ⟨g1, g2, g3, g4, h256, hbc, hc, hsh⟩ := hq
  simp only at g1 g2 g3 g4 h256 hbc hc hsh ⊢
  have b2 := bd_i64Z g2
  have b3 := bd_u32Z g3
  have b4 := bd_u32Z g4
  obtain ⟨a, rfl⟩ : ∃ n : Nat, a = n := ⟨a.toNat, by omega⟩
  obtain ⟨u, rfl⟩ : ∃ n : Nat, u = n := ⟨u.toNat, by omega⟩
  have lB : w.heap.size ≤ B := Nat.le_trans lF (Nat.le_of_lt hap.f)
  by_cases k1 : k = 1
  · subst k1; exact does_load h hb hag s a u (by omega) _
  by_cases k2 : k = 2
  · subst k2; exact does_fetch h hb hag s a u (by omega) _
  by_cases k4 : k = 4
  · subst k4; exact does_gets h hb hag s a u (by omega) (by omega) _
  by_cases k3 : k = 3
  · subst k3
    rcases hsh with ⟨rfl, rfl, rfl⟩ | ⟨⟨y, rfl⟩, rfl⟩ | ⟨b, off, rfl, hlt, hcell⟩
    · exact does_put0 h hb hag s a u (by omega) hL hap none 0
    · exact does_put0 h hb hag s a u (by omega) hL hap (some y) c
    · rcases Nat.eq_zero_or_pos bs.length with h0 | h0
      · have : bs = [] := List.eq_nil_of_length_eq_zero h0
        subst this
        exact does_put0 h hb hag s a u (by omega) hL hap (some ⟨b, off, none⟩) c
      · have apb : ApartB F R X B b := ⟨by omega, by omega, by omega, by omega⟩
        have src : ∀ j x, bs[j]? = some x → W.cell? ⟨b, off + j, none⟩ = some (.int .u8 (x : Nat)) := fun j x hj => by
          have hjl := (List.getElem?_eq_some_iff.1 hj).1
          have := hcell j hjl
          rw [List.getD_eq_getElem?_getD, hj] at this
          exact (hw.cell (p := ⟨b, off + j, none⟩) hlt).trans this
        rcases Nat.lt_or_ge 40 bs.length with h40 | h40
        · exact does_putL h hb hag s a u (by omega) hL hap (bs.take 40) bs.length b off c (by rw [List.length_take]; omega) h40 hbc hc (fun x hx => h256 x (List.mem_of_mem_take hx)) (fun j x hj => by
            rw [List.getElem?_take] at hj
            split at hj
            · exact src j x hj
            · cases hj) apb
        · exact does_putS h hb hag s a u (by omega) hL hap bs b off c h0 h40 h256 src apb
  · exact does_store h hb hag k s a u (by omega) (by omega) _ hL hap k1 k2 k3 k4
theorem noughts_len (n : Nat) : (noughts n).length = n := List.length_replicate ..
end Go.Proofs.Ytnkfdpkcnfefeaa
