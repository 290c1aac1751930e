/- The document's constant. -/
import Derived.Test.YtdbfakllcaojcaaRF
import Derived.Test.YtdbfakllcaojcaaNY
namespace Go.Proofs.Ytdbfakllcaojcaa
open Go Go.RowKit
set_option linter.unusedVariables false
set_option linter.unusedSimpArgs false
set_option maxRecDepth 100000

theorem constE_low {C : List Cn} {i b w : Int} (h : i < 0 ∨ (C.length : Int) ≤ i) : constE C i b w = 4 := by unfold constE; rw [if_pos h]
theorem constE_at {C : List CnQ} {k : Nat} {q : CnQ} (h : C[k]? = some q) (b w : Int) : constE (C.map CnQ.cn) (k : Int) b w = if (q.bs.length : Int) ≠ b ∨ (q.ws.length : Int) ≠ w then 10 else 0 := by
  have hk := (List.getElem?_eq_some_iff.1 h).1
  unfold constE
  rw [if_neg (by rw [List.length_map]; omega)]
  have e : ((C.map CnQ.cn).getD (k : Int).toNat default) = q.cn := by simp [h]
  rw [e]; rfl
theorem cns_cell {w : World} {a : Option Addr} {C : List CnQ} {c : Nat} (h : CnsIn w a C c) {k : Nat} {q : CnQ} (hq : C[k]? = some q) :
    ∃ b off, a = some ⟨b, off, none⟩ ∧ b < w.heap.size ∧ (w.cell? ⟨b, off + k * 2, none⟩ = some (.slice q.ba q.bs.length q.bc) ∧ w.cell? ⟨b, off + k * 2 + 1, none⟩ = some (.slice q.wa q.ws.length q.wc)) := by
  obtain ⟨_, _, _, ⟨_, h, _⟩ | ⟨_, h⟩ | ⟨b, off, hca, hb, hc⟩⟩ := h
  · rw [h] at hq; simp at hq
  · rw [h] at hq; simp at hq
  · exact ⟨b, off, hca, hb, hc k _ hq⟩
set_option maxHeartbeats 4000000 in
theorem rconst (g : GrQ) (w : World) (hC : CnsIn w g.ca g.C g.cc) (i b m : Int) :
    Calls Try.prog 54 #[g.val, .int .i64 i, .int .i64 b, .int .i64 m] w fun e w' => e = .returned (.int .i64 (constE (g.C.map CnQ.cn) i b m)) ∧ Below w.heap.size w w' := by
  obtain ⟨gx, gy, gz, ca, cc, C, na, nc, ns, go⟩ := g
  dsimp only at hC ⊢
  have c1 : C.length ≤ cc := hC.1
  have c2 : cc ≤ 9223372036854775807 := hC.2.1
  unfold GrQ.val
  dsimp only
  by_cases h0 : i < 0
  · rw [constE_low (Or.inl h0)]
    have h0b : decide (i < 0) = true := by simpa using h0
    clear hC
    go_enter Try.func54, Try.ntmps54
    go_wp2_with fail
    go_ret
    exact ⟨rfl, by go_grown⟩
  have h0b : decide (i < 0) = false := by simpa using h0
  by_cases h1 : (C.length : Int) ≤ i
  · rw [constE_low (Or.inr (by rw [List.length_map]; exact h1))]
    have h1b : decide ((C.length : Int) ≤ i) = true := by simpa using h1
    clear hC
    go_enter Try.func54, Try.ntmps54
    go_wp2_with fail
    go_ret
    exact ⟨rfl, by go_grown⟩
  have h1b : decide ((C.length : Int) ≤ i) = false := by simpa using h1
  obtain ⟨k, rfl⟩ : ∃ k : Nat, i = (k : Int) := ⟨i.toNat, by omega⟩
  obtain ⟨q, hq⟩ : ∃ q, C[k]? = some q := ⟨_, List.getElem?_eq_getElem (by omega)⟩
  rw [constE_at hq]
  obtain ⟨cb, off, rfl, hlt, hs0, hs1⟩ := cns_cell hC hq
  obtain ⟨ba, bc, bs, wa, wc, ws⟩ := q
  dsimp only at hs0 hs1 ⊢
  have k0 : (0 : Int) ≤ (k : Int) := by omega
  have k1 : (k : Int) < (C.length : Int) := by omega
  clear hC hq h0 h1
  by_cases e1 : (bs.length : Int) = b
  · have e1b : ((bs.length : Int) != b) = false := by simp [e1]
    by_cases e2 : (ws.length : Int) = m
    · have e2b : ((ws.length : Int) != m) = false := by simp [e2]
      rw [if_neg (by simp [e1, e2])]
      clear e1 e2
      go_enter Try.func54, Try.ntmps54
      go_wp2_with fail
      go_ret
      exact ⟨rfl, by go_grown⟩
    · have e2b : ((ws.length : Int) != m) = true := by simpa using e2
      rw [if_pos (Or.inr e2)]
      clear e1 e2
      go_enter Try.func54, Try.ntmps54
      go_wp2_with fail
      go_ret
      exact ⟨rfl, by go_grown⟩
  · have e1b : ((bs.length : Int) != b) = true := by simpa using e1
    rw [if_pos (Or.inl e1)]
    clear e1
    go_enter Try.func54, Try.ntmps54
    go_wp2_with fail
    go_ret
    exact ⟨rfl, by go_grown⟩
end Go.Proofs.Ytdbfakllcaojcaa
