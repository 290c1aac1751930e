/- Contracts of inst.Encode and inst.Writes, over the table of three bits. -/
import Derived.Test.YtmlhoagcppofgaaDoorInstB
namespace Go.Proofs.YtmlhoagcppofgaaDoor
open Go Go.RowKit Pl
set_option linter.unusedVariables false

/-- the table of three bits lies in its variable -/
def T3 (w : World) : Prop := (∀ i, i < 49 → w.cell? ⟨0, i, none⟩ = some (.int .u32 (threeL.getD i 0))) ∧ 0 < w.heap.size
theorem T3.later {w w' : World} (h : T3 w) (hb : Below w.heap.size w w') : T3 w' :=
  ⟨fun i hi => (hb.cell h.2).trans (h.1 i hi), Nat.lt_of_lt_of_le h.2 hb.size⟩
theorem T3.at {w : World} (h : T3 w) {o : Int} (ho : 0 ≤ o ∧ o ≤ 48) : w.cell? ⟨0, o.toNat, none⟩ = some (.int .u32 (threeI o)) := h.1 o.toNat (by omega)

theorem u32in {x : Int} (h0 : 0 ≤ x) (h1 : x < 4294967296) : IntKind.u32.wrap x = x := by
  rw [IntKind.wrap_u32]; omega
theorem quiet_eq {f : Nat} {args : Array Value} {v : Value} {w : World} {m : Nat} (h : ∀ W, Calls Tryd.prog f args W fun e w' => e = .returned v ∧ W = w') :
    Calls Tryd.prog f args (w.drewN m) fun e w' => e = .returned v ∧ ∃ j, w' = w.drewN j :=
  (h _).mono fun e w' ⟨he, hm⟩ => ⟨he, m, hm.symm⟩

def EncP (x : Q5) (w : World) (e : Ending) (w' : World) : Prop := e = .returned (.tuple #[.int .u32 (encI x), .bool (canI x)]) ∧ Below w.heap.size w w'
theorem enc_mk {x : Q5} {w w' : World} {n : Int} {b : Bool} (h : canI x = b) (g : encI x = n) (hb : Below w.heap.size w w') : EncP x w (.returned (.tuple #[.int .u32 n, .bool b])) w' := ⟨by rw [h, g], hb⟩
theorem box5 {w w1 : World} {cs : Array Value} {t : TypeId} (hb : Below (w.alloc (.cells cs t)).heap.size (w.alloc (.cells cs t)) w1) :
    (∀ j v, cs[j]? = some v → w1.cell? ⟨w.heap.size, j, none⟩ = some v) ∧ w.heap.size < w1.heap.size ∧ w.heap.size ≤ w1.heap.size ∧ Below w.heap.size w w1 := by
  have hs := hb.size
  simp at hs
  refine ⟨fun j v hv => (hb.cell (p := ⟨w.heap.size, j, none⟩) (by simp)).trans ?_, by omega, by omega, Below.trans (show Below w.heap.size w (w.alloc (.cells cs t)) by go_grown) (hb.mono (by simp))⟩
  rw [World.cell?_alloc_new]
  exact hv
theorem form_nz {o : Int} (h : 19 ≤ o ∧ o ≤ 46) : formL o ≠ 0 := by
  have cs : (19 ≤ o ∧ o ≤ 24) ∨ (25 ≤ o ∧ o ≤ 27) ∨ (28 ≤ o ∧ o ≤ 32) ∨ (33 ≤ o ∧ o ≤ 35) ∨ (36 ≤ o ∧ o ≤ 41) ∨ (o = 42) ∨ (o = 43) ∨ (o = 44) ∨ (o = 45) ∨ (o = 46) := by omega
  unfold formL
  rcases cs with c | c | c | c | c | c | c | c | c | c
  · rw [(cls_1 c).2.2.2.1]; decide
  · rw [(cls_2 c).2.2.2.1]; decide
  · rw [(cls_3 c).2.2.2.1]; decide
  · rw [(cls_4 c).2.2.2.1]; decide
  · rw [(cls_5 c).2.2.2.1]; decide
  · rw [(cls_6 c).2.2.2.1]; decide
  · rw [(cls_7 c).2.2.2.1]; decide
  · rw [(cls_8 c).2.2.2.1]; decide
  · rw [(cls_9 c).2.2.2.1]; decide
  · rw [(cls_10 c).2.2.2.1]; decide
def WrP (x : Q5) (w : World) (e : Ending) (w' : World) : Prop := e = .returned (.int .i64 (writesI x)) ∧ Below w.heap.size w w'
theorem wr_mk {x : Q5} {w w' : World} {n : Int} (g : writesI x = n) (hb : Below w.heap.size w w') : WrP x w (.returned (.int .i64 n)) w' := ⟨by rw [g], hb⟩
end Go.Proofs.YtmlhoagcppofgaaDoor
