/- Worlds that differ in two old blocks alone; nodes in a row as a walk writes them. -/
import Derived.Test.YtmifojpmomdmeaaFG
import Derived.Test.YtmifojpmomdmeaaFA
namespace Go.Proofs.Ytmifojpmomdmeaa
open Go Go.RowKit
set_option linter.unusedVariables false
set_option maxRecDepth 100000

/-- but for blocks U and X all old ones are as they were -/
structure K2 (U X : Nat) (w w' : World) : Prop where
  os : w'.os = w.os
  tape : w'.tape = w.tape
  output : w'.output = w.output
  size : w.heap.size ≤ w'.heap.size
  blk : ∀ i, i < w.heap.size → i ≠ U → i ≠ X → w'.heap[i]? = w.heap[i]?
theorem K2.refl (U X : Nat) (w : World) : K2 U X w w := ⟨rfl, rfl, rfl, Nat.le_refl _, fun _ _ _ _ => rfl⟩
theorem K2.trans {U X : Nat} {a b c : World} (h : K2 U X a b) (k : K2 U X b c) : K2 U X a c :=
  ⟨k.os.trans h.os, k.tape.trans h.tape, k.output.trans h.output, Nat.le_trans h.size k.size, fun i hi h1 h2 => (k.blk i (Nat.lt_of_lt_of_le hi h.size) h1 h2).trans (h.blk i hi h1 h2)⟩
theorem K2.of_below {U X : Nat} {w w' : World} (h : Below w.heap.size w w') : K2 U X w w' := ⟨h.os, h.tape, h.output, h.size, fun i hi _ _ => h.block i hi⟩
theorem K2.of_u {U X : Nat} {w w' : World} (h : w.grownBy w' (some U)) : K2 U X w w' := ⟨h.os, h.tape, h.output, h.size, fun i hi h1 _ => h.block i hi (by intro e; exact h1 (Option.some.inj e))⟩
theorem K2.of_x {U X : Nat} {w w' : World} (h : w.grownBy w' (some X)) : K2 U X w w' := ⟨h.os, h.tape, h.output, h.size, fun i hi _ h1 => h.block i hi (by intro e; exact h1 (Option.some.inj e))⟩
/-- a block that is new may be written, too -/
theorem K2.of_new {U X B : Nat} {w w1 w' : World} (h : K2 U X w w1) (hB : w.heap.size ≤ B) (k : w1.grownBy w' (some B)) : K2 U X w w' :=
  ⟨k.os.trans h.os, k.tape.trans h.tape, k.output.trans h.output, Nat.le_trans h.size k.size, fun i hi h1 h2 => (k.block i (Nat.lt_of_lt_of_le hi h.size) (by intro e; have := Option.some.inj e; omega)).trans (h.blk i hi h1 h2)⟩
theorem K2.below {U X n : Nat} {w w' : World} (h : K2 U X w w') (hU : n ≤ U) (hX : n ≤ X) (hn : n ≤ w.heap.size) : Below n w w' :=
  ⟨h.os, h.tape, h.output, h.size, fun i hi => h.blk i (by omega) (by omega) (by omega)⟩
theorem K2.kpx {U X B : Nat} {w w' : World} (h : K2 U X w w') (hU : U < B) : KpX B X w w' := ⟨h.size, fun k hk hl hne => h.blk k hl (by omega) hne⟩
theorem frozen_blk {w w' : World} {b : Nat} (h : w'.heap[b]? = w.heap[b]?) (j : Nat) : w'.frozen? ⟨b, j, none⟩ = w.frozen? ⟨b, j, none⟩ := World.frozen?_of_block h
theorem cell_blk {w w' : World} {b : Nat} (h : w'.heap[b]? = w.heap[b]?) (j : Nat) : w'.cell? ⟨b, j, none⟩ = w.cell? ⟨b, j, none⟩ := World.cell?_of_block h
theorem RowAt.k2 {U X b : Nat} {w w' : World} {l : List Value} (h : RowAt w b l) (k : K2 U X w w') (h1 : b ≠ U) (h2 : b ≠ X) : RowAt w' b l :=
  ⟨Nat.lt_of_lt_of_le h.lt k.size, fun j => (frozen_blk (k.blk b h.lt h1 h2) j).trans (h.fr j), fun j u hu => (cell_blk (k.blk b h.lt h1 h2) j).trans (h.cell j u hu)⟩
/-- a row of one's own as a block that holds its cells -/
theorem row_of_own {w : World} {B n s g c : Nat} {e : TypeId} {xs : List Value} (h : w.ownsRow B e s (.slice (some ⟨g, 0, none⟩) n c) n xs) : RowAt w g xs :=
  ⟨(own_lt h).2.1, fun j => h.frozenAt j, fun j u hu => by
    have hj := (List.getElem?_eq_some_iff.1 hu).1
    have hl : xs.length = n * s := h.1
    rw [h.cellAt j (by omega), hu]⟩
/-- a node of a row is written -/
theorem nd26_set : ∀ (l : List Nd) (k : Nat) (m : Nd), k < l.length → (nd26 l).take (k * 26) ++ m.cells ++ (nd26 l).drop (k * 26 + 26) = nd26 (l.set k m)
  | [], k, m, h => by simp at h
  | a :: l, 0, m, _ => by
    have h26 : a.cells.length = 26 := a.cells_len
    have e : nd26 (a :: l) = a.cells ++ nd26 l := rfl
    have e2 : nd26 ((a :: l).set 0 m) = m.cells ++ nd26 l := rfl
    rw [e, e2, List.drop_append_of_le_length (by omega), List.drop_of_length_le (by omega)]
    simp
  | a :: l, k + 1, m, h => by
    have h26 : a.cells.length = 26 := a.cells_len
    have ih := nd26_set l k m (by simpa using h)
    have e : nd26 (a :: l) = a.cells ++ nd26 l := rfl
    have e2 : nd26 ((a :: l).set (k + 1) m) = a.cells ++ nd26 (l.set k m) := rfl
    rw [e, e2, ← ih]
    have e3 : (k + 1) * 26 = a.cells.length + k * 26 := by omega
    have e4 : (k + 1) * 26 + 26 = a.cells.length + (k * 26 + 26) := by omega
    rw [e4, e3, List.take_length_add_append, List.drop_length_add_append]
    simp
theorem setCells_row {w : World} {b : Nat} {l : List Value} (h : RowAt w b l) : ∀ (m : List Value) (o : Nat), o + m.length ≤ l.length → RowAt (w.setCells b o m) b (l.take o ++ m ++ l.drop (o + m.length))
  | [], o, ho => by
    have e : l.take o ++ [] ++ l.drop (o + ([] : List Value).length) = l := by simp
    rw [e]; exact h
  | v :: m, o, ho => by
    rw [List.length_cons] at ho
    have h1 : RowAt (w.setCell ⟨b, o, none⟩ v) b (l.set o v) := h.set o v (by omega) rfl
    have h2 := setCells_row h1 m (o + 1) (by simp; omega)
    have e : (l.set o v).take (o + 1) ++ m ++ (l.set o v).drop (o + 1 + m.length) = l.take o ++ (v :: m) ++ l.drop (o + (m.length + 1)) := by
      rw [List.set_eq_take_append_cons_drop, if_pos (by omega)]
      have t1 : (l.take o).length = o := by rw [List.length_take]; omega
      rw [show o + 1 = (l.take o).length + 1 by omega, List.take_length_add_append, show (l.take o).length + 1 + m.length = (l.take o).length + (1 + m.length) by omega, List.drop_length_add_append]
      have e5 : (v :: List.drop ((l.take o).length + 1) l).drop (1 + m.length) = l.drop (o + (m.length + 1)) := by
        rw [show 1 + m.length = m.length + 1 by omega, List.drop_succ_cons, List.drop_drop, t1]
        congr 1; omega
      rw [e5]
      simp
    rw [e] at h2
    rw [List.length_cons]
    exact h2
theorem node_stored {w : World} {G : Nat} {ns : List Nd} {k : Nat} (h : RowAt w G (nd26 ns)) (hk : k < ns.length) (m : Nd) :
    (storeCells ⟨G, k * 26, none⟩ m.cells 0).run Try.prog w = .ok () (w.setCells G (k * 26) m.cells) ∧ RowAt (w.setCells G (k * 26) m.cells) G (nd26 (ns.set k m)) := by
  have hl : (nd26 ns).length = ns.length * 26 := nd26_len ns
  have h26 : m.cells.length = 26 := m.cells_len
  have hfit : k * 26 + m.cells.length ≤ (nd26 ns).length := by rw [hl, h26]; have := Nat.mul_le_mul_right 26 (show k + 1 ≤ ns.length from hk); omega
  refine ⟨?_, ?_⟩
  · have := run_storeCells_cells (P := Try.prog) G (k * 26) m.cells 0 w (fun j hj => by
      rw [h.cell (k * 26 + 0 + j) _ (List.getElem?_eq_getElem (by omega))]; rfl) (fun j hj => h.fr _) (Nd.one m)
    simpa using this
  · have h1 := setCells_row h m.cells (k * 26) hfit
    rw [h26, nd26_set ns k m hk] at h1
    exact h1
theorem node_range {w : World} {G : Nat} {ns : List Nd} {k : Nat} {n : Nd} (h : RowAt w G (nd26 ns)) (hk : ns[k]? = some n) : ∀ j u, n.cells[j]? = some u → w.cell? ⟨G, k * 26 + j, none⟩ = some u :=
  fun j u hu => h.cell _ _ (nd26_at ns k n hk j u hu)
theorem nds_row {w : World} {G c : Nat} {ns : List Nd} (h : RowAt w G (nd26 ns)) (hc : ns.length ≤ c) (hm : c ≤ 9223372036854775807) (hw : ∀ n ∈ ns, AreInts kN n.cells) : NdsIn w (some ⟨G, 0, none⟩) ns c := by
  refine ⟨by rw [List.length_map]; exact hc, hm, ?_, Or.inr (Or.inr ⟨G, 0, rfl, h.lt, fun k x hk j u hu => ?_⟩)⟩
  · intro x hx
    obtain ⟨n, hn, rfl⟩ := List.mem_map.1 hx
    exact hw n hn
  · rw [List.getElem?_map] at hk
    obtain ⟨n, hn, rfl⟩ := Option.map_eq_some_iff.1 hk
    have := node_range h hn j u hu
    rw [Nat.zero_add]
    exact this
end Go.Proofs.Ytmifojpmomdmeaa
