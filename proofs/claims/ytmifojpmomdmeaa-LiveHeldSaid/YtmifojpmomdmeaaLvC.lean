/- live.Lives: one more life behind a row of one's own; what is asked, of a graph. -/
import Derived.Test.YtmifojpmomdmeaaLvB
namespace Go.Proofs.Ytmifojpmomdmeaa
open Go Go.RowKit Go.Maps
set_option linter.unusedVariables false
set_option linter.unusedSimpArgs false
set_option maxRecDepth 100000

def Lf.cells (l : Lf) : List Value := [.int .i64 (l.v : Int), .int .i64 (l.b : Int), .int .i64 l.s, .int .i64 (l.i : Int), .int .i64 l.t]
def lfV (ls : List Lf) : List Value := ls.flatMap Lf.cells
abbrev OwnF (w : World) (B : Nat) (v : Value) (ls : List Lf) : Prop := w.ownsRow B 38 5 v ls.length (lfV ls)
/-- one life more behind a row of one's own -/
theorem app_lf {ops : Array Oper} {rest : List Oper} {o : Oper} {a : Act} {Q : Exit → Act → World → Prop} (w : World) (hgd : o.guard = none) (s x : Operand)
    (ho : o.op = .call { callee := .builtin .append, args := #[s, x], argTypes := #[28, 28] }) (B : Nat) (v : Value) (ls : List Lf) (hs : a.eval s = v) (hown : OwnF w B v ls) (l : Lf) (A : Nat)
    (hx : a.eval x = .slice (some ⟨A, 0, none⟩) 1 1) (hA : RowAt w A l.cells) (hl : ls.length ≤ 1000000) (hB : B ≤ w.heap.size)
    (h : ∀ v' w', OwnF w' B v' (ls ++ [l]) → Out (fun j => v.ownBlock = some j) w w' → wpList Try.prog ops Q rest (a.put o.dst v') w') :
    wpList Try.prog ops Q (o :: rest) a w := by
  obtain ⟨i1, z1, hi1, hz1, hz2, hz3, hz4⟩ : ∃ i z, Try.prog.info? 38 = some i ∧ i.zero = some z ∧ i.size = 5 ∧ i.bytes = 40 ∧ z.cells.size = 5 := ⟨(Try.prog.info? 38).get!, (Try.prog.info? 38).get!.zero.get!, by kernel_rfl, by kernel_rfl, by kernel_rfl, by kernel_rfl, by kernel_rfl⟩
  refine wpList_append_own _ hgd s x 28 ho B 38 i1 z1 5 40 Try.underlying28 hi1 hz1 hz2 hz3 hz4 (by decide) v ls.length (lfV ls) hs hown ⟨A, 0, none⟩ 1 1 l.cells hx rfl (fun j u hu => by rw [addr_add0]; exact hA.cell j u hu) (fun u hu => by simp [Lf.cells] at hu; rcases hu with rfl | rfl | rfl | rfl | rfl <;> rfl) (by unfold maxLen; omega) (by omega) hB ?_
  intro v' w' h1 h2 h3
  refine h v' w' ?_ (Out.of_grown h2 (fun k e => e))
  unfold OwnF
  rw [List.length_append, show lfV (ls ++ [l]) = lfV ls ++ l.cells by simp [lfV]]
  exact h1
def lvM (g : GrQ) (over : Bool) : Lv :=
  ⟨ordG g, fun v => if v = 0 then [] else insF g.ns (v - 1), fun v => sizeG ((graphE g.gr).2.getD v default), fun v => decide (opF g.ns (v - 1) = 9 ∨ opF g.ns (v - 1) = 11 ∨ opF g.ns (v - 1) = 7 ∨ opF g.ns (v - 1) = 8), g.o.toNat, over⟩
theorem ord_mem {g : GrQ} (he : (graphE g.gr).1 = 0) : (ordG g).length ≤ g.ns.length ∧ ∀ v ∈ ordG g, 1 ≤ v ∧ v ≤ g.ns.length := by
  have H := odM_ok he
  obtain ⟨h1, h2, h3⟩ := order_spec H _ (Nat.le_refl _)
  refine ⟨?_, fun v hv => ?_⟩
  · have := todo_short H
    unfold ordG
    rw [h2]
    exact this
  · have h4 := todo_mem.1 (h3 v hv)
    have h5 := todo_pos H h4.2
    have : (odM g (needL g)).N = g.ns.length := rfl
    omega
theorem lives_succ {m : Lv} {k : Nat} (h : k < m.L.length) : m.lives.take (k + 1) = m.lives.take k ++ [m.life k] := by
  rw [List.take_add_one, lives_at h]; rfl
theorem getD_mem {L : List Nat} {k : Nat} (h : k < L.length) : L.getD k 0 ∈ L := by
  rw [List.getD, List.getElem?_eq_getElem h]; exact List.getElem_mem h
theorem freeK_mem {m : Lv} : ∀ k, k ≤ m.L.length → ∀ x e, m.freeK k x = some e → x ∈ m.L ∧ e ∈ m.L
  | 0, _, x, e, h => by simp [Lv.freeK] at h
  | k + 1, hk, x, e, h => by
    have ih := freeK_mem (m := m) k (by omega)
    have hv := getD_mem (L := m.L) (k := k) (by omega)
    unfold Lv.freeK Lv.free at h
    by_cases hx : x = m.L.getD k 0
    · rw [if_pos hx] at h
      refine ⟨hx ▸ hv, ?_⟩
      injection h with h
      subst h
      unfold Lv.buf
      cases ht : m.takesO k (m.freeK k) with
      | none => exact hv
      | some r =>
        obtain ⟨_, _, _, ⟨b, hb⟩, _⟩ := takes_spec ht
        dsimp only
        rw [hb]
        exact (ih _ _ hb).2
    · rw [if_neg hx] at h
      split at h
      · cases h
      · exact ih _ _ h
theorem buf_none {m : Lv} {k : Nat} {p : Nat → Option Nat} (h : m.takesO k p = none) : m.buf k p = m.L.getD k 0 := by unfold Lv.buf; rw [h]
theorem buf_some {m : Lv} {k r e : Nat} {p : Nat → Option Nat} (h : m.takesO k p = some r) (he : p r = some e) : m.buf k p = e := by unfold Lv.buf; rw [h]; simp [he]
theorem free_none {m : Lv} {k v : Nat} {p : Nat → Option Nat} (h : m.takesO k p = none) (hv : m.L.getD k 0 = v) : m.free k p = fun z => if z = v then some v else p z := by
  funext z
  unfold Lv.free
  rw [buf_none h, hv, h]
  simp
theorem free_some {m : Lv} {k v r e : Nat} {p : Nat → Option Nat} (h : m.takesO k p = some r) (he : p r = some e) (hv : m.L.getD k 0 = v) : m.free k p = fun z => if z = v then some e else if z = r then none else p z := by
  funext z
  unfold Lv.free
  rw [buf_some h he, hv, h]
  by_cases e1 : z = v
  · simp [e1]
  · by_cases e2 : z = r
    · subst e2; simp [e1]
    · have e3 : ¬ (r = z) := fun e => e2 e.symm
      simp [e1, e2, e3]
theorem Out.far {S T : Nat → Prop} {a b c : World} (h : Out S a b) (k : Out T b c) (hT : ∀ j, T j → a.heap.size ≤ j) : Out S a c :=
  ⟨k.os.trans h.os, k.tape.trans h.tape, k.output.trans h.output, Nat.le_trans h.size k.size, fun j hj hs => (k.block j (Nat.lt_of_lt_of_le hj h.size) (fun g => by have := hT j g; omega)).trans (h.block j hj hs)⟩
theorem own_overF {w w' : World} {B : Nat} {v : Value} {l : List Lf} (h : OwnF w B v l) {S : Nat → Prop} (k : Out S w w') (hs : ∀ g, v.ownBlock = some g → ¬ S g) : OwnF w' B v l := by
  obtain ⟨h1, h2 | ⟨g, c, cur, rfl, hb, hg, hr⟩⟩ := h
  · exact ⟨h1, .inl h2⟩
  · exact ⟨h1, .inr ⟨g, c, cur, rfl, hb, (k.block g (Array.getElem?_eq_some_iff.1 hg).1 (hs g rfl)).trans hg, hr⟩⟩
def LvPost (g : GrQ) (over : Bool) (w : World) (e : Ending) (w' : World) : Prop :=
  ((graphE g.gr).1 ≠ 0 → e = .returned (.tuple #[.slice none 0 0, .int .i64 (graphE g.gr).1])) ∧ Below w.heap.size w w' ∧
  ((graphE g.gr).1 = 0 → ∃ v, e = .returned (.tuple #[v, .int .i64 0]) ∧ OwnF w' w.heap.size v (lvM g over).lives)
end Go.Proofs.Ytmifojpmomdmeaa
