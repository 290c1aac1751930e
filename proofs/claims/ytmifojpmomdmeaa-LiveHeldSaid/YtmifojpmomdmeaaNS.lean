/- Package infer: nodeShape. -/
import Derived.Test.YtmifojpmomdmeaaNP
import Derived.Test.YtmifojpmomdmeaaNsA
import Derived.Test.YtmifojpmomdmeaaNdEq
import Derived.Test.YtmifojpmomdmeaaGrD
import Derived.Deep.LoopGhost
import Derived.Deep.DeepCutAuto
import Derived.Laws.OwnMore
namespace Go.Proofs.Ytmifojpmomdmeaa
open Go Go.RowKit
set_option linter.unusedVariables false

theorem judge_size : (Try.prog.info? 99).map (·.size) = some 39 := by kernel_rfl
theorem judge_zero (w : World) : (zeroValue 99).run Try.prog w = .ok (.agg ([.int .i64 0, .int .i64 0, .int .i64 0, .int .i64 0, .int .i64 0, .int .i64 0, .int .i64 0, .int .i64 0, .int .i64 0, .int .i64 0, .int .i64 0, .int .i64 0, .int .i64 0, .int .i64 0, .int .i32 0, .int .i32 0, .int .i64 0, .int .i64 0, .int .i64 0, .int .i64 0, .int .i64 0, .int .i64 0, .int .i64 0, .int .i64 0, .int .i64 0, .int .i64 0, .int .i64 0, .slice none 0 0, .int .i64 0, .int .i64 0, .int .i64 0, .int .i64 0, .int .i64 0, .int .i64 0, .int .i64 0, .int .i64 0, .int .i64 0, .int .i64 0, .int .i64 0] : List Value).toArray) w := by simp
/-- all that a walk asks of the judge's cells as a letter -/
structure JdL (M : List Value) (T Z0 : Nat) (Zs : List Value) : Prop where
  alloc : Op.alloc 99 = Op.alloc T
  store : ∀ x y, Op.store 99 x y = Op.store T x y
  agg : ∀ w, (isAgg T).run Try.prog w = .ok true w
  size : ∀ w, (sizeOf T).run Try.prog w = .ok Z0 w
  zero : ∀ w, (zeroValue T).run Try.prog w = .ok (.agg Zs.toArray) w
  len : M.length = Z0
  st1 : ∀ W : World, (storeCells ⟨W.heap.size, 0, none⟩ M 0).run Try.prog (W.alloc (.cells Zs.toArray T)) = .ok () (W.alloc (.cells M.toArray T))
theorem judge_letter (M : List Value) (hM : M.length = 39) (h1 : ∀ v ∈ M, v.oneCell' = true) : ∃ T Z0 Zs, JdL M T Z0 Zs := by
  refine ⟨99, 39, [.int .i64 0, .int .i64 0, .int .i64 0, .int .i64 0, .int .i64 0, .int .i64 0, .int .i64 0, .int .i64 0, .int .i64 0, .int .i64 0, .int .i64 0, .int .i64 0, .int .i64 0, .int .i64 0, .int .i32 0, .int .i32 0, .int .i64 0, .int .i64 0, .int .i64 0, .int .i64 0, .int .i64 0, .int .i64 0, .int .i64 0, .int .i64 0, .int .i64 0, .int .i64 0, .int .i64 0, .slice none 0 0, .int .i64 0, .int .i64 0, .int .i64 0, .int .i64 0, .int .i64 0, .int .i64 0, .int .i64 0, .int .i64 0, .int .i64 0, .int .i64 0, .int .i64 0], rfl, fun _ _ => rfl, fun w => by simp, fun w => by simp, judge_zero, hM, fun W => ?_⟩
  have a := run_storeCells_new (P := Try.prog) W 99 ([.int .i64 0, .int .i64 0, .int .i64 0, .int .i64 0, .int .i64 0, .int .i64 0, .int .i64 0, .int .i64 0, .int .i64 0, .int .i64 0, .int .i64 0, .int .i64 0, .int .i64 0, .int .i64 0, .int .i32 0, .int .i32 0, .int .i64 0, .int .i64 0, .int .i64 0, .int .i64 0, .int .i64 0, .int .i64 0, .int .i64 0, .int .i64 0, .int .i64 0, .int .i64 0, .int .i64 0, .slice none 0 0, .int .i64 0, .int .i64 0, .int .i64 0, .int .i64 0, .int .i64 0, .int .i64 0, .int .i64 0, .int .i64 0, .int .i64 0, .int .i64 0, .int .i64 0] : List Value).toArray M.toArray (by rw [judge_size]; simp [hM]) (by simp [hM]) (all_oneCell_toArray h1)
  rw [show M.toArray.toList = M by simp] at a
  exact a
/-- a row of shapes, as it lies -/
def ShsAt (w : World) (a : Option Addr) (l : List Sh) : Prop :=
  ∀ k s, l[k]? = some s → ∃ b off, a = some ⟨b, off, none⟩ ∧ b < w.heap.size ∧ w.cell? ⟨b, off + k * 3, none⟩ = some (.int .i64 s.x) ∧ w.cell? ⟨b, off + k * 3 + 1, none⟩ = some (.int .i64 s.y) ∧ w.cell? ⟨b, off + k * 3 + 2, none⟩ = some (.int .i64 s.z)
theorem ShsAt.later {w w' : World} {a : Option Addr} {l : List Sh} (h : ShsAt w a l) (hb : Below w.heap.size w w') : ShsAt w' a l := by
  intro k s hs
  obtain ⟨b, off, rfl, hlt, h0, h1, h2⟩ := h k s hs
  exact ⟨b, off, rfl, Nat.lt_of_lt_of_le hlt hb.size, (hb.cell (p := ⟨b, _, none⟩) hlt).trans h0, (hb.cell (p := ⟨b, _, none⟩) hlt).trans h1, (hb.cell (p := ⟨b, _, none⟩) hlt).trans h2⟩
/-- one round of a loop, the next ones a letter -/
theorem rounds_step {P : Program} {c : Code} {Q : Exit → Act → World → Prop} {n : Nat} {a : Act} {w : World} (h : ∀ R : Act → World → Prop, RowKit.Hid (∀ a w, Code.rounds P c Q n a w → R a w) → c.wp P (Exit.then R Q) a w) : Code.rounds P c Q (n + 1) a w := h _ (Lib.hid fun _ _ h => h)
theorem rounds_with {P : Program} {c : Code} {b : Nat} {K : Act → World → Prop} {Q : Exit → Act → World → Prop} {n : Nat} {a : Act} {w : World} (h : (∀ a w, Q .ret a w → Q .ret a w) → Code.rounds P c (Exit.inBlock b (Exit.then K Q)) n a w) : Code.rounds P c (Exit.inBlock b (Exit.then K Q)) n a w := h (fun _ _ h => h)
/-- the judge behind k inputs -/
def jst (n : Nd) (h : Int) (cs : Value) (l : List Sh) (ins : List Int) (k : Nat) : Jg :=
  ⟨n, h, cs, if 1 ≤ k then l.getD (ins.getD 0 0).toNat default else ⟨0, 0, 0⟩, if 2 ≤ k then l.getD (ins.getD 1 0).toNat default else ⟨0, 0, 0⟩, ⟨0, 0, 0⟩, 0, 0⟩
theorem jst_next0 {n : Nd} {h : Int} {cs : Value} {l : List Sh} {ins : List Int} {vn J : Nat} {s : Sh} {w : World} (hj : JAt w J (jst n h cs l ins 0)) (hv : ins[0]? = some (vn : Int)) (hs : l[vn]? = some s) :
    JAt (((w.setCell ⟨J, 28, none⟩ (.int .i64 s.x)).setCell ⟨J, 29, none⟩ (.int .i64 s.y)).setCell ⟨J, 30, none⟩ (.int .i64 s.z)) J (jst n h cs l ins 1) := by
  have e : l.getD (ins.getD 0 0).toNat default = s := by simp [List.getD_eq_getElem?_getD, hv, hs]
  have h1 : jst n h cs l ins 1 = ⟨n, h, cs, s, ⟨0, 0, 0⟩, ⟨0, 0, 0⟩, 0, 0⟩ := by unfold jst; rw [e]; rfl
  rw [h1]
  have hj0 : JAt w J ⟨n, h, cs, ⟨0, 0, 0⟩, ⟨0, 0, 0⟩, ⟨0, 0, 0⟩, 0, 0⟩ := hj
  exact JAt.set _ (JAt.set ⟨n, h, cs, ⟨s.x, s.y, 0⟩, ⟨0, 0, 0⟩, ⟨0, 0, 0⟩, 0, 0⟩ (JAt.set ⟨n, h, cs, ⟨s.x, 0, 0⟩, ⟨0, 0, 0⟩, ⟨0, 0, 0⟩, 0, 0⟩ hj0 28 _ (by decide) rfl) 29 _ (by decide) rfl) 30 _ (by decide) rfl
theorem jst_next1 {n : Nd} {h : Int} {cs : Value} {l : List Sh} {ins : List Int} {vn J : Nat} {s : Sh} {w : World} (hj : JAt w J (jst n h cs l ins 1)) (hv : ins[1]? = some (vn : Int)) (hs : l[vn]? = some s) :
    JAt (((w.setCell ⟨J, 31, none⟩ (.int .i64 s.x)).setCell ⟨J, 32, none⟩ (.int .i64 s.y)).setCell ⟨J, 33, none⟩ (.int .i64 s.z)) J (jst n h cs l ins 2) := by
  have e : l.getD (ins.getD 1 0).toNat default = s := by simp [List.getD_eq_getElem?_getD, hv, hs]
  obtain ⟨a, ha⟩ : ∃ a, l.getD (ins.getD 0 0).toNat default = a := ⟨_, rfl⟩
  have h1 : jst n h cs l ins 2 = ⟨n, h, cs, a, s, ⟨0, 0, 0⟩, 0, 0⟩ := by unfold jst; rw [e, ha]; rfl
  have h0 : jst n h cs l ins 1 = ⟨n, h, cs, a, ⟨0, 0, 0⟩, ⟨0, 0, 0⟩, 0, 0⟩ := by unfold jst; rw [ha]; rfl
  rw [h1]
  rw [h0] at hj
  exact JAt.set _ (JAt.set ⟨n, h, cs, a, ⟨s.x, s.y, 0⟩, ⟨0, 0, 0⟩, 0, 0⟩ (JAt.set ⟨n, h, cs, a, ⟨s.x, 0, 0⟩, ⟨0, 0, 0⟩, 0, 0⟩ hj 31 _ (by decide) rfl) 32 _ (by decide) rfl) 33 _ (by decide) rfl
theorem nodeE_ins {C : List Cn} {n : Nd} {l : List Sh} (h : 1 ≤ n.op ∧ n.op ≤ 14) (hi : insOk n l.length = false) : nodeE C n l = (4, default) := by
  unfold nodeE; rw [if_neg (by omega), if_pos hi]
theorem nodeE_idle {C : List Cn} {n : Nd} {l : List Sh} (h : 1 ≤ n.op ∧ n.op ≤ 14) (hi : insOk n l.length = true) (hd : idleN n = false) : nodeE C n l = (4, default) := by
  unfold nodeE; rw [if_neg (by omega), if_neg (by rw [hi]; simp), if_pos hd]
theorem zero3 {w : World} {b : Nat} (h : RowAt w b [.int .i64 0, .int .i64 0, .int .i64 0]) : RowAt (((w.setCell ⟨b, 0, none⟩ (.int .i64 0)).setCell ⟨b, 1, none⟩ (.int .i64 0)).setCell ⟨b, 2, none⟩ (.int .i64 0)) b [.int .i64 0, .int .i64 0, .int .i64 0] :=
  ((h.set 0 (.int .i64 0) (by decide) rfl).set 1 (.int .i64 0) (by decide) rfl).set 2 (.int .i64 0) (by decide) rfl
set_option maxRecDepth 100000 in
set_option maxHeartbeats 8000000 in
theorem ns_op (n : Nd) (cs sh : Value) (w : World) (h : n.op < 1 ∨ 14 < n.op) :
    Calls Try.prog 37 #[cs, .agg n.cells.toArray, sh] w fun e w' => e = .returned (.tuple #[.agg #[.int .i64 0, .int .i64 0, .int .i64 0], .int .i64 15]) ∧ Below w.heap.size w w' := by
  have e0 : n.cells[0]? = some (.int .i64 n.op) := rfl
  rcases h with h | h
  · have hx : decide (n.op < 1) = true := by simpa using h
    go_enter Try.func37, Try.ntmps37
    go_wp2_with fail
    exact bodyPost_ret (results_cell_mid2 rfl _ _ (w.heap.size + 1) _ rfl (by have := load_new (P := Try.prog) (w.alloc (.cells n.cells.toArray 47)) [.int .i64 0, .int .i64 0, .int .i64 0] 22 22 _ Try.underlying22 rfl (by kernel_rfl); rwa [show (w.alloc (.cells n.cells.toArray 47)).heap.size = w.heap.size + 1 by simp] at this)) rfl ⟨rfl, by go_grown⟩
  · have hx : decide (n.op < 1) = false := by simp; omega
    have hy : decide (14 < n.op) = true := by simpa using h
    go_enter Try.func37, Try.ntmps37
    go_wp2_with fail
    exact bodyPost_ret (results_cell_mid2 rfl _ _ (w.heap.size + 1) _ rfl (by have := load_new (P := Try.prog) (w.alloc (.cells n.cells.toArray 47)) [.int .i64 0, .int .i64 0, .int .i64 0] 22 22 _ Try.underlying22 rfl (by kernel_rfl); rwa [show (w.alloc (.cells n.cells.toArray 47)).heap.size = w.heap.size + 1 by simp] at this)) rfl ⟨rfl, by go_grown⟩
end Go.Proofs.Ytmifojpmomdmeaa

namespace Go.Proofs.Ytmifojpmomdmeaa
open Go Go.RowKit
set_option linter.unusedVariables false

/-- the node's type as a letter, for any node -/
structure NdT (T Z : Nat) (Z0 : List Value) : Prop where
  load : ∀ x, Op.load 47 x = Op.load T x
  alloc : Op.alloc 47 = Op.alloc T
  store : ∀ x y, Op.store 47 x y = Op.store T x y
  agg : ∀ w, (isAgg T).run Try.prog w = .ok true w
  size : ∀ w, (sizeOf T).run Try.prog w = .ok Z w
  zero : ∀ w, (zeroValue T).run Try.prog w = .ok (.agg Z0.toArray) w
  len : ∀ n : Nd, n.cells.length = Z
  read : ∀ (n : Nd) (W : World) (b o : Nat), W.rangeAt b o n.cells → (loadCellsFrom ⟨b, o, none⟩ 0 Z #[]).run Try.prog W = .ok n.cells.toArray W
  st1 : ∀ (n : Nd) (W : World), (storeCells ⟨W.heap.size, 0, none⟩ n.cells 0).run Try.prog (W.alloc (.cells Z0.toArray T)) = .ok () (W.alloc (.cells n.cells.toArray T))
theorem node_type : ∃ T Z Z0, NdT T Z Z0 := by
  have hz : ([.int .i64 0, .int .i64 0, .int .i64 0, .int .i64 0, .int .i64 0, .int .i64 0, .int .i64 0, .int .i64 0, .int .i64 0, .int .i64 0, .int .i64 0, .int .i64 0, .int .i64 0, .int .i64 0, .int .i32 0, .int .i32 0, .int .i64 0, .int .i64 0, .int .i64 0, .int .i64 0, .int .i64 0, .int .i64 0, .int .i64 0, .int .i64 0, .int .i64 0, .int .i64 0] : List Value).length = 26 := rfl
  refine ⟨47, 26, [.int .i64 0, .int .i64 0, .int .i64 0, .int .i64 0, .int .i64 0, .int .i64 0, .int .i64 0, .int .i64 0, .int .i64 0, .int .i64 0, .int .i64 0, .int .i64 0, .int .i64 0, .int .i64 0, .int .i32 0, .int .i32 0, .int .i64 0, .int .i64 0, .int .i64 0, .int .i64 0, .int .i64 0, .int .i64 0, .int .i64 0, .int .i64 0, .int .i64 0, .int .i64 0], ⟨fun _ => rfl, rfl, fun _ _ => rfl, fun w => by simp, fun w => by simp, node_zero, fun n => n.cells_len, fun n W b o hr => ?_, fun n W => ?_⟩⟩
  · have := run_loadCells_list (P := Try.prog) (w := W) ⟨b, o, none⟩ n.cells (fun j v hv => by rw [Addr.add_mid]; exact hr j v hv)
    rw [n.cells_len] at this
    simpa [loadCells] using this
  · rw [(RowAt.new W _ 47).store (P := Try.prog) (by rw [n.cells_len, hz]) (Nd.one n), node_new W _ _ hz n.cells_len (Nd.one n)]
/-- shapes in a row -/
def sh3 (l : List Sh) : List Value := l.flatMap fun s => [.int .i64 s.x, .int .i64 s.y, .int .i64 s.z]
theorem sh3_len (l : List Sh) : (sh3 l).length = l.length * 3 := by
  induction l with
  | nil => rfl
  | cons a l ih => simp [sh3] at ih ⊢; omega
theorem sh3_app (l : List Sh) (s : Sh) : sh3 (l ++ [s]) = sh3 l ++ [.int .i64 s.x, .int .i64 s.y, .int .i64 s.z] := by simp [sh3]
theorem sh3_at : ∀ (l : List Sh) (k : Nat) (s : Sh), l[k]? = some s → (sh3 l)[k * 3]? = some (.int .i64 s.x) ∧ (sh3 l)[k * 3 + 1]? = some (.int .i64 s.y) ∧ (sh3 l)[k * 3 + 2]? = some (.int .i64 s.z)
  | [], k, s, h => by simp at h
  | a :: l, 0, s, h => by obtain rfl : a = s := by simpa using h
                          simp [sh3]
  | a :: l, k + 1, s, h => by
    have h' : l[k]? = some s := by simpa using h
    have ih := sh3_at l k s h'
    have e : sh3 (a :: l) = [.int .i64 a.x, .int .i64 a.y, .int .i64 a.z] ++ sh3 l := by simp [sh3]
    rw [e]
    refine ⟨?_, ?_, ?_⟩
    · rw [List.getElem?_append_right (by simp; omega)]; simpa [show (k + 1) * 3 - 3 = k * 3 by omega] using ih.1
    · rw [List.getElem?_append_right (by simp; omega)]; simpa [show (k + 1) * 3 + 1 - 3 = k * 3 + 1 by omega] using ih.2.1
    · rw [List.getElem?_append_right (by simp; omega)]; simpa [show (k + 1) * 3 + 2 - 3 = k * 3 + 2 by omega] using ih.2.2
/-- a row of shapes of one's own lies as it should -/
theorem own_sh {w : World} {base : Nat} {v : Value} {l : List Sh} (h : w.ownsRow base 22 3 v l.length (sh3 l)) (hl : 0 < l.length) :
    ∃ g cap, v = .slice (some ⟨g, 0, none⟩) l.length cap ∧ base ≤ g ∧ g < w.heap.size ∧ ShsAt w (some ⟨g, 0, none⟩) l := by
  have h' := h
  obtain ⟨_, ⟨_, hn⟩ | ⟨g, cap, cur, rfl, hg, hh, hc, hcm, _⟩⟩ := h
  · omega
  · have hlt : g < w.heap.size := by
      rcases Nat.lt_or_ge g w.heap.size with h | h
      · exact h
      · rw [Array.getElem?_eq_none h] at hh; cases hh
    refine ⟨g, cap, rfl, hg, hlt, fun k s hs => ⟨g, 0, rfl, hlt, ?_⟩⟩
    have hk := (List.getElem?_eq_some_iff.1 hs).1
    obtain ⟨a0, a1, a2⟩ := sh3_at l k s hs
    refine ⟨?_, ?_, ?_⟩
    · rw [Nat.zero_add, h'.cellAt _ (by omega), a0]
    · rw [Nat.zero_add, h'.cellAt _ (by omega), a1]
    · rw [Nat.zero_add, h'.cellAt _ (by omega), a2]
theorem sh_one (s : Sh) : ∀ u ∈ ([.int .i64 s.x, .int .i64 s.y, .int .i64 s.z] : List Value), u.oneCell' = true := by
  intro u hu
  simp at hu
  rcases hu with rfl | rfl | rfl <;> rfl
theorem own_laterS {w w1 : World} {base n size : Nat} {e : TypeId} {v : Value} {xs : List Value} (h : w.ownsRow base e size v n xs) (hb : Below w.heap.size w w1) : w1.ownsRow base e size v n xs := own_laterW h hb
theorem size_alloc1 (W : World) (o : Obj) : (W.alloc o).heap.size = W.heap.size + 1 := by simp
theorem news3 (W : World) (B : Nat) (x y z : Int) (t : TypeId) (hB : W.heap.size = B) : ∀ j u, ([.int .i64 x, .int .i64 y, .int .i64 z] : List Value)[j]? = some u → (W.alloc (.cells #[.int .i64 x, .int .i64 y, .int .i64 z] t)).cell? ((⟨B, 0, none⟩ : Addr).add j) = some u := by
  subst hB
  intro j u hu
  rw [addr_add0]
  exact (RowAt.new W [.int .i64 x, .int .i64 y, .int .i64 z] t).cell j u hu
theorem one3 (x y z : Int) : ∀ u ∈ ([.int .i64 x, .int .i64 y, .int .i64 z] : List Value), u.oneCell' = true := sh_one ⟨x, y, z⟩
/-- what is asked of nodeShape -/
def NSc : Prop := ∀ (n : Nd) (C : List CnQ) (cc : Nat) (ca sa : Option Addr) (sc : Nat) (l : List Sh) (w : World), CnsIn w ca C cc → ShsAt w sa l → (∀ s ∈ l, s.fit = 0) → l.length ≤ 9223372036854775807 →
    Calls Try.prog 37 #[.slice ca C.length cc, .agg n.cells.toArray, .slice sa l.length sc] w fun e w' => e = .returned (.tuple #[.agg #[.int .i64 (nodeE (C.map CnQ.cn) n l).2.x, .int .i64 (nodeE (C.map CnQ.cn) n l).2.y, .int .i64 (nodeE (C.map CnQ.cn) n l).2.z], .int .i64 (nodeE (C.map CnQ.cn) n l).1]) ∧ Below w.heap.size w w'
/-- what Shapes tells -/
def ShPost (g : GrQ) (w : World) (e : Ending) (w' : World) : Prop :=
  ∃ v, e = .returned (.tuple #[v, .int .i64 (graphE g.gr).1]) ∧ Below w.heap.size w w' ∧ ((graphE g.gr).1 ≠ 0 → v = .slice none 0 0) ∧ ((graphE g.gr).1 = 0 → w'.ownsRow w.heap.size 22 3 v (graphE g.gr).2.length (sh3 (graphE g.gr).2))
theorem nds_range {w : World} {a : Option Addr} {ns : List Nd} {c : Nat} (h : NdsIn w a ns c) : ∀ k n, ns[k]? = some n → ∃ b off, a = some ⟨b, off, none⟩ ∧ b < w.heap.size ∧ w.rangeAt b (off + k * 26) n.cells := by
  intro k n hn
  obtain ⟨_, _, _, ⟨_, h1, _⟩ | ⟨_, h1⟩ | ⟨b, off, rfl, hb, hc⟩⟩ := h
  · rw [List.map_eq_nil_iff] at h1; subst h1; simp at hn
  · rw [List.map_eq_nil_iff] at h1; subst h1; simp at hn
  · refine ⟨b, off, rfl, hb, fun j v hv => ?_⟩
    have := hc k n.cells (by simp [hn]) j v hv
    simpa [kN] using this
theorem own_base {w : World} {b b' n size : Nat} {e : TypeId} {v : Value} {xs : List Value} (h : w.ownsRow b e size v n xs) (hb : b' ≤ b) : w.ownsRow b' e size v n xs := by
  obtain ⟨h1, h2 | ⟨g, cap, cur, hv, hg, hr⟩⟩ := h
  · exact ⟨h1, Or.inl h2⟩
  · exact ⟨h1, Or.inr ⟨g, cap, cur, hv, Nat.le_trans hb hg, hr⟩⟩
theorem drop_at {α : Type} {l : List α} {k : Nat} {x : α} (h : l[k]? = some x) : l.drop k = x :: l.drop (k + 1) := by
  obtain ⟨hk, rfl⟩ := List.getElem?_eq_some_iff.1 h
  exact List.drop_eq_getElem_cons hk
theorem graph_in0 {g : Gr} (h : g.inp.fit ≠ 0) : graphE g = (g.inp.fit, []) := by unfold graphE; rw [if_pos h]
theorem graph_sh {g : Gr} {c : Int} {l : List Sh} (h : g.inp.fit = 0) (hs : shapesE g.C g.ns [g.inp] = (c, l)) (hc : c ≠ 0) : graphE g = (c, []) := by
  unfold graphE; rw [if_neg (by simpa using h), hs, if_pos hc]
theorem graph_no {g : Gr} {l : List Sh} (h : g.inp.fit = 0) (hs : shapesE g.C g.ns [g.inp] = (0, l)) (ho : g.out < 0 ∨ (l.length : Int) ≤ g.out) : graphE g = (4, []) := by
  unfold graphE; rw [if_neg (by simpa using h), hs, if_neg (by simp), if_pos ho]
theorem graph_yes {g : Gr} {l : List Sh} (h : g.inp.fit = 0) (hs : shapesE g.C g.ns [g.inp] = (0, l)) (ho : ¬ (g.out < 0 ∨ (l.length : Int) ≤ g.out)) : graphE g = (0, l) := by
  unfold graphE; rw [if_neg (by simpa using h), hs, if_neg (by simp), if_neg ho]
set_option maxRecDepth 100000 in
set_option maxHeartbeats 8000000 in
theorem shapes_any (NS : NSc) (g : GrQ) (w : World) (hC : CnsIn w g.ca g.C g.cc) (hN : NdsIn w g.na g.ns g.nc) (hn : g.ns.length ≤ 1000) :
    Calls Try.prog 18 #[g.val] w (ShPost g w) := by
  obtain ⟨T, Z, Z0, NL⟩ := node_type
  have hL := NL.load
  have hAl := NL.alloc
  have hSt := NL.store
  have tA := NL.agg
  have tS := NL.size
  have tZ := NL.zero
  obtain ⟨E, hE⟩ : ∃ E, E = graphE g.gr := ⟨_, rfl⟩
  unfold ShPost
  rw [← hE]
  obtain ⟨gx, gy, gz, ca, cc, C, na, nc, ns, go⟩ := g
  have FS := Lib.hid (fun W => fits_sh ⟨gx, gy, gz⟩ W)
  obtain ⟨f, hf⟩ : ∃ f, f = Sh.fit ⟨gx, gy, gz⟩ := ⟨_, rfl⟩
  rw [← hf] at FS
  have HF := Lib.hid hf
  have HE := Lib.hid hE
  have HC := Lib.hid hC
  have HN := Lib.hid hN
  have HNS := Lib.hid NS
  have hnl := hN.1
  rw [List.length_map] at hnl
  clear hC hN hE hf NS
  unfold GrQ.val
  dsimp only at *
  by_cases hf0 : f ≠ 0
  · have hfb : (f != 0) = true := by simpa using hf0
    have HF0 := Lib.hid hf0
    clear hf0
    go_enter Try.func18, Try.ntmps18
    simp only [hL, hAl, hSt]
    clear hL hAl hSt
    have RB := Lib.hid (RowAt.new w [.int .i64 gx, .int .i64 gy, .int .i64 gz, .slice ca C.length cc, .slice na ns.length nc, .int .i64 go] 26)
    have BB : Below w.heap.size w (w.alloc (.cells #[.int .i64 gx, .int .i64 gy, .int .i64 gz, .slice ca C.length cc, .slice na ns.length nc, .int .i64 go] 26)) := by go_grown
    have BW := Lib.hid BB
    have hsz : (w.alloc (.cells #[.int .i64 gx, .int .i64 gy, .int .i64 gz, .slice ca C.length cc, .slice na ns.length nc, .int .i64 go] 26)).heap.size = w.heap.size + 1 := by simp
    have HSZ := Lib.hid hsz
    clear BB hsz
    go_wp2_with (go_at_call 36; (with_reducible refine (FS.out _).mono ?_); rintro e w2 ⟨rfl, hb2⟩; have HB2 := Lib.hid hb2; have r2 := RB.out.over hb2; have RB2 := Lib.hid r2; have b0 := r2.cell 0 _ rfl; have b1 := r2.cell 1 _ rfl; have b2 := r2.cell 2 _ rfl; have b3 := r2.cell 3 _ rfl; have b4 := r2.cell 4 _ rfl; have b5 := r2.cell 5 _ rfl; have blt := r2.lt; clear hb2 r2)
    have GE : E = (f, []) := by rw [HE.out, HF.out]; exact graph_in0 (by have := HF0.out; rw [HF.out] at this; exact this)
    go_returns
    rw [GE]
    exact ⟨_, rfl, below_call BW.out HB2.out, fun _ => rfl, fun h => absurd h HF0.out⟩
  have hf1 : f = 0 := Decidable.of_not_not hf0
  have hfit : Sh.fit ⟨gx, gy, gz⟩ = 0 := by rw [← HF.out]; exact hf1
  have HFI := Lib.hid hfit
  clear hf0 hfit HF
  subst hf1
  go_enter Try.func18, Try.ntmps18
  simp only [hL, hAl, hSt]
  clear hL hAl hSt
  have RB := Lib.hid (RowAt.new w [.int .i64 gx, .int .i64 gy, .int .i64 gz, .slice ca C.length cc, .slice na ns.length nc, .int .i64 go] 26)
  have BB : Below w.heap.size w (w.alloc (.cells #[.int .i64 gx, .int .i64 gy, .int .i64 gz, .slice ca C.length cc, .slice na ns.length nc, .int .i64 go] 26)) := by go_grown
  have BW := Lib.hid BB
  have hsz : (w.alloc (.cells #[.int .i64 gx, .int .i64 gy, .int .i64 gz, .slice ca C.length cc, .slice na ns.length nc, .int .i64 go] 26)).heap.size = w.heap.size + 1 := by simp
  have HSZ := Lib.hid hsz
  clear BB hsz
  go_wp2_with (go_at_call 36; (with_reducible refine (FS.out _).mono ?_); rintro e w2 ⟨rfl, hb2⟩; have HB2 := Lib.hid hb2; have r2 := RB.out.over hb2; have RB2 := Lib.hid r2; have b0 := r2.cell 0 _ rfl; have b1 := r2.cell 1 _ rfl; have b2 := r2.cell 2 _ rfl; have b3 := r2.cell 3 _ rfl; have b4 := r2.cell 4 _ rfl; have b5 := r2.cell 5 _ rfl; have blt := r2.lt; clear hb2 r2)
  have B2w := Lib.hid (below_call BW.out HB2.out)
  have OW0 := Lib.hid (World.ownsRow_lit (base := w.heap.size + 1) (e := 22) (size := 3) w2 #[.int .i64 gx, .int .i64 gy, .int .i64 gz] 1 (by omega) (by decide) rfl)
  obtain ⟨i0, hi, hz0, hz1, hz2⟩ : ∃ i, Try.prog.info? 22 = some i ∧ i.zero = some (.agg #[.int .i64 0, .int .i64 0, .int .i64 0]) ∧ i.size = 3 ∧ i.bytes = 24 := ⟨(Try.prog.info? 22).get!, by kernel_rfl, by kernel_rfl, by kernel_rfl, by kernel_rfl⟩
  have B2a : Below (w.heap.size + 1) w2 (w2.alloc (.cells #[.int .i64 gx, .int .i64 gy, .int .i64 gz] 22)) := Below.alloc (Below.refl _ _) (by omega) _
  have B2A := Lib.hid B2a
  clear B2a
  have hcb : nc ≤ 9223372036854775807 := HN.out.2.1
  clear b0 b1 b2 b3 b4 b5
  have HB5 := Lib.hid (fun (W : World) (hb : Below (w.heap.size + 1) w2 W) => RB2.out.later hb (Nat.lt_succ_self _))
  go_loopw [5, 22] (fun s5 kk wr => ∃ (k : Nat) (l : List Sh), k ≤ ns.length ∧ kk = .int .i64 k ∧ wr.ownsRow (w.heap.size + 1) 22 3 s5 l.length (sh3 l) ∧ Below (w.heap.size + 1) w2 wr ∧ l.length = k + 1 ∧ (∀ s ∈ l, s.fit = 0) ∧ shapesE (C.map CnQ.cn) (ns.drop k) l = shapesE (C.map CnQ.cn) ns [⟨gx, gy, gz⟩]) (fun _ kk _ => ns.length - (intOf kk).toNat)
  case atStart => exact ⟨0, [⟨gx, gy, gz⟩], Nat.zero_le _, rfl, OW0.out, B2A.out, rfl, fun s hs => by obtain rfl : s = _ := List.mem_singleton.1 hs; exact HFI.out, rfl⟩
  case round =>
    obtain ⟨k, l, hk, rfl, hown, hB, hll, hgood, hsp⟩ := hrel
    have rb := HB5.out wr hB
    have b0 := rb.cell 0 _ rfl
    have b1 := rb.cell 1 _ rfl
    have b2 := rb.cell 2 _ rfl
    have b3 := rb.cell 3 _ rfl
    have b4 := rb.cell 4 _ rfl
    have b5 := rb.cell 5 _ rfl
    have blt2 := rb.lt
    have OWN := Lib.hid hown
    have HB := Lib.hid hB
    have HGD := Lib.hid hgood
    have HSP := Lib.hid hsp
    have HBW := Lib.hid (B2w.out.trans (hB.mono (by omega)))
    obtain ⟨g, cap, hv, hgb, hglt, hsh⟩ := own_sh hown (by omega)
    have HSH := Lib.hid hsh
    have HLL := Lib.hid hll
    have ll : l.length ≤ 1001 := by omega
    clear rb hown hB hgood hsp hsh hll
    subst hv
    by_cases hkl : k < ns.length
    · obtain ⟨nd, hnd⟩ : ∃ n, ns[k]? = some n := ⟨_, List.getElem?_eq_getElem hkl⟩
      obtain ⟨nb, noff, hna, hnb, hrg⟩ := nds_range HN.out k nd hnd
      subst hna
      have tR := NL.read nd wr nb (noff + k * 26) (fun j v hv => (HBW.out.cell (p := ⟨nb, _, none⟩) hnb).trans (hrg j v hv))
      have tB := NL.st1 nd wr
      have tR2 := NL.read nd (wr.alloc (.cells nd.cells.toArray T)) wr.heap.size 0 (RowAt.new wr nd.cells T).range
      have tL := NL.len nd
      have HND := Lib.hid hnd
      have BA : Below wr.heap.size wr (wr.alloc (.cells nd.cells.toArray T)) := Below.alloc (Below.refl _ _) (Nat.le_refl _) _
      have NX := HNS.out nd C cc ca (some ⟨g, 0, none⟩) cap l (wr.alloc (.cells nd.cells.toArray T)) ((HC.out.later HBW.out).later BA) (HSH.out.later BA) HGD.out (by omega)
      obtain ⟨qe, qs, hQ⟩ : ∃ (c : Int) (q : Sh), (c, q) = nodeE (C.map CnQ.cn) nd l := ⟨_, _, rfl⟩
      rw [← hQ] at NX
      dsimp only at NX
      obtain ⟨qx, qy, qz⟩ := qs
      have HQ := Lib.hid hQ
      have NY := Lib.hid NX
      clear NX
      have OW1 := Lib.hid (own_laterS OWN.out BA)
      have HBA := Lib.hid BA
      have kl0 : (0 : Int) ≤ (k : Int) := by omega
      have kl1 : (k : Int) < (ns.length : Int) := by omega
      have HK := Lib.hid hkl
      clear hnd hrg BA hQ hkl
      have ol := fun (W5 : World) (hb5 : Below (wr.alloc (.cells nd.cells.toArray T)).heap.size (wr.alloc (.cells nd.cells.toArray T)) W5) (o : Obj) => own_laterS (own_laterS OW1.out hb5) (Below.alloc (Below.refl W5.heap.size W5) (Nat.le_refl _) o)
      have OL := Lib.hid ol
      have E1 := Lib.hid (show l.length + 1 ≤ maxLen by unfold maxLen; omega)
      have E2 := Lib.hid (show (l.length + 1) * 24 ≤ 140737488355328 by omega)
      have gw : w.heap.size + 1 ≤ wr.heap.size := blt2
      clear ol
      go_upto_region 8 with fail
      go_upto_region 9 with (go_at_call 37; (with_reducible refine NY.out.mono ?_); rintro e w5 ⟨rfl, hb5⟩; have HB5' := Lib.hid hb5; have s5 : wr.heap.size < w5.heap.size := Nat.lt_of_lt_of_le (lt_alloc wr (.cells nd.cells.toArray T)) hb5.size; clear hb5)
      clear tR tB tR2 tL kl0 kl1
      go_wp2_with (first
        | (at_builtin; refine wpList_append_own _ rfl (.tmp 37) (.tmp 39) 32 rfl (w.heap.size + 1) 22 i0 (.agg #[.int .i64 0, .int .i64 0, .int .i64 0]) 3 24 Try.underlying32 hi hz0 hz1 hz2 rfl (by decide) _ l.length (sh3 l) rfl ((own_laterS (own_laterS OW1.out HB5'.out) (Below.alloc (Below.refl _ _) (Nat.le_refl _) _)).alloc _) ⟨_, 0, none⟩ 1 1 [.int .i64 qx, .int .i64 qy, .int .i64 qz] rfl rfl (news3 _ _ qx qy qz _ (size_alloc1 _ _)) (one3 qx qy qz) E1.out E2.out (by simp; omega) ?_; intro v' w6 hown6 hg6 hn6))
      · have hq0 : qe ≠ 0 := by have h := ‹(qe != 0) = true›; simpa using h
        have hs : shapesE (C.map CnQ.cn) ns [⟨gx, gy, gz⟩] = (qe, []) := by
          rw [← HSP.out, drop_at HND.out, shapesE, ← HQ.out, if_pos hq0]
        have GE : E = (qe, []) := HE.out.trans (graph_sh (g := ⟨⟨gx, gy, gz⟩, C.map CnQ.cn, ns, go⟩) HFI.out hs hq0)
        go_returns
        rw [GE]
        exact ⟨_, rfl, below_call (below_call (below_call HBW.out HBA.out) HB5'.out) (Below.alloc (Below.refl _ _) (Nat.le_refl _) _), fun _ => rfl, fun h => absurd h hq0⟩
      · have hq0 : qe = 0 := by have h := ‹(qe != 0) = false›; simpa using h
        have BX := below_call (below_call (below_call HBA.out HB5'.out) (Below.alloc (Below.refl _ _) (Nat.le_refl _) (.cells #[.int .i64 qx, .int .i64 qy, .int .i64 qz] 22))) (Below.alloc (Below.refl _ _) (Nat.le_refl _) (.cells #[.int .i64 qx, .int .i64 qy, .int .i64 qz] 22))
        have hn1 : (nodeE (C.map CnQ.cn) nd l).1 = 0 := by rw [← HQ.out]; exact hq0
        have hn2 : (nodeE (C.map CnQ.cn) nd l).2 = ⟨qx, qy, qz⟩ := by rw [← HQ.out]
        have hqf : Sh.fit ⟨qx, qy, qz⟩ = 0 := by rw [← hn2]; exact (nodeE_fit hn1).1
        refine ⟨⟨k + 1, l ++ [⟨qx, qy, qz⟩], by have := HK.out; omega, rfl, ?_, ?_, by rw [List.length_append]; have := HLL.out; simp; omega, ?_, ?_⟩, by have := HK.out; simp [intOf]; omega⟩
        · rw [List.length_append, sh3_app]; exact hown6
        · exact (HB.out.trans (BX.mono gw)).grown hg6 (by have := BX.size; omega) (fun x hx => by obtain rfl := Option.some.inj hx; exact hgb)
        · intro s hs
          rcases List.mem_append.1 hs with h | h
          · exact HGD.out s h
          · obtain rfl := List.mem_singleton.1 h; exact hqf
        · rw [← HSP.out, drop_at HND.out, shapesE, if_neg (by rw [hn1]; simp), hn2]
    · obtain rfl : k = ns.length := by omega
      have hs : shapesE (C.map CnQ.cn) ns [⟨gx, gy, gz⟩] = (0, l) := by
        rw [← HSP.out, List.drop_length]; rfl
      have HS0 := Lib.hid hs
      clear hs
      by_cases h0 : go < 0
      · have GE : E = (4, []) := HE.out.trans (graph_no (g := ⟨⟨gx, gy, gz⟩, C.map CnQ.cn, ns, go⟩) HFI.out HS0.out (Or.inl h0))
        have HGE := Lib.hid GE
        clear GE
        go_wp2_with fail
        go_returns
        rw [HGE.out]
        exact ⟨_, rfl, HBW.out, fun _ => rfl, fun h => absurd h (by decide)⟩
      · by_cases h1 : (l.length : Int) ≤ go
        · have GE : E = (4, []) := HE.out.trans (graph_no (g := ⟨⟨gx, gy, gz⟩, C.map CnQ.cn, ns, go⟩) HFI.out HS0.out (Or.inr h1))
          have HGE := Lib.hid GE
          clear GE
          go_wp2_with fail
          go_returns
          rw [HGE.out]
          exact ⟨_, rfl, HBW.out, fun _ => rfl, fun h => absurd h (by decide)⟩
        · have GE : E = (0, l) := HE.out.trans (graph_yes (g := ⟨⟨gx, gy, gz⟩, C.map CnQ.cn, ns, go⟩) HFI.out HS0.out (by show ¬ (go < 0 ∨ (l.length : Int) ≤ go); omega))
          have HGE := Lib.hid GE
          clear GE
          go_wp2_with fail
          go_returns
          rw [HGE.out]
          exact ⟨_, rfl, HBW.out, fun h => absurd rfl h, fun _ => own_base OWN.out (Nat.le_succ _)⟩
end Go.Proofs.Ytmifojpmomdmeaa
