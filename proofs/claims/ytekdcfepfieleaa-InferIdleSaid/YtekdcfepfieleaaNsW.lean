/- Package infer: nodeShape. -/
import Derived.Test.YtekdcfepfieleaaNsN
import Derived.Test.YtekdcfepfieleaaNsA
import Derived.Test.YtekdcfepfieleaaNdEq
import Derived.Test.YtekdcfepfieleaaGrD
import Derived.Deep.LoopGhost
import Derived.Deep.DeepCutAuto
namespace Go.Proofs.Ytekdcfepfieleaa
open Go Go.RowKit
set_option linter.unusedVariables false

theorem judge_size : (Try.prog.info? 53).map (·.size) = some 39 := by kernel_rfl
theorem judge_zero (w : World) : (zeroValue 53).run Try.prog w = .ok (.agg ([.int .i64 0, .int .i64 0, .int .i64 0, .int .i64 0, .int .i64 0, .int .i64 0, .int .i64 0, .int .i64 0, .int .i64 0, .int .i64 0, .int .i64 0, .int .i64 0, .int .i64 0, .int .i64 0, .int .i32 0, .int .i32 0, .int .i64 0, .int .i64 0, .int .i64 0, .int .i64 0, .int .i64 0, .int .i64 0, .int .i64 0, .int .i64 0, .int .i64 0, .int .i64 0, .int .i64 0, .slice none 0 0, .int .i64 0, .int .i64 0, .int .i64 0, .int .i64 0, .int .i64 0, .int .i64 0, .int .i64 0, .int .i64 0, .int .i64 0, .int .i64 0, .int .i64 0] : List Value).toArray) w := by simp
/-- all that a walk asks of the judge's cells as a letter -/
structure JdL (M : List Value) (T Z0 : Nat) (Zs : List Value) : Prop where
  alloc : Op.alloc 53 = Op.alloc T
  store : ∀ x y, Op.store 53 x y = Op.store T x y
  agg : ∀ w, (isAgg T).run Try.prog w = .ok true w
  size : ∀ w, (sizeOf T).run Try.prog w = .ok Z0 w
  zero : ∀ w, (zeroValue T).run Try.prog w = .ok (.agg Zs.toArray) w
  len : M.length = Z0
  st1 : ∀ W : World, (storeCells ⟨W.heap.size, 0, none⟩ M 0).run Try.prog (W.alloc (.cells Zs.toArray T)) = .ok () (W.alloc (.cells M.toArray T))
theorem judge_letter (M : List Value) (hM : M.length = 39) (h1 : ∀ v ∈ M, v.oneCell' = true) : ∃ T Z0 Zs, JdL M T Z0 Zs := by
  refine ⟨53, 39, [.int .i64 0, .int .i64 0, .int .i64 0, .int .i64 0, .int .i64 0, .int .i64 0, .int .i64 0, .int .i64 0, .int .i64 0, .int .i64 0, .int .i64 0, .int .i64 0, .int .i64 0, .int .i64 0, .int .i32 0, .int .i32 0, .int .i64 0, .int .i64 0, .int .i64 0, .int .i64 0, .int .i64 0, .int .i64 0, .int .i64 0, .int .i64 0, .int .i64 0, .int .i64 0, .int .i64 0, .slice none 0 0, .int .i64 0, .int .i64 0, .int .i64 0, .int .i64 0, .int .i64 0, .int .i64 0, .int .i64 0, .int .i64 0, .int .i64 0, .int .i64 0, .int .i64 0], rfl, fun _ _ => rfl, fun w => by simp, fun w => by simp, judge_zero, hM, fun W => ?_⟩
  have a := run_storeCells_new (P := Try.prog) W 53 ([.int .i64 0, .int .i64 0, .int .i64 0, .int .i64 0, .int .i64 0, .int .i64 0, .int .i64 0, .int .i64 0, .int .i64 0, .int .i64 0, .int .i64 0, .int .i64 0, .int .i64 0, .int .i64 0, .int .i32 0, .int .i32 0, .int .i64 0, .int .i64 0, .int .i64 0, .int .i64 0, .int .i64 0, .int .i64 0, .int .i64 0, .int .i64 0, .int .i64 0, .int .i64 0, .int .i64 0, .slice none 0 0, .int .i64 0, .int .i64 0, .int .i64 0, .int .i64 0, .int .i64 0, .int .i64 0, .int .i64 0, .int .i64 0, .int .i64 0, .int .i64 0, .int .i64 0] : List Value).toArray M.toArray (by rw [judge_size]; simp [hM]) (by simp [hM]) (all_oneCell_toArray h1)
  rw [show M.toArray.toList = M by simp] at a
  exact a
/-- a row of shapes, as it lies -/
def ShsAt (w : World) (a : Option Addr) (l : List Sh) : Prop :=
  ∀ k s, l[k]? = some s → ∃ b off, a = some ⟨b, off, none⟩ ∧ b < w.heap.size ∧ w.cell? ⟨b, off + k * 3, none⟩ = some (.int .i64 s.x) ∧ w.cell? ⟨b, off + k * 3 + 1, none⟩ = some (.int .i64 s.y) ∧ w.cell? ⟨b, off + k * 3 + 2, none⟩ = some (.int .i64 s.z)
theorem ShsAt.later {w w' : World} {a : Option Addr} {l : List Sh} (h : ShsAt w a l) (hb : Below w.heap.size w w') : ShsAt w' a l := by
  intro k s hs
  obtain ⟨b, off, rfl, hlt, h0, h1, h2⟩ := h k s hs
  exact ⟨b, off, rfl, Nat.lt_of_lt_of_le hlt hb.size, (hb.cell (p := ⟨b, _, none⟩) hlt).trans h0, (hb.cell (p := ⟨b, _, none⟩) hlt).trans h1, (hb.cell (p := ⟨b, _, none⟩) hlt).trans h2⟩
/-- one round of a loop, the next ones a letter -/
theorem rounds_step {P : Program} {c : Code} {Q : Exit → Act → World → Prop} {n : Nat} {a : Act} {w : World} (h : ∀ R : Act → World → Prop, RowKit.Hid (∀ a w, Code.rounds P c Q n a w → R a w) → c.wp P (Exit.then R Q) a w) : Code.rounds P c Q (n + 1) a w := h _ (Lib.hid fun _ _ h => h)
theorem rounds_with {P : Program} {c : Code} {b : Nat} {K : Act → World → Prop} {Q : Exit → Act → World → Prop} {n : Nat} {a : Act} {w : World} (h : (∀ a w, Q .ret a w → Q .ret a w) → Code.rounds P c (Exit.inBlock b (Exit.then K Q)) n a w) : Code.rounds P c (Exit.inBlock b (Exit.then K Q)) n a w := h (fun _ _ h => h)
/-- the judge behind k inputs -/
def jst (n : Nd) (h : Int) (cs : Value) (l : List Sh) (ins : List Int) (k : Nat) : Jg :=
  ⟨n, h, cs, if 1 ≤ k then l.getD (ins.getD 0 0).toNat default else ⟨0, 0, 0⟩, if 2 ≤ k then l.getD (ins.getD 1 0).toNat default else ⟨0, 0, 0⟩, ⟨0, 0, 0⟩, 0, 0⟩
theorem jst_next0 {n : Nd} {h : Int} {cs : Value} {l : List Sh} {ins : List Int} {vn J : Nat} {s : Sh} {w : World} (hj : JAt w J (jst n h cs l ins 0)) (hv : ins[0]? = some (vn : Int)) (hs : l[vn]? = some s) :
    JAt (((w.setCell ⟨J, 28, none⟩ (.int .i64 s.x)).setCell ⟨J, 29, none⟩ (.int .i64 s.y)).setCell ⟨J, 30, none⟩ (.int .i64 s.z)) J (jst n h cs l ins 1) := by
  have e : l.getD (ins.getD 0 0).toNat default = s := by simp [List.getD_eq_getElem?_getD, hv, hs]
  have h1 : jst n h cs l ins 1 = ⟨n, h, cs, s, ⟨0, 0, 0⟩, ⟨0, 0, 0⟩, 0, 0⟩ := by unfold jst; rw [e]; rfl
  rw [h1]
  have hj0 : JAt w J ⟨n, h, cs, ⟨0, 0, 0⟩, ⟨0, 0, 0⟩, ⟨0, 0, 0⟩, 0, 0⟩ := hj
  exact JAt.set _ (JAt.set ⟨n, h, cs, ⟨s.x, s.y, 0⟩, ⟨0, 0, 0⟩, ⟨0, 0, 0⟩, 0, 0⟩ (JAt.set ⟨n, h, cs, ⟨s.x, 0, 0⟩, ⟨0, 0, 0⟩, ⟨0, 0, 0⟩, 0, 0⟩ hj0 28 _ (by decide) rfl) 29 _ (by decide) rfl) 30 _ (by decide) rfl
theorem jst_next1 {n : Nd} {h : Int} {cs : Value} {l : List Sh} {ins : List Int} {vn J : Nat} {s : Sh} {w : World} (hj : JAt w J (jst n h cs l ins 1)) (hv : ins[1]? = some (vn : Int)) (hs : l[vn]? = some s) :
    JAt (((w.setCell ⟨J, 31, none⟩ (.int .i64 s.x)).setCell ⟨J, 32, none⟩ (.int .i64 s.y)).setCell ⟨J, 33, none⟩ (.int .i64 s.z)) J (jst n h cs l ins 2) := by
  have e : l.getD (ins.getD 1 0).toNat default = s := by simp [List.getD_eq_getElem?_getD, hv, hs]
  obtain ⟨a, ha⟩ : ∃ a, l.getD (ins.getD 0 0).toNat default = a := ⟨_, rfl⟩
  have h1 : jst n h cs l ins 2 = ⟨n, h, cs, a, s, ⟨0, 0, 0⟩, 0, 0⟩ := by unfold jst; rw [e, ha]; rfl
  have h0 : jst n h cs l ins 1 = ⟨n, h, cs, a, ⟨0, 0, 0⟩, ⟨0, 0, 0⟩, 0, 0⟩ := by unfold jst; rw [ha]; rfl
  rw [h1]
  rw [h0] at hj
  exact JAt.set _ (JAt.set ⟨n, h, cs, a, ⟨s.x, s.y, 0⟩, ⟨0, 0, 0⟩, 0, 0⟩ (JAt.set ⟨n, h, cs, a, ⟨s.x, 0, 0⟩, ⟨0, 0, 0⟩, 0, 0⟩ hj 31 _ (by decide) rfl) 32 _ (by decide) rfl) 33 _ (by decide) rfl
theorem nodeE_ins {C : List Cn} {n : Nd} {l : List Sh} (h : 1 ≤ n.op ∧ n.op ≤ 14) (hi : insOk n l.length = false) : nodeE C n l = (4, default) := by
  unfold nodeE; rw [if_neg (by omega), if_pos hi]
theorem nodeE_idle {C : List Cn} {n : Nd} {l : List Sh} (h : 1 ≤ n.op ∧ n.op ≤ 14) (hi : insOk n l.length = true) (hd : idleN n = false) : nodeE C n l = (4, default) := by
  unfold nodeE; rw [if_neg (by omega), if_neg (by rw [hi]; simp), if_pos hd]
theorem zero3 {w : World} {b : Nat} (h : RowAt w b [.int .i64 0, .int .i64 0, .int .i64 0]) : RowAt (((w.setCell ⟨b, 0, none⟩ (.int .i64 0)).setCell ⟨b, 1, none⟩ (.int .i64 0)).setCell ⟨b, 2, none⟩ (.int .i64 0)) b [.int .i64 0, .int .i64 0, .int .i64 0] :=
  ((h.set 0 (.int .i64 0) (by decide) rfl).set 1 (.int .i64 0) (by decide) rfl).set 2 (.int .i64 0) (by decide) rfl
set_option maxRecDepth 100000 in
set_option maxHeartbeats 8000000 in
theorem ns_op (n : Nd) (cs sh : Value) (w : World) (h : n.op < 1 ∨ 14 < n.op) :
    Calls Try.prog 11 #[cs, .agg n.cells.toArray, sh] w fun e w' => e = .returned (.tuple #[.agg #[.int .i64 0, .int .i64 0, .int .i64 0], .int .i64 15]) ∧ Below w.heap.size w w' := by
  have e0 : n.cells[0]? = some (.int .i64 n.op) := rfl
  rcases h with h | h
  · have hx : decide (n.op < 1) = true := by simpa using h
    go_enter Try.func11, Try.ntmps11
    go_wp2_with fail
    exact bodyPost_ret (results_cell_mid2 rfl _ _ (w.heap.size + 1) _ rfl (by have := load_new (P := Try.prog) (w.alloc (.cells n.cells.toArray 38)) [.int .i64 0, .int .i64 0, .int .i64 0] 22 22 _ Try.underlying22 rfl (by kernel_rfl); rwa [show (w.alloc (.cells n.cells.toArray 38)).heap.size = w.heap.size + 1 by simp] at this)) rfl ⟨rfl, by go_grown⟩
  · have hx : decide (n.op < 1) = false := by simp; omega
    have hy : decide (14 < n.op) = true := by simpa using h
    go_enter Try.func11, Try.ntmps11
    go_wp2_with fail
    exact bodyPost_ret (results_cell_mid2 rfl _ _ (w.heap.size + 1) _ rfl (by have := load_new (P := Try.prog) (w.alloc (.cells n.cells.toArray 38)) [.int .i64 0, .int .i64 0, .int .i64 0] 22 22 _ Try.underlying22 rfl (by kernel_rfl); rwa [show (w.alloc (.cells n.cells.toArray 38)).heap.size = w.heap.size + 1 by simp] at this)) rfl ⟨rfl, by go_grown⟩
end Go.Proofs.Ytekdcfepfieleaa
