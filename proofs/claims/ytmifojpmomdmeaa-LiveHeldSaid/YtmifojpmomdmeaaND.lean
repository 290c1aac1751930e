/- A range over a function, stated freely (as Rf, without the machine's memory): the iterator may write cells; what turns is said by blocks. -/
import Derived.Test.YtmifojpmomdmeaaGA
import Derived.RangeFuncNested
import Derived.RangeFuncBound
import Derived.RangeFuncCalls
import Derived.RangeFuncLeaves
import Derived.Shelf.Abstract
import Derived.Shelf.RegionOpen
import Derived.WalkKit
import Derived.OwnWalkIn
import Derived.TacticsInMore
import Derived.LoopNIn
import Derived.LoopIn
import Derived.Test.YtmifojpmomdmeaaRowW
import Derived.Test.YtmifojpmomdmeaaNdEq
import Derived.Test.YtmifojpmomdmeaaFA
import Derived.Laws.OwnMore
import Derived.Deep.OwnRows
import Derived.Test.YtmifojpmomdmeaaRF
import Derived.Test.YtmifojpmomdmeaaFS
import Derived.Deep.DeepCutAuto
import Derived.Test.YtmifojpmomdmeaaNY
import Derived.Test.YtmifojpmomdmeaaFkP
import Derived.Sort.CutIn
namespace Go.Proofs.Ytmifojpmomdmeaa
open Go Go.RowKit
set_option linter.unusedVariables false

/-- what changed lies in these blocks -/
structure Out (S : Nat → Prop) (W W' : World) : Prop where
  os : W'.os = W.os
  tape : W'.tape = W.tape
  output : W'.output = W.output
  size : W.heap.size ≤ W'.heap.size
  block : ∀ k, k < W.heap.size → ¬ S k → W'.heap[k]? = W.heap[k]?
theorem Out.refl (S : Nat → Prop) (W : World) : Out S W W := ⟨rfl, rfl, rfl, Nat.le_refl _, fun _ _ _ => rfl⟩
theorem Out.trans {S : Nat → Prop} {a b c : World} (h : Out S a b) (k : Out S b c) : Out S a c :=
  ⟨k.os.trans h.os, k.tape.trans h.tape, k.output.trans h.output, Nat.le_trans h.size k.size, fun j hj hs => (k.block j (Nat.lt_of_lt_of_le hj h.size) hs).trans (h.block j hj hs)⟩
theorem Out.mono {S T : Nat → Prop} {a b : World} (h : Out S a b) (k : ∀ j, S j → T j) : Out T a b :=
  ⟨h.os, h.tape, h.output, h.size, fun j hj hs => h.block j hj fun g => hs (k j g)⟩
theorem Out.below {S : Nat → Prop} {B : Nat} {w a b : World} (h : Out S a b) (k : Below B w a) (hB : B ≤ w.heap.size) (hS : ∀ j, S j → B ≤ j) : Below B w b :=
  ⟨h.os.trans k.os, h.tape.trans k.tape, h.output.trans k.output, Nat.le_trans k.size h.size, fun j hj => (h.block j (Nat.lt_of_lt_of_le hj (Nat.le_trans hB k.size)) fun g => by have := hS j g; omega).trans (k.block j hj)⟩
theorem Out.of_below {a b : World} (S : Nat → Prop) (h : Below a.heap.size a b) : Out S a b := ⟨h.os, h.tape, h.output, h.size, fun j hj _ => h.block j hj⟩
theorem Out.of_grown {a b : World} {r : Option Nat} {S : Nat → Prop} (h : a.grownBy b r) (hr : ∀ k, r = some k → S k) : Out S a b :=
  ⟨h.os, h.tape, h.output, h.size, fun j hj hs => h.block j hj fun e => hs (hr j e.symm)⟩
theorem Out.cell {S : Nat → Prop} {a b : World} (h : Out S a b) {p : Addr} (hp : p.block < a.heap.size) (hs : ¬ S p.block) : b.cell? p = a.cell? p := World.cell?_of_block (h.block _ hp hs)
theorem out_putObj (W : World) (l : Nat) (o : Obj) : Out (· = l) W (W.putObj l o) :=
  ⟨rfl, rfl, rfl, by simp, fun k _ hk => World.putObj_heap_other (fun e => hk e)⟩
/-- one round whose body ends normally -/
theorem yield_round {F : Fence} {m : Nat} {P : Program} {l : Nat} {r : Loop} {args : Array Value} {W : World} {R : Ending → World → Prop}
    (hl : W.heap[l]? = some (.loop r)) (hr : r.state = .ready) (hp : r.pending = none) (hs : args.size = r.params.size) (hfn : F.fn r.fn)
    (h : r.assign.wpIn (F.inRound l) m P (Exit.then (fun a' W' => W'.heap[l]? = some (.loop r) ∧ r.body.wpIn (F.inRound l) m P (fun ex _ W3 => ex = .normal ∧ W3.heap[l]? = some (.loop { r with state := .busy }) ∧ R (.returned (.bool true)) (W3.putObj l (.loop r))) a' (W'.putObj l (.loop { r with state := .busy }))) (fun _ _ _ => False)) { tmps := (r.params.zip args).foldl (fun t (p, v) => t.setIfInBounds p v) r.tmps, defers := [] } W) :
    YieldAt F m P l args W R := by
  refine ⟨r.fn, _, r.assign, r.body, run_yield hl hs, roundIn_of_wpIn hfn (wpIn_mono h ?_)⟩
  rintro e a' W' hq
  cases e with
  | normal =>
    obtain ⟨h1, h2⟩ := hq
    refine ⟨_, run_beginRound h1 hr, wpIn_mono h2 ?_⟩
    rintro e3 a3 W3 ⟨rfl, h3, h4⟩
    have k := run_endRound (P := P) none h3
    have e : ({ { r with state := .busy } with state := if (none : Option Code).isNone then .ready else .done, pending := none } : Loop) = r := by cases r; simp_all
    rw [e] at k
    exact ⟨_, _, k, h4⟩
  | exit id => exact hq
  | goto t => exact hq
  | ret => exact hq
  | panic chain => exact hq
  | outgrown => exact hq
/-- the statement, where no round leaves early -/
theorem wpIn_rangeFunc_free {F : Fence} {n : Nat} {P : Program} {g : Operand} {ps : Array Tmp} {assign body : Code} {Q : Exit → Act → World → Prop} {a : Act} {w : World}
    (hro : F.round = none) (hd : F.depth.isSome = true → 1 ≤ n) {gf : Nat} {lb : Array Value} (hg : a.eval g = .func (.func gf) #[] lb) (hFg : F.fn gf) (eg : ∀ args w, (callFunc gf args).run P w = .ok (.enter gf args) w)
    (h : ∀ r : Loop, F.fn r.fn → r.state = .ready → r.pending = none → r.params = ps → r.assign = assign → r.body = body → r.tmps = a.tmps →
      CallsIn F (n - 1) P gf (#[.func (.yield (w.heap.size + 1)) #[] #[]] ++ lb) ((w.alloc (.deferred (some []))).alloc (.loop r)) (fun e W2 => (∃ v, e = .returned v) ∧ W2.heap[w.heap.size + 1]? = some (.loop r) ∧
        Q .normal { a with defers := { target := .collected w.heap.size, args := #[] } :: a.defers } (W2.putObj (w.heap.size + 1) (.loop { r with state := .exhausted })))) :
    (Code.rangeFunc g ps assign body).wpIn F n P Q a w := by
  refine wpIn_rangeFunc ?_
  intro fn hfn
  rw [hro]
  obtain ⟨W1, hW1⟩ : ∃ W1, (w.alloc (.deferred (some []))).alloc (.loop { state := .ready, pending := none, fn, tmps := a.tmps, params := ps, assign, body, defers := w.heap.size }) = W1 := ⟨_, rfl⟩
  refine ⟨w.heap.size + 1, [{ target := .collected w.heap.size, args := #[] }], W1, { target := .fn (.func gf) lb, args := #[.func (.yield (w.heap.size + 1)) #[] #[]] }, W1, gf,
    #[.func (.yield (w.heap.size + 1)) #[] #[]] ++ lb, W1, ?_, ?_, ?_, ?_, hd, ?_⟩
  · rw [← hW1]; exact run_enterLoop_outer _ _ _ _ _
  · simp only [resolve, hg]
    simp [go_sem]
  · intro f' hf'; simp [Target.leads] at hf'; subst hf'; exact hFg
  · simp [invoke, go_sem, eg]
  · rw [← hW1]
    refine (h { state := .ready, pending := none, fn, tmps := a.tmps, params := ps, assign, body, defers := w.heap.size } hfn rfl rfl rfl rfl rfl rfl).mono ?_
    rintro e W2 ⟨⟨v, rfl⟩, h1, h2⟩
    exact ⟨none, _, run_endLoop h1 (by simp), h2⟩
end Go.Proofs.Ytmifojpmomdmeaa

namespace Go.Proofs.Ytmifojpmomdmeaa
open Go Go.RowKit
set_option linter.unusedVariables false

theorem heap_at_outN {S : Nat → Prop} {W W' : World} (h : Out S W W') {k : Nat} {o : Obj} (hk : W.heap[k]? = some o) (hs : ¬ S k) : W'.heap[k]? = some o :=
  (h.block k (Array.getElem?_eq_some_iff.1 hk).1 hs).trans hk
theorem RowAt.outN {S : Nat → Prop} {W W' : World} {b : Nat} {l : List Value} (h : RowAt W b l) (k : Out S W W') (hs : ¬ S b) : RowAt W' b l :=
  ⟨Nat.lt_of_lt_of_le h.lt k.size, fun j => (World.frozen?_of_block (k.block b h.lt hs)).trans (h.fr j), fun j u hu => (World.cell?_of_block (k.block b h.lt hs)).trans (h.cell j u hu)⟩
end Go.Proofs.Ytmifojpmomdmeaa

namespace Go.Proofs.Ytmifojpmomdmeaa
open Go Go.RowKit Go.Shelf
set_option linter.unusedVariables false
set_option linter.unusedSimpArgs false
set_option maxRecDepth 100000

set_option maxHeartbeats 4000000 in
theorem back_any (na : Option Addr) (n c : Nat) (w : World) : Calls Try.prog 48 #[.slice na n c] w fun e w' => e = .returned (.func (.func 63) #[] #[.pointer (some ⟨w.heap.size, 0, none⟩)]) ∧ RowAt w' w.heap.size [.slice na n c] ∧ Below w.heap.size w w' := by
  have R := Lib.hid (RowAt.new w [.slice na n c] 24)
  go_enter Try.func48, Try.ntmps48
  go_wp2_with fail
  go_ret
  exact ⟨rfl, R.out, by go_grown⟩
attribute [local go_sem] Oper.semAt_some
set_option maxHeartbeats 4000000 in
theorem back_run (l X : Nat) {na : Option Addr} {ns : List Nd} {nc : Nat} (hn : ns.length ≤ 1000) (K : Nat → World → Prop) (hX : ∀ k W, K k W → W.cell? ⟨X, 0, none⟩ = some (.slice na ns.length nc) ∧ NdsIn W na ns nc)
    (hY : ∀ k nd W, K (k + 1) W → ns[k]? = some nd → YieldAt Fence.wide 9 Try.prog l #[.int .i64 (k : Nat), .agg nd.cells.toArray] W fun en W' => en = .returned (.bool true) ∧ K k W')
    (W : World) (h0 : K ns.length W) :
    CallsIn Fence.wide 10 Try.prog 63 #[.func (.yield l) #[] #[], .pointer (some ⟨X, 0, none⟩)] W fun e W' => (∃ v, e = .returned v) ∧ K 0 W' := by
  obtain ⟨T, Z, Z0, NL⟩ := node_type
  have hL := NL.load
  have tA := NL.agg
  have tS := NL.size
  refine callsIn_of_wp Try.func63 rfl trivial ?_ rfl
  simp only [Try.ntmps63, List.size_toArray, List.length_cons, List.length_nil, Nat.reduceAdd, Nat.reduceSub, Array.replicate_succ, Array.replicate_zero, List.push_toArray, List.append_toArray, List.nil_append, List.cons_append]
  simp only [hL]
  clear hL
  have HX := Lib.hid hX
  have HY := Lib.hid hY
  have K0 := Lib.hid h0
  have x0 := (hX _ _ h0).1
  have hnl := (hX _ _ h0).2.1
  rw [List.length_map] at hnl
  have hcb : nc ≤ 9223372036854775807 := (hX _ _ h0).2.2.1
  have hw : IntKind.i64.wrap ((ns.length : Int) - 1) = (ns.length : Int) - 1 := by simp [IntKind.wrap, IntKind.signed, IntKind.bits]; omega
  clear hX hY h0
  gi_wp2
  clear x0
  gi_loopw [3] (fun i wr => ∃ k : Nat, k ≤ ns.length ∧ i = .int .i64 ((k : Int) - 1) ∧ K k wr) (fun i wr => (intOf i + 1).toNat)
  case atStart => exact ⟨ns.length, Nat.le_refl _, rfl, K0.out⟩
  case round =>
    obtain ⟨k, hk, rfl, hKk⟩ := hrel
    cases k with
    | zero =>
      have e : (((0 : Nat) : Int) - 1) = -1 := by simp
      rw [e]
      gi_wp2_with fail
      (first | go_ret | go_ret2 | go_end0)
      exact ⟨⟨_, rfl⟩, hKk⟩
    | succ m =>
      have e : (((m + 1 : Nat) : Int) - 1) = (m : Int) := by omega
      rw [e]
      obtain ⟨nd, hnd⟩ : ∃ n, ns[m]? = some n := ⟨_, List.getElem?_eq_getElem (by omega)⟩
      have hx := (HX.out _ _ hKk).1
      obtain ⟨nb, noff, rfl, hnb, hrg⟩ := nds_range (HX.out _ _ hKk).2 m nd hnd
      have tR := NL.read nd wr nb (noff + m * 26) (fun j v hv => hrg j v hv)
      have tL := NL.len nd
      have m0 : (0 : Int) ≤ (m : Int) := by omega
      have m1 : (m : Int) < (ns.length : Int) := by omega
      have hw2 : IntKind.i64.wrap ((m : Int) - 1) = (m : Int) - 1 := by simp [IntKind.wrap, IntKind.signed, IntKind.bits]; omega
      have hRd := HY.out m nd wr hKk hnd
      obtain ⟨fn, tmps, assign, body, hy, hRd⟩ := hRd
      have HRd := Lib.hid hRd
      have HKM := Lib.hid hk
      clear hRd hKk hnd hrg hk e
      gi_wp2_with fail
      refine HRd.out.mono ?_
      rintro en W5 ⟨rfl, hK5⟩
      gi_wp2
      go_roundw
      case rel => exact ⟨m, by have := HKM.out; omega, by simp, hK5⟩
      case measure => simp [intOf]
end Go.Proofs.Ytmifojpmomdmeaa

namespace Go.Proofs.Ytmifojpmomdmeaa
open Go Go.RowKit
set_option linter.unusedVariables false

def boolsN (L : List Bool) : List Value := L.map fun b => .bool b
theorem boolsN_at {L : List Bool} {i : Nat} (h : i < L.length) : (boolsN L)[i]? = some (.bool (L.getD i false)) := by simp [boolsN, List.getD, h]
theorem boolsN_set {w : World} {B i : Nat} {L : List Bool} {b : Bool} (h : RowAt w B (boolsN L)) (hi : i < L.length) : RowAt (w.setCell ⟨B, i, none⟩ (.bool b)) B (boolsN (L.set i b)) :=
  h.set i _ (by simpa [boolsN] using hi) (by simp [boolsN, List.map_set])
theorem info_boolN : (Try.prog.info? 4).map (fun i => (i.zero, i.size, i.bytes)) = some (some (.bool false), 1, 1) := by kernel_rfl
theorem made_boolsN (n : Nat) : madeCells #[Value.bool false] n = (boolsN (List.replicate n false)).toArray := by
  apply Array.ext'
  apply List.ext_getElem
  · simp [madeCells, boolsN]
  · intro i h1 h2
    simp [madeCells, boolsN, Nat.mod_one]
theorem made_rowN (w : World) (n : Nat) : RowAt (w.alloc (.cells (madeCells #[Value.bool false] n) 4)) w.heap.size (boolsN (List.replicate n false)) := by
  rw [made_boolsN]; exact RowAt.new w _ _
end Go.Proofs.Ytmifojpmomdmeaa

namespace Go.Proofs.Ytmifojpmomdmeaa
set_option linter.unusedVariables false
set_option linter.unusedSectionVars false

/-- what a node reads is needed, where its value is -/
def stN (L : List Bool) (i : Nat) (vs : List Nat) : List Bool := if L.getD (i + 1) false then vs.foldl (fun L v => L.set v true) L else L
theorem setT_len (vs : List Nat) : ∀ L : List Bool, (vs.foldl (fun L v => L.set v true) L).length = L.length := by
  induction vs with
  | nil => intro L; rfl
  | cons v r ih => intro L; rw [List.foldl_cons, ih, List.length_set]
theorem setT_get (vs : List Nat) : ∀ (L : List Bool) (u : Nat), (∀ v ∈ vs, v < L.length) → ((vs.foldl (fun L v => L.set v true) L).getD u false = true ↔ L.getD u false = true ∨ u ∈ vs) := by
  induction vs with
  | nil => intro L u _; simp
  | cons v r ih =>
    intro L u h
    rw [List.foldl_cons, ih _ _ (fun x hx => by rw [List.length_set]; exact h x (List.mem_cons_of_mem _ hx))]
    have hv := h v (List.mem_cons_self ..)
    by_cases e : v = u
    · subst e
      simp [List.getD, List.getElem?_set_self hv]
    · simp [List.getD, List.getElem?_set_ne e, Ne.symm e]
theorem stN_len (L : List Bool) (i : Nat) (vs : List Nat) : (stN L i vs).length = L.length := by
  unfold stN; split
  · exact setT_len vs L
  · rfl
theorem stN_get {L : List Bool} {i : Nat} {vs : List Nat} (h : ∀ v ∈ vs, v < L.length) (u : Nat) : (stN L i vs).getD u false = true ↔ L.getD u false = true ∨ (L.getD (i + 1) false = true ∧ u ∈ vs) := by
  unfold stN; split
  · next hc => rw [setT_get vs L u h]; exact ⟨fun h => h.imp id (fun x => ⟨hc, x⟩), fun h => h.imp id (·.2)⟩
  · next hc => exact ⟨Or.inl, fun h => h.elim id (fun x => absurd x.1 hc)⟩
/-- backwards, from k nodes on -/
def bkN (f : Nat → List Nat) : Nat → List Bool → List Bool
  | 0, L => L
  | k + 1, L => bkN f k (stN L k (f k))
/-- forwards, k nodes -/
def fwN (f : Nat → List Nat) : Nat → List Bool → List Bool
  | 0, L => L
  | k + 1, L => stN (fwN f k L) k (f k)
/-- t ways forwards -/
def fwsN (f : Nat → List Nat) (N : Nat) : Nat → List Bool → List Bool
  | 0, L => L
  | t + 1, L => fwN f N (fwsN f N t L)
/-- what the output hangs on -/
inductive RchN (f : Nat → List Nat) (N o : Nat) : Nat → Prop
  | out : RchN f N o o
  | step {i v : Nat} : RchN f N o (i + 1) → i < N → v ∈ f i → RchN f N o v
section
variable {f : Nat → List Nat} {N o : Nat} (hf : ∀ i, i < N → ∀ v ∈ f i, v ≤ i) (ho : o ≤ N)
include hf
theorem bkN_len : ∀ (k : Nat) (L : List Bool), (bkN f k L).length = L.length
  | 0, L => rfl
  | k + 1, L => by rw [bkN, bkN_len k, stN_len]
theorem fwN_len : ∀ (k : Nat) (L : List Bool), (fwN f k L).length = L.length
  | 0, L => rfl
  | k + 1, L => by rw [fwN, stN_len, fwN_len k]
theorem fwsN_len : ∀ (t : Nat) (L : List Bool), (fwsN f N t L).length = L.length
  | 0, L => rfl
  | t + 1, L => by rw [fwsN, fwN_len hf, fwsN_len t]
theorem st_sound {L : List Bool} {k : Nat} (hk : k < N) (hl : L.length = N + 1) (h : ∀ v, L.getD v false = true → RchN f N o v) : ∀ v, (stN L k (f k)).getD v false = true → RchN f N o v := by
  intro v hv
  rcases (stN_get (fun x hx => by have := hf k hk x hx; omega) v).1 hv with h1 | ⟨h1, h2⟩
  · exact h v h1
  · exact .step (h _ h1) hk h2
theorem st_mono {L : List Bool} {k : Nat} (hk : k < N) (hl : L.length = N + 1) {v : Nat} (h : L.getD v false = true) : (stN L k (f k)).getD v false = true :=
  (stN_get (fun x hx => by have := hf k hk x hx; omega) v).2 (Or.inl h)
theorem bk_spec : ∀ (k : Nat) (L : List Bool), k ≤ N → L.length = N + 1 → L.getD o false = true → (∀ v, L.getD v false = true → RchN f N o v) → (∀ i, k ≤ i → i < N → L.getD (i + 1) false = true → ∀ v ∈ f i, L.getD v false = true) →
    ∀ v, (bkN f k L).getD v false = true ↔ RchN f N o v
  | 0, L, _, hl, h0, hs, hc => fun v => ⟨hs v, fun h => by
      induction h with
      | out => exact h0
      | step _ hi hv ih => exact hc _ (Nat.zero_le _) hi ih _ hv⟩
  | k + 1, L, hk, hl, h0, hs, hc => by
      have hb : ∀ v ∈ f k, v < L.length := fun x hx => by have := hf k (by omega) x hx; omega
      refine bk_spec k _ (by omega) (by rw [stN_len]; exact hl) (st_mono hf (by omega) hl h0) (st_sound hf (by omega) hl hs) (fun i hki hi h1 v hv => ?_)
      have h2 : L.getD (i + 1) false = true := by
        rcases (stN_get hb (i + 1)).1 h1 with h | ⟨_, h⟩
        · exact h
        · have := hf k (by omega) _ h; omega
      by_cases e : i = k
      · subst e; exact (stN_get hb v).2 (Or.inr ⟨h2, hv⟩)
      · exact st_mono hf (by omega) hl (hc i (by omega) hi h2 v hv)
theorem fw_sound : ∀ (k : Nat) (L : List Bool), k ≤ N → L.length = N + 1 → (∀ v, L.getD v false = true → RchN f N o v) → ∀ v, (fwN f k L).getD v false = true → RchN f N o v
  | 0, L, _, _, h => h
  | k + 1, L, hk, hl, h => st_sound hf (by omega) (by rw [fwN_len hf]; exact hl) (fw_sound k L (by omega) hl h)
theorem fw_mono {L : List Bool} {v : Nat} (hl : L.length = N + 1) (h : L.getD v false = true) : ∀ k, k ≤ N → (fwN f k L).getD v false = true
  | 0, _ => h
  | k + 1, hk => st_mono hf (by omega) (by rw [fwN_len hf]; exact hl) (fw_mono hl h k (by omega))
theorem fw_done {L : List Bool} (hl : L.length = N + 1) {i v : Nat} (hv : v ∈ f i) (h : L.getD (i + 1) false = true) : ∀ k, i < k → k ≤ N → (fwN f k L).getD v false = true
  | 0, h1, _ => by omega
  | k + 1, h1, hk => by
    have hl2 : (fwN f k L).length = N + 1 := by rw [fwN_len hf]; exact hl
    by_cases e : i = k
    · subst e
      exact (stN_get (fun x hx => by have := hf i (by omega) x hx; omega) v).2 (Or.inr ⟨fw_mono hf hl h i (by omega), hv⟩)
    · exact st_mono hf (by omega) hl2 (fw_done hl hv h k (by omega) (by omega))
theorem fws_mono {L : List Bool} {v : Nat} (hl : L.length = N + 1) (h : L.getD v false = true) : ∀ t, (fwsN f N t L).getD v false = true
  | 0 => h
  | t + 1 => fw_mono hf (by rw [fwsN_len hf]; exact hl) (fws_mono hl h t) N (Nat.le_refl _)
include ho
theorem rch_le {v : Nat} (h : RchN f N o v) : v ≤ o := by
  induction h with
  | out => exact Nat.le_refl _
  | step _ hi hv ih => have := hf _ hi _ hv; omega
theorem fws_all {L : List Bool} (hl : L.length = N + 1) (h0 : L.getD o false = true) : ∀ (t : Nat) (v : Nat), RchN f N o v → N ≤ v + t → (fwsN f N t L).getD v false = true
  | 0, v, h, hv => by have := rch_le hf ho h; obtain rfl : v = o := by omega
                      exact h0
  | t + 1, v, h, hv => by
    have hl2 : (fwsN f N t L).length = N + 1 := by rw [fwsN_len hf]; exact hl
    cases h with
    | out => exact fws_mono hf hl h0 (t + 1)
    | step h1 hi hv2 =>
      have := hf _ hi _ hv2
      exact fw_done hf hl2 hv2 (fws_all hl h0 t _ h1 (by omega)) N hi (Nat.le_refl _)
theorem fws_sound {L : List Bool} (hl : L.length = N + 1) (h : ∀ v, L.getD v false = true → RchN f N o v) : ∀ (t : Nat) (v : Nat), (fwsN f N t L).getD v false = true → RchN f N o v
  | 0 => h
  | t + 1 => fw_sound hf N _ (Nat.le_refl _) (by rw [fwsN_len hf]; exact hl) (fws_sound hl h t)
/-- both ways come to the same -/
theorem need_same : bkN f N ((List.replicate (N + 1) false).set o true) = fwsN f N (N + 1) ((List.replicate (N + 1) false).set o true) := by
  have hl : ((List.replicate (N + 1) false).set o true).length = N + 1 := by simp
  have h0 : ((List.replicate (N + 1) false).set o true).getD o false = true := by rw [List.getD, List.getElem?_set_self (by simp; omega)]; rfl
  have hs : ∀ v, ((List.replicate (N + 1) false).set o true).getD v false = true → RchN f N o v := by
    intro v hv
    by_cases e : o = v
    · subst e; exact .out
    · simp [List.getD, List.getElem?_set_ne e, List.getElem?_replicate] at hv
      split at hv <;> simp at hv
  have h1 := bk_spec hf (o := o) N _ (Nat.le_refl _) hl h0 hs (fun i hi hi2 => by omega)
  have h2 : ∀ v, (fwsN f N (N + 1) ((List.replicate (N + 1) false).set o true)).getD v false = true ↔ RchN f N o v := fun v => ⟨fws_sound hf ho hl hs _ v, fun h => fws_all hf ho hl h0 _ v h (by omega)⟩
  apply List.ext_getElem
  · rw [bkN_len hf, fwsN_len hf]
  · intro i ha hb
    have e : (bkN f N ((List.replicate (N + 1) false).set o true)).getD i false = (fwsN f N (N + 1) ((List.replicate (N + 1) false).set o true)).getD i false := by
      rw [Bool.eq_iff_iff, h1, h2]
    simpa [List.getD, ha, hb] using e
end
end Go.Proofs.Ytmifojpmomdmeaa

namespace Go.Proofs.Ytmifojpmomdmeaa
open Go Go.RowKit
set_option linter.unusedVariables false
set_option linter.unusedSimpArgs false
set_option maxRecDepth 100000

/-- what the document does at one input -/
def dcN (i : Nat) (L : List Bool) (v : Nat) : List Bool := L.set v (L.getD v false || L.getD (i + 1) false)
theorem dcN_len (i : Nat) (L : List Bool) (v : Nat) : (dcN i L v).length = L.length := by simp [dcN]
theorem dcs_len (i : Nat) (vs : List Nat) : ∀ L : List Bool, (vs.foldl (dcN i) L).length = L.length := by
  induction vs with
  | nil => intro L; rfl
  | cons v r ih => intro L; rw [List.foldl_cons, ih, dcN_len]
theorem dcs_eq (i : Nat) (vs : List Nat) : ∀ L : List Bool, (∀ v ∈ vs, v < L.length) → vs.foldl (dcN i) L = stN L i vs := by
  induction vs with
  | nil => intro L _; unfold stN; split <;> rfl
  | cons v r ih =>
    intro L h
    have hv := h v (List.mem_cons_self ..)
    rw [List.foldl_cons, ih _ (fun x hx => by rw [dcN_len]; exact h x (List.mem_cons_of_mem _ hx))]
    by_cases c : L.getD (i + 1) false = true
    · have e : dcN i L v = L.set v true := by unfold dcN; rw [c, Bool.or_true]
      have c2 : (L.set v true).getD (i + 1) false = true := by
        by_cases g : v = i + 1
        · subst g; rw [List.getD, List.getElem?_set_self hv]; rfl
        · rw [List.getD, List.getElem?_set_ne g]; exact c
      rw [e]
      unfold stN
      rw [if_pos c, if_pos c2, List.foldl_cons]
    · have c' : L.getD (i + 1) false = false := by simpa using c
      have e : dcN i L v = L := by
        unfold dcN
        rw [c', Bool.or_false]
        apply List.ext_getElem (by simp)
        intro k h1 h2
        by_cases g : v = k
        · subst g; simp [List.getD, h2]
        · rw [List.getElem_set_ne g]
      rw [e]
      unfold stN
      rw [if_neg c, if_neg c]
theorem take_snocN {α : Type} {l : List α} {k : Nat} {x : α} (h : l[k]? = some x) : l.take (k + 1) = l.take k ++ [x] := by
  rw [List.take_add_one, h]; rfl
/-- what each node reads -/
def insF (ns : List Nd) (i : Nat) : List Nat := (((ns[i]?).map insN).getD []).map Int.toNat
theorem insF_at {ns : List Nd} {i : Nat} {n : Nd} (h : ns[i]? = some n) : insF ns i = (insN n).map Int.toNat := by unfold insF; rw [h]; rfl
theorem fw_lenN (f : Nat → List Nat) (k : Nat) (L : List Bool) : (fwN f k L).length = L.length := by
  induction k with
  | zero => rfl
  | succ k ih => rw [fwN, stN_len, ih]
theorem fws_lenN (f : Nat → List Nat) (N t : Nat) (L : List Bool) : (fwsN f N t L).length = L.length := by
  induction t with
  | zero => rfl
  | succ k ih => rw [fwsN, fw_lenN, ih]
/-- where all begins -/
def nd0 (N o : Nat) : List Bool := (List.replicate (N + 1) false).set o true
set_option maxHeartbeats 8000000 in
theorem rneeded_any (g : GrQ) (w : World) (o : Nat) (hgo : g.o = (o : Int)) (hoN : o ≤ g.ns.length) (hN : NdsIn w g.na g.ns g.nc) (hn : g.ns.length ≤ 1000) (ha : ∀ (k : Nat) (n : Nd), g.ns[k]? = some n → ∀ v ∈ insN n, 0 ≤ v ∧ v ≤ (k : Int)) :
    Calls Try.prog 45 #[g.val] w fun e w' => ∃ B c, e = .returned (.slice (some ⟨B, 0, none⟩) (g.ns.length + 1) c) ∧ w.heap.size ≤ B ∧ RowAt w' B (boolsN (fwsN (insF g.ns) g.ns.length (g.ns.length + 1) (nd0 g.ns.length o))) ∧ Below w.heap.size w w' := by
  obtain ⟨T, Z, Z0, NL⟩ := node_type
  have hL := NL.load
  have tA := NL.agg
  have tS := NL.size
  obtain ⟨gx, gy, gz, ca, cc, C, na, nc, ns, go⟩ := g
  dsimp only at *
  subst hgo
  have HN := Lib.hid hN
  have HA := Lib.hid ha
  have hnl := hN.1
  rw [List.length_map] at hnl
  have hcb : nc ≤ 9223372036854775807 := hN.2.1
  unfold GrQ.val
  dsimp only
  have RG := Lib.hid (RowAt.new w [.int .i64 gx, .int .i64 gy, .int .i64 gz, .slice ca C.length cc, .slice na ns.length nc, .int .i64 (o : Int)] 26)
  have BW := Lib.hid (Below.alloc (Below.refl w.heap.size w) (Nat.le_refl _) (.cells #[.int .i64 gx, .int .i64 gy, .int .i64 gz, .slice ca C.length cc, .slice na ns.length nc, .int .i64 (o : Int)] 26))
  have hmk := fun W => run_make_row' (P := Try.prog) 71 4 (.bool false) 1 Try.underlying71 info_boolN rfl .i64 .i64 (ns.length + 1) (by omega) (by omega) W
  push_cast at hmk
  clear hN ha
  go_enter Try.func45, Try.ntmps45
  simp only [hL]
  clear hL
  go_upto_region 1 with fail
  generalize w.alloc (.cells #[.int .i64 gx, .int .i64 gy, .int .i64 gz, .slice ca C.length cc, .slice na ns.length nc, .int .i64 (o : Int)] 26) = W1 at *
  have b4 := RG.out.cell 4 _ rfl
  have b5 := RG.out.cell 5 _ rfl
  have bl := RG.out.lt
  go_upto_region 2 with fail
  have hB0 := made_rowN W1 (ns.length + 1)
  have hal := Below.alloc (Below.refl W1.heap.size W1) (Nat.le_refl _) (.cells (madeCells #[Value.bool false] (ns.length + 1)) 4)
  have RB0 := Lib.hid hB0
  have RG2 := Lib.hid (RG.out.over hal)
  have BW2 := Lib.hid (below_call BW.out hal)
  have hB1 := hB0.lt
  have fB := hB0.fr o
  have fC := hB0.cell o _ (boolsN_at (by simp; omega))
  have hbw : w.heap.size < W1.heap.size := bl
  clear b4 b5 bl hB0 hal hmk
  obtain ⟨W2, hW2⟩ : ∃ W, W = W1.alloc (.cells (madeCells #[Value.bool false] (ns.length + 1)) 4) := ⟨_, rfl⟩
  rw [← hW2] at RB0 RG2 BW2 hB1 fB fC ⊢
  clear hW2
  have b5 := RG2.out.cell 5 _ rfl
  have bl := RG2.out.lt
  go_upto_region 3 with fail
  have RB := Lib.hid (boolsN_set (b := true) RB0.out (show o < (List.replicate (ns.length + 1) false).length by simp; omega))
  have RG3 := Lib.hid (RG2.out.aside W1.heap.size o (.bool true) (by omega))
  have BW3 := Lib.hid (Below.setCell BW2.out (show w.heap.size ≤ (⟨W1.heap.size, o, none⟩ : Addr).block from Nat.le_of_lt hbw) (.bool true))
  have hW3 : W1.heap.size < (W2.setCell ⟨W1.heap.size, o, none⟩ (.bool true)).heap.size := by simpa using hB1
  have HBW := Lib.hid hbw
  clear RB0 RG2 BW2 b5 bl fB fC hB1
  obtain ⟨BK, hBK⟩ : ∃ B, B = W1.heap.size := ⟨_, rfl⟩
  rw [← hBK] at RB RG3 BW3 hW3 HBW hbw ⊢
  generalize W2.setCell ⟨BK, o, none⟩ (.bool true) = W3 at *
  clear hBK RG BW
  obtain ⟨L0, hL0⟩ : ∃ L, L = nd0 ns.length o := ⟨_, rfl⟩
  have hl0 : L0.length = ns.length + 1 := by rw [hL0]; simp [nd0]
  have RB1 := Lib.hid (show RowAt W3 BK (boolsN L0) by rw [hL0]; exact RB.out)
  have HLE := Lib.hid hL0
  have HL0 := Lib.hid hl0
  have RGN := Lib.hid (fun (wr : World) (k : K2 BK BK W3 wr) => RG3.out.k2 k (by omega) (by omega))
  have BWN := Lib.hid (fun (wr : World) (k : K2 BK BK W3 wr) => BW3.out.trans (k.below (Nat.le_of_lt hbw) (Nat.le_of_lt hbw) BW3.out.size))
  clear RB hL0 hl0 RG3 BW3
  go_wp2_with fail
  go_loopw [4] (fun s4 wr => ∃ t : Nat, t ≤ ns.length + 1 ∧ s4 = .int .i64 t ∧ RowAt wr BK (boolsN (fwsN (insF ns) ns.length t L0)) ∧ K2 BK BK W3 wr) (fun s4 _ => ns.length + 1 - (intOf s4).toNat)
  case atStart => exact ⟨0, Nat.zero_le _, rfl, RB1.out, K2.refl _ _ _⟩
  case round =>
    obtain ⟨t, ht, rfl, hrow, hK⟩ := hrel
    have HR1 := Lib.hid hrow
    have HK1 := Lib.hid hK
    have g4 := (RGN.out _ hK).cell 4 _ rfl
    have gl := (RGN.out _ hK).lt
    have HLT := Lib.hid (show (fwsN (insF ns) ns.length t L0).length = ns.length + 1 by rw [fws_lenN]; exact HL0.out)
    have HNX := Lib.hid (show fwsN (insF ns) ns.length (t + 1) L0 = fwN (insF ns) ns.length (fwsN (insF ns) ns.length t L0) from rfl)
    clear hrow hK
    by_cases htl : t ≤ ns.length
    · have t0 : (0 : Int) ≤ (t : Int) := by omega
      have t1 : (t : Int) ≤ (ns.length : Int) := by omega
      have HT := Lib.hid htl
      obtain ⟨Lt, hLt⟩ : ∃ L, L = fwsN (insF ns) ns.length t L0 := ⟨_, rfl⟩
      rw [← hLt] at HR1 HLT HNX
      clear htl hLt
      generalize wr = wt at *
      go_wp2_with fail
      clear g4 gl t0 t1
      go_loopw [5] (fun s5 wr => ∃ i : Nat, i ≤ ns.length ∧ s5 = .int .i64 i ∧ RowAt wr BK (boolsN (fwN (insF ns) i Lt)) ∧ K2 BK BK W3 wr) (fun s5 _ => ns.length - (intOf s5).toNat)
      case atStart => exact ⟨0, Nat.zero_le _, rfl, HR1.out, HK1.out⟩
      case round =>
        obtain ⟨i, hi, rfl, hrow, hK⟩ := hrel
        have HR2 := Lib.hid hrow
        have HK2 := Lib.hid hK
        have g4 := (RGN.out _ hK).cell 4 _ rfl
        have gl := (RGN.out _ hK).lt
        have BW2 := Lib.hid (BWN.out _ hK)
        have HLI := Lib.hid (show (fwN (insF ns) i Lt).length = ns.length + 1 by rw [fw_lenN]; exact HLT.out)
        clear hrow hK
        by_cases hil : i < ns.length
        · obtain ⟨nd, hnd⟩ : ∃ n, ns[i]? = some n := ⟨_, List.getElem?_eq_getElem hil⟩
          obtain ⟨nb, noff, hna, hnb, hrg⟩ := nds_range HN.out i nd hnd
          subst hna
          have HNI := Lib.hid (show fwN (insF ns) (i + 1) Lt = stN (fwN (insF ns) i Lt) i ((insN nd).map Int.toNat) by rw [← insF_at hnd]; rfl)
          have tR := NL.read nd wr nb (noff + i * 26) (fun j v hv => (BW2.out.cell (p := ⟨nb, _, none⟩) hnb).trans (hrg j v hv))
          have tL := NL.len nd
          have RI := Lib.hid (fun W => rins nd W)
          have HAH := Lib.hid (HA.out i nd hnd)
          have kl0 : (0 : Int) ≤ (i : Int) := by omega
          have kl1 : (i : Int) < (ns.length : Int) := by omega
          have HI := Lib.hid hil
          have hli : ((insN nd).length : Int) ≤ 2 := by have := ins_len nd; omega
          obtain ⟨Li, hLi⟩ : ∃ L, L = fwN (insF ns) i Lt := ⟨_, rfl⟩
          rw [← hLi] at HR2 HLI HNI
          clear hrg hnd hil hLi
          generalize wr = wi at *
          go_wp2_with (go_at_call 15; (with_reducible refine (RI.out _).mono ?_); rintro e w4 ⟨at0, ci, rfl, hb2, hins⟩; have HB4 := Lib.hid hb2; have IA := Lib.hid hins; clear hb2 hins)
          clear tR tL g4 gl kl0 kl1
          have R4 := Lib.hid (HR2.out.over HB4.out)
          have hBi : BK < wi.heap.size := HR2.out.lt
          obtain ⟨kp, hkp⟩ : ∃ kp : Nat, kp = i + 1 := ⟨_, rfl⟩
          have hw : IntKind.i64.wrap ((i : Int) + 1) = (kp : Int) := by simp [IntKind.wrap, IntKind.signed, IntKind.bits]; omega
          have p0 : (0 : Int) ≤ (kp : Int) := by omega
          have p1 : (kp : Int) < (ns.length : Int) + 1 := by have := HI.out; omega
          have HKP := Lib.hid hkp
          clear hkp
          go_loopw [7] (fun s7 wx => ∃ j : Nat, j ≤ (insN nd).length ∧ s7 = .int .i64 j ∧ RowAt wx BK (boolsN ((((insN nd).take j).map Int.toNat).foldl (dcN i) Li)) ∧ K2 BK BK w4 wx) (fun s7 _ => (insN nd).length - (intOf s7).toNat)
          case atStart => exact ⟨0, Nat.zero_le _, rfl, R4.out, K2.refl _ _ _⟩
          case round =>
            obtain ⟨j, hj, rfl, hrow, hK⟩ := hrel
            have HK3 := Lib.hid hK
            have HLJ := Lib.hid (show ((((insN nd).take j).map Int.toNat).foldl (dcN i) Li).length = ns.length + 1 by rw [dcs_len]; exact HLI.out)
            by_cases hjl : j < (insN nd).length
            · obtain ⟨z, hz⟩ : ∃ z, (insN nd)[j]? = some z := ⟨_, List.getElem?_eq_getElem hjl⟩
              obtain ⟨gi, hat, hgi, hgl, hc⟩ := IA.out j z hz
              subst hat
              have hne : gi ≠ BK := by omega
              have hc2 := (cell_blk (hK.blk gi hgl hne hne) j).trans hc
              have hgl2 : gi < wr.heap.size := Nat.lt_of_lt_of_le hgl hK.size
              obtain ⟨z0, z1⟩ := HAH.out z (List.mem_of_getElem? hz)
              obtain ⟨v, rfl⟩ : ∃ v : Nat, z = (v : Int) := ⟨z.toNat, by omega⟩
              have HNJ := Lib.hid (show (((insN nd).take (j + 1)).map Int.toNat).foldl (dcN i) Li = dcN i ((((insN nd).take j).map Int.toNat).foldl (dcN i) Li) v by rw [take_snocN hz, List.map_append, List.foldl_append]; rfl)
              obtain ⟨Lj, hLj⟩ : ∃ L, L = (((insN nd).take j).map Int.toNat).foldl (dcN i) Li := ⟨_, rfl⟩
              rw [← hLj] at hrow HLJ HNJ
              have HRJ := Lib.hid hrow
              have hvl : v < Lj.length := by rw [HLJ.out]; have := HI.out; omega
              have HVL := Lib.hid hvl
              have cv := hrow.cell v _ (boolsN_at hvl)
              have ck := hrow.cell kp _ (boolsN_at (by rw [HLJ.out]; omega))
              have fv := hrow.fr v
              have bl3 := hrow.lt
              have v0 : (0 : Int) ≤ (v : Int) := by omega
              have v1 : (v : Int) < (ns.length : Int) + 1 := by have := HI.out; omega
              have j0 : (0 : Int) ≤ (j : Int) := by omega
              have j1 : (j : Int) < ((insN nd).length : Int) := by omega
              have HJ := Lib.hid hjl
              have DC := Lib.hid (show dcN i Lj v = Lj.set v (Lj.getD v false || Lj.getD kp false) by rw [HKP.out]; rfl)
              clear hLj hrow hvl hc hz z0 z1 hjl hK
              generalize Lj.getD v false = q1 at *
              generalize Lj.getD kp false = q2 at *
              cases q1
              · go_upto_region 13 with fail
                go_region
                all_goals (go_wp2_with fail)
                all_goals exact ⟨⟨j + 1, HJ.out, rfl, by rw [HNJ.out, DC.out]; exact (boolsN_set (b := q2) HRJ.out HVL.out).over (Below.refl _ _).drew, HK3.out.trans ((K2.of_u (grownN_set (World.grownBy.refl _ _))).trans (K2.of_below (Below.refl _ _).drew))⟩, by have := HJ.out; simp [intOf]; omega⟩
              · go_upto_region 13 with fail
                go_region
                all_goals (go_wp2_with fail)
                all_goals exact ⟨⟨j + 1, HJ.out, rfl, by rw [HNJ.out, DC.out]; exact (boolsN_set (b := true) HRJ.out HVL.out).over (Below.refl _ _).drew, HK3.out.trans ((K2.of_u (grownN_set (World.grownBy.refl _ _))).trans (K2.of_below (Below.refl _ _).drew))⟩, by have := HJ.out; simp [intOf]; omega⟩
            · obtain rfl : j = (insN nd).length := by omega
              have j1 : ¬ (((insN nd).length : Int) < ((insN nd).length : Int)) := by omega
              clear hjl
              go_wp2_with fail
              refine ⟨⟨i + 1, HI.out, by rw [HKP.out], ?_, (HK2.out.trans (K2.of_below HB4.out)).trans hK⟩, by have := HI.out; have := HKP.out; simp [intOf]; omega⟩
              rw [HNI.out, ← dcs_eq i _ Li (fun x hx => by
                obtain ⟨z, hz, rfl⟩ := List.mem_map.1 hx
                have := HAH.out z hz
                have := HI.out
                rw [HLI.out]; omega)]
              rw [List.take_length] at hrow
              exact hrow
        · obtain rfl : i = ns.length := by omega
          have kl1 : ¬ ((ns.length : Int) < (ns.length : Int)) := by omega
          clear hil
          go_wp2_with fail
          exact ⟨⟨t + 1, by have := HT.out; omega, rfl, by rw [HNX.out]; exact HR2.out, HK2.out⟩, by have := HT.out; simp [intOf]; omega⟩
    · obtain rfl : t = ns.length + 1 := by omega
      have t1 : ¬ (((ns.length + 1 : Nat) : Int) ≤ (ns.length : Int)) := by omega
      clear htl
      go_wp2_with fail
      go_ret
      exact ⟨BK, ⟨_, rfl⟩, by omega, by rw [← HLE.out]; exact HR1.out, BWN.out _ HK1.out⟩
end Go.Proofs.Ytmifojpmomdmeaa

namespace Go.Proofs.Ytmifojpmomdmeaa
open Go Go.RowKit Go.Shelf
set_option linter.unusedVariables false
set_option linter.unusedSimpArgs false
set_option maxRecDepth 100000
attribute [local go_sem] Oper.semAt_some

theorem mixed_okN : Try.prog.follows .mixedOrders = true := by kernel_rfl
theorem two_allocN (W : World) (o1 o2 : Obj) : ((W.alloc o1).alloc o2).heap[W.heap.size]? = some o1 ∧ ((W.alloc o1).alloc o2).heap[W.heap.size + 1]? = some o2 ∧ Below W.heap.size W ((W.alloc o1).alloc o2) := by
  refine ⟨?_, ?_, ((Below.refl _ _).alloc (Nat.le_refl _) _).alloc (by simp) _⟩
  · rw [heap_alloc_old _ _ (by simp), heap_alloc_new]
  · have e : W.heap.size + 1 = (W.alloc o1).heap.size := by simp
    rw [e, heap_alloc_new]
/-- what the rounds keep: the loop's own object, the row, all else as it was -/
structure NdK (l NB : Nat) (r : Loop) (f : Nat → List Nat) (N : Nat) (L0 : List Bool) (WC : World) (k : Nat) (W : World) : Prop where
  lo : W.heap[l]? = some (.loop r)
  row : ∃ L, bkN f k L = bkN f N L0 ∧ L.length = N + 1 ∧ RowAt W NB (boolsN L)
  out : Out (fun j => j = NB ∨ j = l) WC W
/-- what sched.Needed tells -/
def NdPost (g : GrQ) (w : World) (e : Ending) (w' : World) : Prop :=
  ((graphE g.gr).1 ≠ 0 → e = .returned (.tuple #[.slice none 0 0, .int .i64 (graphE g.gr).1])) ∧ Below w.heap.size w w' ∧
  ((graphE g.gr).1 = 0 → ∃ U c, e = .returned (.tuple #[.slice (some ⟨U, 0, none⟩) (g.ns.length + 1) c, .int .i64 0]) ∧ w.heap.size ≤ U ∧ RowAt w' U (boolsN (bkN (insF g.ns) g.ns.length (nd0 g.ns.length g.o.toNat))))
set_option maxHeartbeats 8000000 in
theorem needed_any (g : GrQ) (w : World) (hC : CnsIn w g.ca g.C g.cc) (hN : NdsIn w g.na g.ns g.nc) (hn : g.ns.length ≤ 1000) :
    Calls Try.prog 32 #[g.val] w (NdPost g w) := by
  obtain ⟨T, Z, Z0, NL⟩ := node_type
  have hL := NL.load
  have hAl := NL.alloc
  have hSt := NL.store
  have tA := NL.agg
  have tS := NL.size
  have tZ := NL.zero
  obtain ⟨E, hE⟩ : ∃ E, E = graphE g.gr := ⟨_, rfl⟩
  unfold NdPost
  rw [← hE]
  obtain ⟨gx, gy, gz, ca, cc, C, na, nc, ns, go⟩ := g
  have B0 : Below w.heap.size w (w.alloc (.cells #[.int .i64 gx, .int .i64 gy, .int .i64 gz, .slice ca C.length cc, .slice na ns.length nc, .int .i64 go] 26)) := Below.alloc (Below.refl _ _) (Nat.le_refl _) _
  have SY := shapes_all ⟨gx, gy, gz, ca, cc, C, na, nc, ns, go⟩ (w.alloc (.cells #[.int .i64 gx, .int .i64 gy, .int .i64 gz, .slice ca C.length cc, .slice na ns.length nc, .int .i64 go] 26)) (hC.later B0) (FlatIn.later hN B0) hn
  unfold ShPost at SY
  rw [← hE] at SY
  have HN := Lib.hid hN
  have hnl := hN.1
  rw [List.length_map] at hnl
  have hcb : nc ≤ 9223372036854775807 := hN.2.1
  obtain ⟨ec, el⟩ := E
  unfold GrQ.val at SY ⊢
  dsimp only at *
  have RG := Lib.hid (RowAt.new w [.int .i64 gx, .int .i64 gy, .int .i64 gz, .slice ca C.length cc, .slice na ns.length nc, .int .i64 go] 26)
  have BW := Lib.hid B0
  have SYH := Lib.hid SY
  clear B0 SY hC hN
  have hmk := fun W => run_make_row' (P := Try.prog) 71 4 (.bool false) 1 Try.underlying71 info_boolN rfl .i64 .i64 (ns.length + 1) (by omega) (by omega) W
  push_cast at hmk
  refine (callsIn_wide (n := 11)).1 ?_
  refine callsIn_of_wp_marks Try.func32 rfl trivial ?_ rfl
  simp only [Try.ntmps32, List.size_toArray, List.length_cons, List.length_nil, Nat.reduceAdd, Nat.reduceSub, Array.replicate_succ, Array.replicate_zero, List.push_toArray, List.append_toArray, List.nil_append, List.cons_append]
  simp only [hL, hAl, hSt]
  clear hL hAl hSt
  have mix := mixed_okN
  by_cases h0 : ec = 0
  case neg =>
    have h0b : (ec != 0) = true := by simpa using h0
    have HO := Lib.hid h0
    clear h0
    gi_wp2_with (refine ⟨trivial, ?_⟩; gi_at_call 18; refine (callsIn_wide.2 SYH.out).mono ?_; rintro e w2 ⟨v, rfl, hb2, _, _⟩; have HB2 := Lib.hid (below_call BW.out hb2); clear hb2)
    refine ⟨_, results_tmp2 rfl _ _ _, ?_⟩
    exact ⟨fun _ => rfl, HB2.out, fun h => absurd h HO.out⟩
  subst h0
  obtain ⟨hi1, hi2, hi3⟩ := graph_ins (g := GrQ.gr ⟨gx, gy, gz, ca, cc, C, na, nc, ns, go⟩) (by rw [← hE])
  have GA := Lib.hid (graph_ahead (g := GrQ.gr ⟨gx, gy, gz, ca, cc, C, na, nc, ns, go⟩) (by rw [← hE]))
  obtain ⟨o, rfl⟩ : ∃ o : Nat, go = (o : Int) := ⟨go.toNat, by have : 0 ≤ go := hi2; omega⟩
  have ho : o < ns.length + 1 := by have : (o : Int) < ((ns.length + 1 : Nat) : Int) := hi3; omega
  clear hi1 hi2 hi3 hE
  gi_upto_region 5 with (refine ⟨trivial, ?_⟩; gi_at_call 18; refine (callsIn_wide.2 SYH.out).mono ?_; rintro e w2 ⟨v, rfl, hb2, _, _⟩; have HB2 := Lib.hid (below_call BW.out hb2); have RG2 := Lib.hid (RG.out.over hb2); have b4 := RG2.out.cell 4 _ rfl; have bl := RG2.out.lt; clear hb2)
  have hsz := size_alloc1 w2 (.cells (madeCells #[Value.bool false] (ns.length + 1)) 4)
  have h23 : Below w2.heap.size w2 (w2.alloc (.cells (madeCells #[Value.bool false] (ns.length + 1)) 4)) := Below.alloc (Below.refl _ _) (Nat.le_refl _) _
  have h34 : Below (w2.alloc (.cells (madeCells #[Value.bool false] (ns.length + 1)) 4)).heap.size (w2.alloc (.cells (madeCells #[Value.bool false] (ns.length + 1)) 4)) ((w2.alloc (.cells (madeCells #[Value.bool false] (ns.length + 1)) 4)).alloc (.cells #[.slice (some ⟨w2.heap.size, 0, none⟩) (ns.length + 1) (ns.length + 1)] 71)) := Below.alloc (Below.refl _ _) (Nat.le_refl _) _
  have hkb := RowAt.new (w2.alloc (.cells (madeCells #[Value.bool false] (ns.length + 1)) 4)) [.slice (some ⟨w2.heap.size, 0, none⟩) (ns.length + 1) (ns.length + 1)] 71
  rw [hsz] at hkb
  have RX3 := Lib.hid hkb
  have RB3 := Lib.hid ((made_rowN w2 (ns.length + 1)).over h34)
  have HB3 := Lib.hid (below_call (below_call HB2.out h23) h34)
  have RG3 := Lib.hid ((RG2.out.over h23).over h34)
  have hUw : w.heap.size < w2.heap.size := bl
  clear hkb h23 h34 hmk b4 bl hsz HB2 RG2 RG
  generalize (w2.alloc (.cells (madeCells #[Value.bool false] (ns.length + 1)) 4)).alloc (.cells #[.slice (some ⟨w2.heap.size, 0, none⟩) (ns.length + 1) (ns.length + 1)] 71) = W3 at *
  obtain ⟨NB, hNB⟩ : ∃ B, B = w2.heap.size := ⟨_, rfl⟩
  rw [← hNB] at RX3 RB3 hUw ⊢
  clear hNB SYH BW
  have b5 := RG3.out.cell 5 _ rfl
  have bl := RG3.out.lt
  have x0 := RX3.out.cell 0 _ rfl
  have xl := RX3.out.lt
  have fB := RB3.out.fr o
  have fC := RB3.out.cell o _ (boolsN_at (by simp; omega))
  have fl := RB3.out.lt
  gi_upto_region 6 with fail
  have RB := Lib.hid (boolsN_set (b := true) RB3.out (show o < (List.replicate (ns.length + 1) false).length by simp; omega))
  have RX4 := Lib.hid (RX3.out.aside NB o (.bool true) (by omega))
  have RG4 := Lib.hid (RG3.out.aside NB o (.bool true) (by omega))
  have BW4 := Lib.hid (Below.setCell HB3.out (show w.heap.size ≤ (⟨NB, o, none⟩ : Addr).block from Nat.le_of_lt hUw) (.bool true))
  clear RB3 RX3 RG3 HB3 b5 bl x0 xl fB fC fl
  generalize W3.setCell ⟨NB, o, none⟩ (.bool true) = W4 at *
  have g4 := RG4.out.cell 4 _ rfl
  have gl := RG4.out.lt
  gi_wp2_with (refine ⟨trivial, ?_⟩; gi_at_call 48; refine (callsIn_wide.2 (back_any na ns.length nc _)).mono ?_; rintro _ W5 ⟨rfl, hrow5, hb5⟩)
  refine wpIn_rangeFunc_free rfl (by simp) (hg := rfl) trivial (enters_of Try.func63 (by kernel_rfl) rfl) ?_
  intro r hrf hr1 hr2 hr3 hr4 hr5 hr6
  have bC : Below W5.heap.size W5 ((W5.alloc (.deferred (some []))).alloc (.loop r)) := by go_grown
  have l6 := (two_allocN W5 (.deferred (some [])) (.loop r)).2.1
  have d5 := (two_allocN W5 (.deferred (some [])) (.loop r)).1
  obtain ⟨l, hl⟩ : ∃ l, l = W5.heap.size + 1 := ⟨_, rfl⟩
  rw [← hl] at l6 ⊢
  generalize hWC : (W5.alloc (.deferred (some []))).alloc (.loop r) = WC at bC l6 d5 ⊢
  clear hWC
  have h45 := hb5.size
  have hnb4 := RB.out.lt
  have hx4 := RX4.out.lt
  have RBC := Lib.hid ((RB.out.over hb5).over bC)
  have RXC := Lib.hid ((RX4.out.over hb5).over bC)
  have RGC := Lib.hid ((RG4.out.over hb5).over bC)
  have RSC := Lib.hid (hrow5.over bC)
  have BWC := Lib.hid (below_call (below_call BW4.out hb5) bC)
  have K0 : NdK l NB r (insF ns) ns.length (nd0 ns.length o) WC ns.length WC := ⟨l6, ⟨nd0 ns.length o, rfl, by simp [nd0], RBC.out⟩, Out.refl _ _⟩
  have HLD := Lib.hid hl
  have hl1 : NB < l := by omega
  have hl2 : NB + 1 < l := by omega
  have hl3 : W4.heap.size < l := by omega
  have hl4 : w.heap.size < l := by omega
  clear hl
  refine (back_run l W4.heap.size hn (NdK l NB r (insF ns) ns.length (nd0 ns.length o) WC) (fun k W hk => ⟨(RSC.out.outN hk.out (by omega)).cell 0 _ rfl, FlatIn.later HN.out (hk.out.below BWC.out (Nat.le_refl _) (fun j hj => by omega))⟩) ?_ WC K0).mono ?_
  · intro k nd W1 hk hnd
    refine yield_round hk.lo hr1 hr2 (by rw [hr3]; rfl) hrf ?_
    obtain ⟨rb, hrb⟩ : ∃ rb, ({ r with state := .busy } : Loop) = rb := ⟨_, rfl⟩
    simp only [hrb]
    rw [hr4, hr5, hr3, hr6]
    obtain ⟨L, hLe, hLl, hLr⟩ := hk.row
    have hlo := hk.lo
    have HK := Lib.hid hk
    have HND := Lib.hid hnd
    have tL := NL.len nd
    have tB := NL.st1 nd W1
    have hkl : k < ns.length := (List.getElem?_eq_some_iff.1 hnd).1
    have HRB := Lib.hid hrb
    clear hr4 hr5 hr6 hk hnd K0 bC l6 d5 hrb
    simp only [List.zip_toArray, List.foldl_toArray', List.zip_cons_cons, List.zip_nil_right, List.foldl_cons, List.foldl_nil, List.setIfInBounds_toArray, List.set_cons_succ, List.set_cons_zero]
    gi_wp2
    have hal : Below W1.heap.size W1 (W1.alloc (.cells nd.cells.toArray T)) := Below.alloc (Below.refl _ _) (Nat.le_refl _) _
    have lo2 := heap_at_outN (Out.of_below (fun _ => False) hal) hlo id
    refine ⟨lo2, ?_⟩
    have OB := (Out.of_below (· = l) hal).trans (out_putObj (W1.alloc (.cells nd.cells.toArray T)) l (.loop rb))
    have RN := (RowAt.new W1 nd.cells T).outN (out_putObj (W1.alloc (.cells nd.cells.toArray T)) l (.loop rb)) (by have := (Array.getElem?_eq_some_iff.1 hlo).1; omega)
    have LB : ((W1.alloc (.cells nd.cells.toArray T)).putObj l (.loop rb)).heap[l]? = some (.loop rb) := World.putObj_heap_same (Array.getElem?_eq_some_iff.1 lo2).1
    generalize (W1.alloc (.cells nd.cells.toArray T)).putObj l (.loop rb) = WX at OB RN LB ⊢
    have RXk := Lib.hid ((RXC.out.outN HK.out.out (by omega)).outN OB (by omega))
    have RBk := Lib.hid (hLr.outN OB (by omega))
    have RNk := Lib.hid RN
    have x0 := RXk.out.cell 0 _ rfl
    have xl := RXk.out.lt
    obtain ⟨kp, hkp⟩ : ∃ kp : Nat, kp = k + 1 := ⟨_, rfl⟩
    have hw : IntKind.i64.wrap ((k : Int) + 1) = (kp : Int) := by simp [IntKind.wrap, IntKind.signed, IntKind.bits]; omega
    have p0 : (0 : Int) ≤ (kp : Int) := by omega
    have p1 : (kp : Int) < (ns.length : Int) + 1 := by omega
    have ck := RBk.out.cell kp _ (boolsN_at (by omega))
    have nl := RBk.out.lt
    have OBH := Lib.hid OB
    have LBH := Lib.hid LB
    have LE := Lib.hid hLe
    have HKP := Lib.hid hkp
    clear hLr OB RN tB hal lo2 hlo hLe hkp LB
    obtain ⟨q, hq⟩ : ∃ q, q = L.getD kp false := ⟨_, rfl⟩
    rw [← hq] at ck
    have HQ := Lib.hid hq
    clear hq
    cases q
    · gi_wp2
      have O4 := out_putObj WX l (.loop r)
      have hst : stN L k (insF ns k) = L := by unfold stN; rw [if_neg (by rw [← HKP.out, ← HQ.out]; simp)]
      refine ⟨LBH.out, ⟨World.putObj_heap_same (Array.getElem?_eq_some_iff.1 LBH.out).1, ⟨L, ?_, hLl, RBk.out.outN O4 (by omega)⟩, HK.out.out.trans ((OBH.out.mono fun j h => .inr h).trans (O4.mono fun j h => .inr h))⟩⟩
      rw [← LE.out]
      show _ = bkN _ k (stN L k _)
      rw [hst]
    · have hal0 := RNk.out.lt
      have tR := NL.read nd WX W1.heap.size 0 RNk.out.range
      have RI := Lib.hid (fun W => ins_any nd W)
      have hah := GA.out k nd HND.out
      have HAH := Lib.hid hah
      have hli : ((insN nd).length : Int) ≤ 2 := by have := ins_len nd; omega
      have HST := Lib.hid (show stN L k (insF ns k) = ((insN nd).map Int.toNat).foldl (fun L v => L.set v true) L by unfold stN; rw [if_pos (by rw [← HKP.out, ← HQ.out]), insF_at HND.out])
      clear hah
      gi_wp2_with (refine ⟨trivial, ?_⟩; gi_at_call 38; refine (CallsIn.inRound _ (callsIn_wide.2 (RI.out _))).mono ?_; rintro e w4 ⟨at0, rfl, hb4, hins⟩; have HB4 := Lib.hid hb4; have IA := Lib.hid hins; clear hb4 hins)
      clear tR x0 xl ck nl hal0
      have RX4' := Lib.hid (RXk.out.over HB4.out)
      have RB4' := Lib.hid (RBk.out.over HB4.out)
      have hbX : NB + 1 < WX.heap.size := RXk.out.lt
      gi_loopw [42] (fun s42 wx => ∃ j : Nat, j ≤ (insN nd).length ∧ s42 = .int .i64 j ∧ RowAt wx NB (boolsN ((((insN nd).take j).map Int.toNat).foldl (fun L v => L.set v true) L)) ∧ Out (· = NB) w4 wx) (fun s42 wx => (insN nd).length - (intOf s42).toNat)
      case atStart => exact ⟨0, Nat.zero_le _, rfl, RB4'.out, Out.refl _ _⟩
      case round =>
        obtain ⟨j, hj, rfl, hrow, hO⟩ := hrel
        have HO2 := Lib.hid hO
        by_cases hjl : j < (insN nd).length
        · obtain ⟨z, hz⟩ : ∃ z, (insN nd)[j]? = some z := ⟨_, List.getElem?_eq_getElem hjl⟩
          obtain ⟨gi, hat, hgi, hgl, hc⟩ := IA.out j z hz
          subst hat
          have hne : gi ≠ NB := by omega
          have hc2 := (hO.cell (p := ⟨gi, j, none⟩) hgl hne).trans hc
          have hgl2 : gi < wr.heap.size := Nat.lt_of_lt_of_le hgl hO.size
          obtain ⟨z0, z1⟩ := HAH.out z (List.mem_of_getElem? hz)
          obtain ⟨v, rfl⟩ : ∃ v : Nat, z = (v : Int) := ⟨z.toNat, by omega⟩
          have hvl : v < ((((insN nd).take j).map Int.toNat).foldl (fun L v => L.set v true) L).length := by rw [setT_len, hLl]; omega
          have HVL := Lib.hid hvl
          have HRJ := Lib.hid hrow
          have cv := hrow.cell v _ (boolsN_at hvl)
          have fv := hrow.fr v
          have bl3 := hrow.lt
          have x0 := (RX4'.out.outN hO (by omega)).cell 0 _ rfl
          have xl := (RX4'.out.outN hO (by omega)).lt
          have v0 : (0 : Int) ≤ (v : Int) := by omega
          have v1 : (v : Int) < (ns.length : Int) + 1 := by omega
          have j0 : (0 : Int) ≤ (j : Int) := by omega
          have j1 : (j : Int) < ((insN nd).length : Int) := by omega
          have HJ := Lib.hid hjl
          have HNJ := Lib.hid (show (((insN nd).take (j + 1)).map Int.toNat).foldl (fun L v => L.set v true) L = ((((insN nd).take j).map Int.toNat).foldl (fun L v => L.set v true) L).set v true by rw [take_snocN hz, List.map_append, List.foldl_append]; rfl)
          clear hrow hvl hc hz z0 z1 hjl hO
          generalize List.getD ((((insN nd).take j).map Int.toNat).foldl (fun L v => L.set v true) L) v false = q1 at cv
          gi_wp2
          exact ⟨⟨j + 1, HJ.out, rfl, by rw [HNJ.out]; exact boolsN_set (b := true) HRJ.out HVL.out, HO2.out.trans (Out.of_grown (grownN_set (World.grownBy.refl _ (some NB))) (fun k e => (Option.some.inj e).symm))⟩, by have := HJ.out; simp [intOf]; omega⟩
        · obtain rfl : j = (insN nd).length := by omega
          have j1 : ¬ (((insN nd).length : Int) < ((insN nd).length : Int)) := by omega
          clear hjl
          gi_wp2
          have lw : wr.heap[l]? = some (.loop rb) := heap_at_outN hO (heap_at_outN (Out.of_below (fun _ => False) HB4.out) LBH.out id) (by omega)
          have O4 := out_putObj wr l (.loop r)
          rw [List.take_length] at hrow
          exact ⟨lw, ⟨World.putObj_heap_same (Array.getElem?_eq_some_iff.1 lw).1, ⟨stN L k (insF ns k), by rw [← LE.out]; rfl, by rw [stN_len]; exact hLl, by rw [HST.out]; exact hrow.outN O4 (by omega)⟩, HK.out.out.trans (((OBH.out.mono fun j h => .inr h).trans (Out.of_below _ HB4.out)).trans ((hO.mono fun j h => .inl h).trans (O4.mono fun j h => .inr h)))⟩⟩
  · rintro _ W2 ⟨⟨v, rfl⟩, k2⟩
    refine ⟨⟨_, rfl⟩, k2.lo, ?_⟩
    obtain ⟨L, hLe, hLl, hLr⟩ := k2.row
    have O3 := out_putObj W2 l (.loop { r with state := .exhausted })
    generalize W2.putObj l (.loop { r with state := .exhausted }) = W7 at O3 ⊢
    have O7 := (k2.out.trans (O3.mono (T := fun j => j = NB ∨ j = l) fun j h => .inr h))
    have hl5 := HLD.out
    have DF := heap_at_outN O7 d5 (by omega)
    have x0 := (RXC.out.outN O7 (by omega)).cell 0 _ rfl
    have xl := (RXC.out.outN O7 (by omega)).lt
    have HDF := Lib.hid DF
    have HO7 := Lib.hid O7
    have HRW := Lib.hid (show RowAt W7 NB (boolsN (bkN (insF ns) ns.length (nd0 ns.length o))) by rw [← hLe]; exact hLr.outN O3 (by omega))
    clear hr4 hr5 hr6 K0 bC l6 d5 k2 hLe hLr O3 O7 DF hl5
    gi_wp2
    refine ⟨by simp, .inl ⟨_, _, rfl, run_takeDeferred HDF.out, ?_⟩⟩
    have O5 := out_putObj W7 W5.heap.size (.deferred none)
    refine ⟨_, results_tmp2 rfl _ _ _, ?_⟩
    have hl5 := HLD.out
    have hB : Below w.heap.size w (W7.putObj W5.heap.size (.deferred none)) := ((HO7.out.mono (T := fun j => j = NB ∨ j = l ∨ j = W5.heap.size) fun j h => h.elim .inl fun h => .inr (.inl h)).trans (O5.mono (T := fun j => j = NB ∨ j = l ∨ j = W5.heap.size) fun j h => .inr (.inr h))).below BWC.out (Nat.le_refl _) (fun j hj => by omega)
    have hR := HRW.out.outN O5 (by omega)
    first | exact ⟨hB, NB, ⟨_, rfl⟩, Nat.le_of_lt hUw, hR⟩ | exact ⟨hB, NB, _, rfl, Nat.le_of_lt hUw, hR⟩
end Go.Proofs.Ytmifojpmomdmeaa
