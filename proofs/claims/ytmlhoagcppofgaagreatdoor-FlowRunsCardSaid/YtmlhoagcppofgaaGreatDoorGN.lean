/- Package cpu, as far as CpuRegs wants it: New, PC, Set, Reg, Memory, and Step of none. -/
import Derived.Test.YtmlhoagcppofgaaGreatDoorGI
import Derived.WalkSpells
import Derived.WalkSmall
import Derived.Handy
import Derived.Lib.Hide
import Derived.BigQuiet
import Derived.StillTailTactics
import Derived.OwnWalk
import Derived.Great.Walk
import Derived.Test.YtmlhoagcppofgaaGreatDoorGJ
import Derived.Test.YtmlhoagcppofgaaGreatDoorGB
import Derived.Deep.Cut
namespace Go.Proofs.YtmlhoagcppofgaaGreatDoor
open Go Go.RowKit
set_option linter.unusedVariables false

/-- a call that answers a new block and a flatX value -/
def runsNew (P : Program) (n : Nat) (f : FuncId) (args : List Value) : Option Value :=
  match aFun P 0 n f args ⟨0, []⟩ with
  | some (.tuple ⟨[.pointer (some ⟨i, 0, none⟩), u]⟩, H') => match H'.get i with
    | .live _ => match flat1 u with
      | true => some u
      | false => none
    | _ => none
  | _ => none
theorem calls_new {P : Program} (hn : namesOk P = true) (hm : P.follows .mixedOrders = true) {n : Nat} {f : FuncId} {args : List Value} {u : Value} (hr : runsNew P n f args = some u) (hf : isFn P f = true) (ha : args.all flatX = true) (w : World) :
    Calls P f args.toArray w fun e w' => ∃ b, e = .returned (.tuple #[.pointer (some ⟨b, 0, none⟩), u]) ∧ w.heap.size ≤ b ∧ b < w'.heap.size ∧ Below w.heap.size w w' := by
  unfold runsNew at hr
  split at hr
  · rename_i i u' H' h
    split at hr
    · rename_i k hk
      split at hr
      · rename_i hu
        cases hr
        refine (aFun_ok hn hm n f args args _ _ w _ H' h hf (All2.self fun x hx => .of_flat (List.all_eq_true.1 ha x hx)) (HS.start w)).mono ?_
        rintro e w' ⟨v', β', rfl, _, h2, h3⟩
        obtain ⟨l', hl, rfl⟩ := h2.tup_inv
        cases hl with | cons h4 hl =>
        cases hl with | cons h5 hl =>
        cases hl
        obtain ⟨b, x, hb, rfl⟩ := (RV.one h4).ptr_inv
        obtain rfl := h5.eq_flat hu
        obtain ⟨b', x', cs, hb', hg, _⟩ := h3.blk i k (Nat.zero_le _) hk
        rw [hb] at hb'; cases hb'
        exact ⟨b, rfl, h3.own i b x (Nat.zero_le _) hb, (Array.getElem?_eq_some_iff.1 hg).1, h3.below⟩
      · cases hr
    · cases hr
  · cases hr
theorem mnew (w : World) : Calls Tryz.prog 10 #[.agg #[.int .u32 4096, .int .u32 256, .int .u32 2147483648, .int .u32 128]] w fun e w' => ∃ b, e = .returned (.tuple #[.pointer (some ⟨b, 0, none⟩), .int .i64 0]) ∧ w.heap.size ≤ b ∧ b < w'.heap.size ∧ Below w.heap.size w w' :=
  calls_new names_ok mixed_ok (n := 60) (args := [.agg #[.int .u32 4096, .int .u32 256, .int .u32 2147483648, .int .u32 128]]) (by kernel_rfl) (by kernel_rfl) rfl w

/-- a machine's cells -/
structure Mac (m : Addr) (pc : Int) (r : Nat → Int) (cs : Array Value) : Prop where
  size : cs.size = 34
  mem : cs[0]? = some (.pointer (some m))
  pc : cs[1]? = some (.int .u32 pc)
  reg : ∀ k, k < 32 → cs[2 + k]? = some (.int .u32 (r k))
set_option maxRecDepth 100000 in
set_option maxHeartbeats 1000000 in
theorem cnew_any (m : Addr) (pc : Int) (w : World) :
    Calls Tryz.prog 12 #[.pointer (some m), .int .u32 pc] w fun e w' => ∃ cs, e = .returned (.pointer (some ⟨w.heap.size, 0, none⟩)) ∧ Mac m pc (fun _ => 0) cs ∧ w' = w.alloc (.cells cs 85) := by
  go_enter Tryz.func12, Tryz.ntmps12
  go_wp2
  go_ret
  refine ⟨_, rfl, ⟨rfl, rfl, rfl, ?_⟩, rfl⟩
  intro k hk
  match k, hk with
  | 0, _ | 1, _ | 2, _ | 3, _ | 4, _ | 5, _ | 6, _ | 7, _ | 8, _ | 9, _ | 10, _ | 11, _ | 12, _ | 13, _ | 14, _ | 15, _ | 16, _ | 17, _ | 18, _ | 19, _ | 20, _ | 21, _ | 22, _ | 23, _ | 24, _ | 25, _ | 26, _ | 27, _ | 28, _ | 29, _ | 30, _ | 31, _ => rfl
  | n + 32, h => exact absurd h (by omega)

theorem reg_none (n : Int) (w : World) :
    Calls Tryz.prog 75 #[.pointer none, .int .i64 n] w fun e w' => e = .returned (.int .u32 0) ∧ w = w' := by
  go_enter Tryz.func75, Tryz.ntmps75
  go_wp2
  go_ret
  exact ⟨rfl, rfl⟩
theorem creg_out (B : Nat) (n : Int) (w : World) (h : n < 0 ∨ 32 ≤ n) :
    Calls Tryz.prog 75 #[.pointer (some ⟨B, 0, none⟩), .int .i64 n] w fun e w' => e = .returned (.int .u32 0) ∧ w = w' := by
  rcases h with h | h
  all_goals
    go_enter Tryz.func75, Tryz.ntmps75
    go_wp2
    go_ret
    exact ⟨rfl, rfl⟩
theorem reg_in (B : Nat) (n : Nat) (x : Int) (w : World) (hn : n < 32) (h : w.cell? ⟨B, 2 + n, none⟩ = some (.int .u32 x)) :
    Calls Tryz.prog 75 #[.pointer (some ⟨B, 0, none⟩), .int .i64 n] w fun e w' => e = .returned (.int .u32 x) ∧ w = w' := by
  have h0 : (0 : Int) ≤ n := by omega
  have h1 : (n : Int) < 32 := by omega
  go_enter Tryz.func75, Tryz.ntmps75
  go_wp2
  go_ret
  exact ⟨rfl, rfl⟩
theorem set_none (n x : Int) (w : World) :
    Calls Tryz.prog 13 #[.pointer none, .int .i64 n, .int .u32 x] w fun e w' => e = .returned (.tuple #[]) ∧ w = w' := by
  go_enter Tryz.func13, Tryz.ntmps13
  go_wp2
  first | exact Go.Great.bodyPost_end0 rfl rfl ⟨rfl, rfl⟩ | exact ⟨rfl, .tuple #[], results_none rfl _ _ _, rfl, rfl⟩
theorem set_out (B : Nat) (n x : Int) (w : World) (h : n ≤ 0 ∨ 32 ≤ n) :
    Calls Tryz.prog 13 #[.pointer (some ⟨B, 0, none⟩), .int .i64 n, .int .u32 x] w fun e w' => e = .returned (.tuple #[]) ∧ w = w' := by
  rcases h with h | h
  all_goals
    go_enter Tryz.func13, Tryz.ntmps13
    go_wp2
    first | exact Go.Great.bodyPost_end0 rfl rfl ⟨rfl, rfl⟩ | exact ⟨rfl, .tuple #[], results_none rfl _ _ _, rfl, rfl⟩
theorem set_in (B : Nat) (n : Nat) (x y : Int) (w : World) (h0 : 1 ≤ n) (hn : n < 32) (h : w.cell? ⟨B, 2 + n, none⟩ = some (.int .u32 y)) (hf : w.frozen? ⟨B, 2 + n, none⟩ = false) :
    Calls Tryz.prog 13 #[.pointer (some ⟨B, 0, none⟩), .int .i64 n, .int .u32 x] w fun e w' => e = .returned (.tuple #[]) ∧ w' = w.setCell ⟨B, 2 + n, none⟩ (.int .u32 x) := by
  have h2 : (0 : Int) < n := by omega
  have h1 : (n : Int) < 32 := by omega
  go_enter Tryz.func13, Tryz.ntmps13
  go_wp2
  first | exact Go.Great.bodyPost_end0 rfl rfl ⟨rfl, rfl⟩ | exact ⟨rfl, .tuple #[], results_none rfl _ _ _, rfl, rfl⟩
theorem step_none (w : World) :
    Calls Tryz.prog 35 #[.pointer none] w fun e w' => e = .returned (.tuple #[.agg #[.int .u32 0, .int .u32 0, .int .i64 0, .int .u32 0, .int .i64 0], .int .i64 2]) ∧ Below w.heap.size w w' := by
  go_enter Tryz.func35, Tryz.ntmps35
  go_wp2
  exact bodyPost_ret (v := .tuple #[.agg #[.int .u32 0, .int .u32 0, .int .i64 0, .int .u32 0, .int .i64 0], .int .i64 2]) (by simp [results, Tryz.results35, go_sem]) rfl ⟨rfl, by go_grown⟩
end Go.Proofs.YtmlhoagcppofgaaGreatDoor

namespace Go.Proofs.YtmlhoagcppofgaaGreatDoor
open Go Go.RowKit Pl
set_option linter.unusedVariables false

/-- a machine of the program -/
structure MachIs (C M pc : Nat) (r : Nat → Nat) (W : World) : Prop where
  c0 : W.cell? ⟨C, 0, none⟩ = some (.pointer (some ⟨M, 0, none⟩))
  c1 : W.cell? ⟨C, 1, none⟩ = some (.int .u32 (pc : Nat))
  c : ∀ k, k < 32 → W.cell? ⟨C, 2 + k, none⟩ = some (.int .u32 (r k : Nat))
  fz : ∀ j, j < 34 → W.frozen? ⟨C, j, none⟩ = false
  r0 : r 0 = 0
  pcb : pc < 4294967296
  rb : ∀ k, r k < 4294967296
  lt : C < W.heap.size
theorem MachIs.out {C M pc : Nat} {r : Nat → Nat} {S : Nat → Prop} {W W' : World} (h : MachIs C M pc r W) (ho : Out S W W') (hC : ¬ S C) : MachIs C M pc r W' :=
  { c0 := (ho.cell h.lt hC).trans h.c0, c1 := (ho.cell h.lt hC).trans h.c1, c := fun k hk => (ho.cell (p := ⟨C, 2 + k, none⟩) h.lt hC).trans (h.c k hk)
    fz := fun j hj => (World.frozen?_of_block (a := ⟨C, j, none⟩) (ho.block C h.lt hC)).trans (h.fz j hj), r0 := h.r0, pcb := h.pcb, rb := h.rb, lt := Nat.lt_of_lt_of_le h.lt ho.size }
theorem MachIs.like {C M pc : Nat} {r : Nat → Nat} {W W' : World} (h : MachIs C M pc r W) (hl : LikeG W W') : MachIs C M pc r W' := h.out (hl.out (fun _ => False)) id
theorem MachIs.below {C M pc : Nat} {r : Nat → Nat} {W W' : World} (h : MachIs C M pc r W) (hl : Below W.heap.size W W') : MachIs C M pc r W' := h.out (Out.of_below (fun _ => False) hl) id
/-- a register is set -/
def setR (r : Nat → Nat) (d x : Nat) : Nat → Nat := fun k => if k = d ∧ d ≠ 0 then x else r k
theorem setR_zero (r : Nat → Nat) (x : Nat) : setR r 0 x = r := by funext k; simp [setR]
theorem out_cell (C j : Nat) (v : Value) (W : World) : Out (· = C) W (W.setCell ⟨C, j, none⟩ v) :=
  ⟨rfl, rfl, rfl, by rw [World.size_setCell]; exact Nat.le_refl _, fun i hi hne => Below.heap_setCell _ _ _ _ (fun e => hne e)⟩
theorem MachIs.setReg {C M pc : Nat} {r : Nat → Nat} {W : World} (h : MachIs C M pc r W) (d x : Nat) (h0 : 1 ≤ d) (hd : d < 32) (hx : x < 4294967296) : MachIs C M pc (setR r d x) (W.setCell ⟨C, 2 + d, none⟩ (.int .u32 (x : Nat))) :=
  { c0 := by rw [World.cell?_setCell_other (h := fun e => by injection e with _ e2 _; omega)]; exact h.c0
    c1 := by rw [World.cell?_setCell_other (h := fun e => by injection e with _ e2 _; omega)]; exact h.c1
    c := fun k hk => by
      unfold setR
      by_cases e : k = d
      · subst e
        rw [if_pos ⟨rfl, by omega⟩]
        exact World.cell?_setCell_same _ _ _ (h.c k hk)
      · rw [if_neg (fun g => e g.1), World.cell?_setCell_other (h := fun g => by injection g with _ e2 _; omega)]
        exact h.c k hk
    fz := fun j hj => by rw [World.frozen?_setCell]; exact h.fz j hj
    r0 := by unfold setR; rw [if_neg (by omega)]; exact h.r0
    pcb := h.pcb
    rb := fun k => by unfold setR; split; exact hx; exact h.rb k
    lt := by rw [World.size_setCell]; exact h.lt }
theorem MachIs.setPc {C M pc : Nat} {r : Nat → Nat} {W : World} (h : MachIs C M pc r W) (p : Nat) (hp : p < 4294967296) : MachIs C M p r (W.setCell ⟨C, 1, none⟩ (.int .u32 (p : Nat))) :=
  { c0 := by rw [World.cell?_setCell_other (h := fun e => by injection e with _ e2 _; omega)]; exact h.c0
    c1 := World.cell?_setCell_same _ _ _ h.c1
    c := fun k hk => by rw [World.cell?_setCell_other (h := fun g => by injection g with _ e2 _; omega)]; exact h.c k hk
    fz := fun j hj => by rw [World.frozen?_setCell]; exact h.fz j hj
    r0 := h.r0, pcb := hp, rb := h.rb, lt := by rw [World.size_setCell]; exact h.lt }
/-- Set of any register that there is -/
theorem mset_any {C M pc : Nat} {r : Nat → Nat} {W : World} (h : MachIs C M pc r W) (d x : Nat) (hd : d < 32) (hx : x < 4294967296) :
    Calls Tryz.prog 13 #[.pointer (some ⟨C, 0, none⟩), .int .i64 (d : Nat), .int .u32 (x : Nat)] W fun e w' => e = .returned (.tuple #[]) ∧ MachIs C M pc (setR r d x) w' ∧ Out (· = C) W w' := by
  rcases Nat.eq_zero_or_pos d with h0 | h0
  · subst h0
    rw [setR_zero]
    refine (set_out C (0 : Nat) x W (by omega)).mono ?_
    rintro e w' ⟨rfl, rfl⟩
    exact ⟨rfl, h, .refl _ _⟩
  · refine (set_in C d x _ W h0 hd (h.c d hd) (h.fz (2 + d) (by omega))).mono ?_
    rintro e w' ⟨rfl, rfl⟩
    exact ⟨rfl, h.setReg d x h0 hd hx, out_cell _ _ _ _⟩
theorem mreg_any {C M pc : Nat} {r : Nat → Nat} {W : World} (h : MachIs C M pc r W) (d : Nat) (hd : d < 32) :
    Calls Tryz.prog 75 #[.pointer (some ⟨C, 0, none⟩), .int .i64 (d : Nat)] W fun e w' => e = .returned (.int .u32 (r d : Nat)) ∧ W = w' := reg_in C d _ W hd (h.c d hd)
/-- an event as a value -/
def evV (p w : Nat) (k : Int) (a : Nat) (s : Int) : Value := .agg #[.int .u32 (p : Nat), .int .u32 (w : Nat), .int .i64 k, .int .u32 (a : Nat), .int .i64 s]
def StepPost (C M : Nat) (W : World) (ev : Value) (t : Int) (pc : Nat) (r : Nat → Nat) (e : Ending) (w' : World) : Prop := e = .returned (.tuple #[ev, .int .i64 t]) ∧ MachIs C M pc r w' ∧ Out (· = C) W w'
/-- an event in a block of its own -/
structure EvAt (b p w : Nat) (k : Int) (a : Nat) (s : Int) (W : World) : Prop where
  c0 : W.cell? ⟨b, 0, none⟩ = some (.int .u32 (p : Nat))
  c1 : W.cell? ⟨b, 1, none⟩ = some (.int .u32 (w : Nat))
  c2 : W.cell? ⟨b, 2, none⟩ = some (.int .i64 k)
  c3 : W.cell? ⟨b, 3, none⟩ = some (.int .u32 (a : Nat))
  c4 : W.cell? ⟨b, 4, none⟩ = some (.int .i64 s)
  f : ∀ j, j < 5 → W.frozen? ⟨b, j, none⟩ = false
  lt : b < W.heap.size
theorem evAt_of {b p w : Nat} {k : Int} {a : Nat} {s : Int} {t : TypeId} {W : World} (h : W.heap[b]? = some (.cells #[.int .u32 (p : Nat), .int .u32 (w : Nat), .int .i64 k, .int .u32 (a : Nat), .int .i64 s] t (0, 0))) : EvAt b p w k a s W := by
  have cM : ∀ j v, (#[.int .u32 (p : Nat), .int .u32 (w : Nat), .int .i64 k, .int .u32 (a : Nat), .int .i64 s] : Array Value)[j]? = some v → W.cell? ⟨b, j, none⟩ = some v := fun j v hv => by rw [cell_of_row W b j _ _ _ h]; exact hv
  exact ⟨cM 0 _ rfl, cM 1 _ rfl, cM 2 _ rfl, cM 3 _ rfl, cM 4 _ rfl, fun j _ => by unfold World.frozen?; rw [h]; simp, (Array.getElem?_eq_some_iff.1 h).1⟩
theorem EvAt.out {b p w : Nat} {k : Int} {a : Nat} {s : Int} {S : Nat → Prop} {W W' : World} (h : EvAt b p w k a s W) (ho : Out S W W') (hb : ¬ S b) : EvAt b p w k a s W' :=
  ⟨(ho.cell h.lt hb).trans h.c0, (ho.cell h.lt hb).trans h.c1, (ho.cell h.lt hb).trans h.c2, (ho.cell h.lt hb).trans h.c3, (ho.cell h.lt hb).trans h.c4,
    fun j hj => (World.frozen?_of_block (a := ⟨b, j, none⟩) (ho.block b h.lt hb)).trans (h.f j hj), Nat.lt_of_lt_of_le h.lt ho.size⟩
/-- an event is stored -/
def setEv (W : World) (b p w : Nat) (k : Int) (a : Nat) (s : Int) : World := ((((W.setCell ⟨b, 0, none⟩ (.int .u32 (p : Nat))).setCell ⟨b, 1, none⟩ (.int .u32 (w : Nat))).setCell ⟨b, 2, none⟩ (.int .i64 k)).setCell ⟨b, 3, none⟩ (.int .u32 (a : Nat))).setCell ⟨b, 4, none⟩ (.int .i64 s)
theorem cset_ne {W : World} {b i j : Nat} {v : Value} (h : j ≠ i) : (W.setCell ⟨b, i, none⟩ v).cell? ⟨b, j, none⟩ = W.cell? ⟨b, j, none⟩ := by
  rw [World.cell?_setCell_other (h := fun e => h (by injection e with _ e2 _; omega))]
theorem setEv_out (W : World) (b p w : Nat) (k : Int) (a : Nat) (s : Int) : Out (· = b) W (setEv W b p w k a s) :=
  ((((out_cell b 0 _ _).trans (out_cell b 1 _ _)).trans (out_cell b 2 _ _)).trans (out_cell b 3 _ _)).trans (out_cell b 4 _ _)
theorem setEv_at {b p' w' : Nat} {k' : Int} {a' : Nat} {s' : Int} {W : World} (h : EvAt b p' w' k' a' s' W) (p w : Nat) (k : Int) (a : Nat) (s : Int) : EvAt b p w k a s (setEv W b p w k a s) := by
  unfold setEv
  refine ⟨?_, ?_, ?_, ?_, ?_, ?_, Nat.lt_of_lt_of_le h.lt (setEv_out W b p w k a s).size⟩
  · rw [cset_ne (by decide), cset_ne (by decide), cset_ne (by decide), cset_ne (by decide)]
    exact World.cell?_setCell_same _ _ _ h.c0
  · rw [cset_ne (by decide), cset_ne (by decide), cset_ne (by decide)]
    exact World.cell?_setCell_same _ _ _ (by rw [cset_ne (by decide)]; exact h.c1)
  · rw [cset_ne (by decide), cset_ne (by decide)]
    exact World.cell?_setCell_same _ _ _ (by rw [cset_ne (by decide), cset_ne (by decide)]; exact h.c2)
  · rw [cset_ne (by decide)]
    exact World.cell?_setCell_same _ _ _ (by rw [cset_ne (by decide), cset_ne (by decide), cset_ne (by decide)]; exact h.c3)
  · exact World.cell?_setCell_same _ _ _ (by rw [cset_ne (by decide), cset_ne (by decide), cset_ne (by decide), cset_ne (by decide)]; exact h.c4)
  · intro j hj
    simp only [World.frozen?_setCell]
    exact h.f j hj
theorem two_alloc (W : World) (o1 o2 : Obj) : ((W.alloc o1).alloc o2).heap[W.heap.size]? = some o1 ∧ ((W.alloc o1).alloc o2).heap[W.heap.size + 1]? = some o2 ∧ Below W.heap.size W ((W.alloc o1).alloc o2) := by
  refine ⟨?_, ?_, ((Below.refl _ _).alloc (Nat.le_refl _) _).alloc (by simp) _⟩
  · rw [heap_alloc_old _ _ (by simp), heap_alloc_new]
  · have e : W.heap.size + 1 = (W.alloc o1).heap.size := by simp
    rw [e, heap_alloc_new]
set_option maxRecDepth 100000 in
set_option maxHeartbeats 1000000 in
theorem cset_any {C M pc : Nat} {r : Nat → Nat} {W : World} (h : MachIs C M pc r W) (d x : Nat) (hd : d < 32) (hx : x < 4294967296) (p w : Nat) (k : Int) (a : Nat) (s : Int) :
    Calls Tryz.prog 77 #[.pointer (some ⟨C, 0, none⟩), .int .i64 (d : Nat), .int .u32 (x : Nat), .agg #[.int .u32 (p : Nat), .int .u32 (w : Nat), .int .i64 k, .int .u32 (a : Nat), .int .i64 s]] W (StepPost C M W (.agg #[.int .u32 (p : Nat), .int .u32 (w : Nat), .int .i64 k, .int .u32 (a : Nat), .int .i64 s]) 0 ((pc + 4) % 4294967296) (setR r d x)) := by
  have SET := Lib.hid (fun W' (hb : Below W.heap.size W W') => mset_any (h.below hb) d x hd hx)
  have hC := h.lt
  have hpc := h.pcb
  clear h
  go_enter Tryz.func77, Tryz.ntmps77
  go_wp2_with fail
  obtain ⟨g1, g2, g3⟩ := two_alloc W (.cells #[.int .u32 (p : Nat), .int .u32 (w : Nat), .int .i64 k, .int .u32 (a : Nat), .int .i64 s] 39) (.cells #[.int .u32 0, .int .u32 0, .int .i64 0, .int .u32 0, .int .i64 0] 39)
  have E1 := Lib.hid (evAt_of g1)
  have Z1 := Lib.hid (evAt_of (p := 0) (w := 0) (a := 0) g2)
  have B1 := Lib.hid g3
  clear g1 g2 g3
  generalize World.alloc _ _ = W1 at *
  refine (SET.out W1 B1.out).mono ?_
  rintro e w2 ⟨rfl, hm, ho⟩
  have E2 := E1.out.out ho (by omega)
  have Z2 := Z1.out.out ho (by omega)
  have M2 := Lib.hid hm
  have O2 := Lib.hid ((Out.of_below (· = C) B1.out).trans ho)
  have e0 := E2.c0
  have e1 := E2.c1
  have e2 := E2.c2
  have e3 := E2.c3
  have e4 := E2.c4
  have z0 := Z2.c0
  have z1 := Z2.c1
  have z2 := Z2.c2
  have z3 := Z2.c3
  have z4 := Z2.c4
  have f0 := Z2.f 0 (by omega)
  have f1 := Z2.f 1 (by omega)
  have f2 := Z2.f 2 (by omega)
  have f3 := Z2.f 3 (by omega)
  have f4 := Z2.f 4 (by omega)
  have c1 := hm.c1
  have fc := hm.fz 1 (by omega)
  have hEC : W.heap.size ≠ C := by omega
  have hRC : W.heap.size + 1 ≠ C := by omega
  have Z3 := Lib.hid Z2
  clear E1 Z1 B1 E2 Z2 hm ho SET
  go_wp2_with fail
  have epc : (((pc + 4) % 4294967296 : Nat) : Int) = ((pc : Int) + 4) % 4294967296 := by omega
  generalize hV : World.setCell _ ⟨W.heap.size + 1, 4, none⟩ _ = V
  have M3 := M2.out.setPc ((pc + 4) % 4294967296) (by omega)
  rw [epc] at M3
  have o3 := out_cell C 1 (.int .u32 (((pc : Int) + 4) % 4294967296)) w2
  have ev := setEv_at (Z3.out.out o3 (by omega)) p w k a s
  have o4 := setEv_out (w2.setCell ⟨C, 1, none⟩ (.int .u32 (((pc : Int) + 4) % 4294967296))) (W.heap.size + 1) p w k a s
  have hV' : setEv (w2.setCell ⟨C, 1, none⟩ (.int .u32 (((pc : Int) + 4) % 4294967296))) (W.heap.size + 1) p w k a s = V := hV
  rw [hV'] at ev o4
  clear hV hV' e0 e1 e2 e3 e4 z0 z1 z2 z3 z4 f0 f1 f2 f3 f4 c1 fc
  have x0 := ev.c0
  have x1 := ev.c1
  have x2 := ev.c2
  have x3 := ev.c3
  have x4 := ev.c4
  refine bodyPost_ret (v := .tuple #[.agg #[.int .u32 (p : Nat), .int .u32 (w : Nat), .int .i64 k, .int .u32 (a : Nat), .int .i64 s], .int .i64 0]) (by simp [results, Tryz.results77, go_sem, x0, x1, x2, x3, x4]) rfl ⟨rfl, M3.out o4 (by omega), ?_⟩
  have o5 := O2.out.trans o3
  exact ⟨o4.os.trans o5.os, o4.tape.trans o5.tape, o4.output.trans o5.output, Nat.le_trans o5.size o4.size, fun j hj hs => (o4.block j (Nat.lt_of_lt_of_le hj o5.size) (by omega)).trans (o5.block j hj hs)⟩
theorem fin_ev {C M pc RB : Nat} {r : Nat → Nat} {S : Nat → Prop} {W w3 V : World} {p w p' w' : Nat} {k k' : Int} {a a' : Nat} {s s' : Int} (hV : setEv w3 RB p w k a s = V) (hm : MachIs C M pc r w3) (hz : EvAt RB p' w' k' a' s' w3) (ho : Out S W w3) (hC : C < W.heap.size) (hR : W.heap.size ≤ RB) :
    EvAt RB p w k a s V ∧ MachIs C M pc r V ∧ Out S W V := by
  have ev := setEv_at hz p w k a s
  have o4 := setEv_out w3 RB p w k a s
  rw [hV] at ev o4
  exact ⟨ev, hm.out o4 (by omega), ⟨o4.os.trans ho.os, o4.tape.trans ho.tape, o4.output.trans ho.output, Nat.le_trans ho.size o4.size, fun j hj hs => (o4.block j (Nat.lt_of_lt_of_le hj ho.size) (by omega)).trans (ho.block j hj hs)⟩⟩
set_option maxRecDepth 100000 in
set_option maxHeartbeats 1000000 in
theorem jump_no {C M pc : Nat} {r : Nat → Nat} {W : World} (h : MachIs C M pc r W) (to : Nat) (ht : to < 4294967296) (h4 : to % 4 ≠ 0) (p w : Nat) (k : Int) (a : Nat) (s : Int) :
    Calls Tryz.prog 82 #[.pointer (some ⟨C, 0, none⟩), .int .u32 (to : Nat), .agg #[.int .u32 (p : Nat), .int .u32 (w : Nat), .int .i64 k, .int .u32 (a : Nat), .int .i64 s]] W (StepPost C M W (.agg #[.int .u32 (p : Nat), .int .u32 (w : Nat), .int .i64 k, .int .u32 (a : Nat), .int .i64 s]) 1 pc r) := by
  have t : (((to : Int) % 4) == 0) = false := by simp; omega
  have t' : (((to : Int) % 4) != 0) = true := by simp; omega
  have hC := h.lt
  have H := Lib.hid h
  clear h h4
  go_enter Tryz.func82, Tryz.ntmps82
  go_wp2_with fail
  generalize hV : World.alloc _ _ = V
  obtain ⟨g1, g2, g3⟩ := two_alloc W (.cells #[.int .u32 (p : Nat), .int .u32 (w : Nat), .int .i64 k, .int .u32 (a : Nat), .int .i64 s] 39) (.cells #[.int .u32 (p : Nat), .int .u32 (w : Nat), .int .i64 k, .int .u32 (a : Nat), .int .i64 s] 39)
  have hV' : (W.alloc (.cells #[.int .u32 (p : Nat), .int .u32 (w : Nat), .int .i64 k, .int .u32 (a : Nat), .int .i64 s] 39)).alloc (.cells #[.int .u32 (p : Nat), .int .u32 (w : Nat), .int .i64 k, .int .u32 (a : Nat), .int .i64 s] 39) = V := hV
  rw [hV'] at g1 g2 g3
  have ev := evAt_of g2
  try simp only [World.size_setCell] at ev g3
  have x0 := ev.c0
  have x1 := ev.c1
  have x2 := ev.c2
  have x3 := ev.c3
  have x4 := ev.c4
  clear hV hV' g1 g2
  refine bodyPost_ret (v := .tuple #[.agg #[.int .u32 (p : Nat), .int .u32 (w : Nat), .int .i64 k, .int .u32 (a : Nat), .int .i64 s], .int .i64 1]) (by simp [results, Tryz.results82, go_sem, x0, x1, x2, x3, x4]) rfl ⟨rfl, H.out.below g3, Out.of_below _ g3⟩
set_option maxRecDepth 100000 in
set_option maxHeartbeats 1000000 in
theorem jump_yes {C M pc : Nat} {r : Nat → Nat} {W : World} (h : MachIs C M pc r W) (to : Nat) (ht : to < 4294967296) (h4 : to % 4 = 0) (p w : Nat) (k : Int) (a : Nat) (s : Int) :
    Calls Tryz.prog 82 #[.pointer (some ⟨C, 0, none⟩), .int .u32 (to : Nat), .agg #[.int .u32 (p : Nat), .int .u32 (w : Nat), .int .i64 k, .int .u32 (a : Nat), .int .i64 s]] W (StepPost C M W (.agg #[.int .u32 (p : Nat), .int .u32 (w : Nat), .int .i64 k, .int .u32 (a : Nat), .int .i64 s]) 0 to r) := by
  have t : (((to : Int) % 4) == 0) = true := by simp; omega
  have t' : (((to : Int) % 4) != 0) = false := by simp; omega
  have hC := h.lt
  have c1 := h.c1
  have fc := h.fz 1 (by omega)
  have H := Lib.hid h
  clear h h4
  go_enter Tryz.func82, Tryz.ntmps82
  go_wp2_with fail
  generalize hV : World.alloc _ _ = V
  obtain ⟨g1, g2, g3⟩ := two_alloc (W.setCell ⟨C, 1, none⟩ (.int .u32 (to : Nat))) (.cells #[.int .u32 (p : Nat), .int .u32 (w : Nat), .int .i64 k, .int .u32 (a : Nat), .int .i64 s] 39) (.cells #[.int .u32 (p : Nat), .int .u32 (w : Nat), .int .i64 k, .int .u32 (a : Nat), .int .i64 s] 39)
  have hV' : ((W.setCell ⟨C, 1, none⟩ (.int .u32 (to : Nat))).alloc (.cells #[.int .u32 (p : Nat), .int .u32 (w : Nat), .int .i64 k, .int .u32 (a : Nat), .int .i64 s] 39)).alloc (.cells #[.int .u32 (p : Nat), .int .u32 (w : Nat), .int .i64 k, .int .u32 (a : Nat), .int .i64 s] 39) = V := hV
  rw [hV'] at g1 g2 g3
  have ev := evAt_of g2
  try simp only [World.size_setCell] at ev g3
  have x0 := ev.c0
  have x1 := ev.c1
  have x2 := ev.c2
  have x3 := ev.c3
  have x4 := ev.c4
  clear hV hV' g1 g2
  refine bodyPost_ret (v := .tuple #[.agg #[.int .u32 (p : Nat), .int .u32 (w : Nat), .int .i64 k, .int .u32 (a : Nat), .int .i64 s], .int .i64 0]) (by simp [results, Tryz.results82, go_sem, x0, x1, x2, x3, x4]) rfl ⟨rfl, (H.out.setPc to ht).below (by rw [World.size_setCell]; exact g3), (out_cell C 1 _ W).trans (Out.of_below _ (by rw [World.size_setCell]; exact g3))⟩
theorem jump_any {C M pc : Nat} {r : Nat → Nat} {W : World} (h : MachIs C M pc r W) (to : Nat) (ht : to < 4294967296) (p w : Nat) (k : Int) (a : Nat) (s : Int) :
    Calls Tryz.prog 82 #[.pointer (some ⟨C, 0, none⟩), .int .u32 (to : Nat), .agg #[.int .u32 (p : Nat), .int .u32 (w : Nat), .int .i64 k, .int .u32 (a : Nat), .int .i64 s]] W (StepPost C M W (.agg #[.int .u32 (p : Nat), .int .u32 (w : Nat), .int .i64 k, .int .u32 (a : Nat), .int .i64 s]) (if to % 4 = 0 then 0 else 1) (if to % 4 = 0 then to else pc) r) := by
  by_cases h4 : to % 4 = 0
  · rw [if_pos h4, if_pos h4]; exact jump_yes h to ht h4 p w k a s
  · rw [if_neg h4, if_neg h4]; exact jump_no h to ht h4 p w k a s
set_option maxRecDepth 100000 in
set_option maxHeartbeats 2000000 in
theorem link_no {C M pc pc' : Nat} {r : Nat → Nat} {W : World} (h : MachIs C M pc r W) (d to : Nat) (hd : d < 32) (p w : Nat) (k : Int) (a : Nat) (s : Int)
    (hj : ∀ W', Below W.heap.size W W' → Calls Tryz.prog 82 #[.pointer (some ⟨C, 0, none⟩), .int .u32 (to : Nat), .agg #[.int .u32 (p : Nat), .int .u32 (w : Nat), .int .i64 k, .int .u32 (a : Nat), .int .i64 s]] W' (StepPost C M W' (.agg #[.int .u32 (p : Nat), .int .u32 (w : Nat), .int .i64 k, .int .u32 (a : Nat), .int .i64 s]) 1 pc' r)) :
    Calls Tryz.prog 83 #[.pointer (some ⟨C, 0, none⟩), .int .i64 (d : Nat), .int .u32 (to : Nat), .agg #[.int .u32 (p : Nat), .int .u32 (w : Nat), .int .i64 k, .int .u32 (a : Nat), .int .i64 s]] W (StepPost C M W (.agg #[.int .u32 (p : Nat), .int .u32 (w : Nat), .int .i64 k, .int .u32 (a : Nat), .int .i64 s]) 1 pc' r) := by
  have JP := Lib.hid hj
  have SET := Lib.hid (fun W' (hm : MachIs C M pc' r W') => mset_any hm d ((pc + 4) % 4294967296) hd (Nat.mod_lt _ (by decide)))
  have epc : (((pc + 4) % 4294967296 : Nat) : Int) = ((pc : Int) + 4) % 4294967296 := by omega
  have hC := h.lt
  have hpc := h.pcb
  have c1 := h.c1
  have EPC := Lib.hid epc
  clear h hj epc
  go_enter Tryz.func83, Tryz.ntmps83
  go_wp2_with fail
  obtain ⟨g1, g2, g3⟩ := two_alloc W (.cells #[.int .u32 (p : Nat), .int .u32 (w : Nat), .int .i64 k, .int .u32 (a : Nat), .int .i64 s] 39) (.cells #[.int .u32 0, .int .u32 0, .int .i64 0, .int .u32 0, .int .i64 0] 39)
  have E1 := Lib.hid (evAt_of g1)
  have Z1 := Lib.hid (evAt_of (p := 0) (w := 0) (a := 0) g2)
  have B1 := Lib.hid g3
  clear g1 g2 g3 c1
  generalize World.alloc _ _ = W1 at *
  refine (JP.out W1 B1.out).mono ?_
  rintro e w2 ⟨rfl, hm, ho⟩
  have E2 := E1.out.out ho (by omega)
  have Z2 := Lib.hid (Z1.out.out ho (by omega))
  have M2 := Lib.hid hm
  have O2 := Lib.hid ((Out.of_below (· = C) B1.out).trans ho)
  have E2' := Lib.hid E2
  have e0 := E2.c0
  have e1 := E2.c1
  have e2 := E2.c2
  have e3 := E2.c3
  have e4 := E2.c4
  have ef0 := E2.f 0 (by omega)
  have ef1 := E2.f 1 (by omega)
  have ef2 := E2.f 2 (by omega)
  have ef3 := E2.f 3 (by omega)
  have ef4 := E2.f 4 (by omega)
  clear E1 Z1 B1 E2 hm ho JP
  have hz0 := Z2.out.lt
  go_upto_region 3 with (fail)
  generalize hV : World.setCell _ ⟨W.heap.size, 4, none⟩ _ = V
  have hV' : setEv w2 W.heap.size p w k a s = V := hV
  obtain ⟨ev3, m3, o3⟩ := fin_ev hV' M2.out E2'.out O2.out hC (Nat.le_refl _)
  have o9 := setEv_out w2 W.heap.size p w k a s
  rw [hV'] at o9
  have Z3 := Lib.hid (Z2.out.out o9 (by omega))
  have M3 := Lib.hid m3
  have O3 := Lib.hid o3
  clear hV hV' o9 Z2 M2 O2 E2' SET m3 o3 e0 e1 e2 e3 e4 ef0 ef1 ef2 ef3 ef4
  have e0 := ev3.c0
  have e1 := ev3.c1
  have e2 := ev3.c2
  have e3 := ev3.c3
  have e4 := ev3.c4
  have z0 := Z3.out.c0
  have z1 := Z3.out.c1
  have z2 := Z3.out.c2
  have z3 := Z3.out.c3
  have z4 := Z3.out.c4
  have zf0 := Z3.out.f 0 (by omega)
  have zf1 := Z3.out.f 1 (by omega)
  have zf2 := Z3.out.f 2 (by omega)
  have zf3 := Z3.out.f 3 (by omega)
  have zf4 := Z3.out.f 4 (by omega)
  clear ev3
  go_wp2_with fail
  generalize hV : World.setCell _ ⟨W.heap.size + 1, 4, none⟩ _ = V2
  have hV' : setEv V (W.heap.size + 1) p w k a s = V2 := hV
  obtain ⟨ev, m4, o4⟩ := fin_ev hV' M3.out Z3.out O3.out hC (by omega)
  clear hV hV' e0 e1 e2 e3 e4 z0 z1 z2 z3 z4 zf0 zf1 zf2 zf3 zf4
  have x0 := ev.c0
  have x1 := ev.c1
  have x2 := ev.c2
  have x3 := ev.c3
  have x4 := ev.c4
  refine bodyPost_ret (v := .tuple #[.agg #[.int .u32 (p : Nat), .int .u32 (w : Nat), .int .i64 k, .int .u32 (a : Nat), .int .i64 s], .int .i64 1]) (by simp [results, Tryz.results83, go_sem, x0, x1, x2, x3, x4]) rfl ⟨rfl, m4, o4⟩
set_option maxRecDepth 100000 in
set_option maxHeartbeats 2000000 in
theorem link_yes {C M pc pc' : Nat} {r : Nat → Nat} {W : World} (h : MachIs C M pc r W) (d to : Nat) (hd : d < 32) (p w : Nat) (k : Int) (a : Nat) (s : Int)
    (hj : ∀ W', Below W.heap.size W W' → Calls Tryz.prog 82 #[.pointer (some ⟨C, 0, none⟩), .int .u32 (to : Nat), .agg #[.int .u32 (p : Nat), .int .u32 (w : Nat), .int .i64 k, .int .u32 (a : Nat), .int .i64 s]] W' (StepPost C M W' (.agg #[.int .u32 (p : Nat), .int .u32 (w : Nat), .int .i64 k, .int .u32 (a : Nat), .int .i64 s]) 0 pc' r)) :
    Calls Tryz.prog 83 #[.pointer (some ⟨C, 0, none⟩), .int .i64 (d : Nat), .int .u32 (to : Nat), .agg #[.int .u32 (p : Nat), .int .u32 (w : Nat), .int .i64 k, .int .u32 (a : Nat), .int .i64 s]] W (StepPost C M W (.agg #[.int .u32 (p : Nat), .int .u32 (w : Nat), .int .i64 k, .int .u32 (a : Nat), .int .i64 s]) 0 pc' (setR r d ((pc + 4) % 4294967296))) := by
  have JP := Lib.hid hj
  have SET := Lib.hid (fun W' (hm : MachIs C M pc' r W') => mset_any hm d ((pc + 4) % 4294967296) hd (Nat.mod_lt _ (by decide)))
  have epc : (((pc + 4) % 4294967296 : Nat) : Int) = ((pc : Int) + 4) % 4294967296 := by omega
  have hC := h.lt
  have hpc := h.pcb
  have c1 := h.c1
  have EPC := Lib.hid epc
  clear h hj epc
  go_enter Tryz.func83, Tryz.ntmps83
  go_wp2_with fail
  obtain ⟨g1, g2, g3⟩ := two_alloc W (.cells #[.int .u32 (p : Nat), .int .u32 (w : Nat), .int .i64 k, .int .u32 (a : Nat), .int .i64 s] 39) (.cells #[.int .u32 0, .int .u32 0, .int .i64 0, .int .u32 0, .int .i64 0] 39)
  have E1 := Lib.hid (evAt_of g1)
  have Z1 := Lib.hid (evAt_of (p := 0) (w := 0) (a := 0) g2)
  have B1 := Lib.hid g3
  clear g1 g2 g3 c1
  generalize World.alloc _ _ = W1 at *
  refine (JP.out W1 B1.out).mono ?_
  rintro e w2 ⟨rfl, hm, ho⟩
  have E2 := E1.out.out ho (by omega)
  have Z2 := Lib.hid (Z1.out.out ho (by omega))
  have M2 := Lib.hid hm
  have O2 := Lib.hid ((Out.of_below (· = C) B1.out).trans ho)
  have E2' := Lib.hid E2
  have e0 := E2.c0
  have e1 := E2.c1
  have e2 := E2.c2
  have e3 := E2.c3
  have e4 := E2.c4
  have ef0 := E2.f 0 (by omega)
  have ef1 := E2.f 1 (by omega)
  have ef2 := E2.f 2 (by omega)
  have ef3 := E2.f 3 (by omega)
  have ef4 := E2.f 4 (by omega)
  clear E1 Z1 B1 E2 hm ho JP
  have hz0 := Z2.out.lt
  go_wp2_with fail
  generalize hV : World.setCell _ ⟨W.heap.size, 4, none⟩ _ = V
  have hV' : setEv w2 W.heap.size p w k a s = V := hV
  obtain ⟨ev3, m3, o3⟩ := fin_ev hV' M2.out E2'.out O2.out hC (Nat.le_refl _)
  have o9 := setEv_out w2 W.heap.size p w k a s
  rw [hV'] at o9
  have Z3 := Lib.hid (Z2.out.out o9 (by omega))
  have EV3 := Lib.hid ev3
  have O3 := Lib.hid o3
  have S3 := SET.out _ m3
  rw [EPC.out] at S3
  clear hV hV' ev3 m3 o3 o9 Z2 M2 O2 E2' SET e0 e1 e2 e3 e4 ef0 ef1 ef2 ef3 ef4
  refine S3.mono ?_
  rintro e w5 ⟨rfl, hm, ho⟩
  have E5 := EV3.out.out ho (by omega)
  have Z5 := Lib.hid (Z3.out.out ho (by omega))
  have M5 := Lib.hid hm
  have O5 := Lib.hid (O3.out.trans ho)
  have e0 := E5.c0
  have e1 := E5.c1
  have e2 := E5.c2
  have e3 := E5.c3
  have e4 := E5.c4
  have z0 := Z5.out.c0
  have z1 := Z5.out.c1
  have z2 := Z5.out.c2
  have z3 := Z5.out.c3
  have z4 := Z5.out.c4
  have zf0 := Z5.out.f 0 (by omega)
  have zf1 := Z5.out.f 1 (by omega)
  have zf2 := Z5.out.f 2 (by omega)
  have zf3 := Z5.out.f 3 (by omega)
  have zf4 := Z5.out.f 4 (by omega)
  clear S3 EV3 Z3 O3 hm ho E5
  go_wp2_with fail
  generalize hV : World.setCell _ ⟨W.heap.size + 1, 4, none⟩ _ = V
  have hV' : setEv w5 (W.heap.size + 1) p w k a s = V := hV
  obtain ⟨ev, m4, o4⟩ := fin_ev hV' M5.out Z5.out O5.out hC (by omega)
  clear hV hV' e0 e1 e2 e3 e4 z0 z1 z2 z3 z4 zf0 zf1 zf2 zf3 zf4
  have x0 := ev.c0
  have x1 := ev.c1
  have x2 := ev.c2
  have x3 := ev.c3
  have x4 := ev.c4
  refine bodyPost_ret (v := .tuple #[.agg #[.int .u32 (p : Nat), .int .u32 (w : Nat), .int .i64 k, .int .u32 (a : Nat), .int .i64 s], .int .i64 0]) (by simp [results, Tryz.results83, go_sem, x0, x1, x2, x3, x4]) rfl ⟨rfl, m4, o4⟩
theorem link_any {C M pc : Nat} {r : Nat → Nat} {W : World} (h : MachIs C M pc r W) (d to : Nat) (hd : d < 32) (ht : to < 4294967296) (p w : Nat) (k : Int) (a : Nat) (s : Int) :
    Calls Tryz.prog 83 #[.pointer (some ⟨C, 0, none⟩), .int .i64 (d : Nat), .int .u32 (to : Nat), .agg #[.int .u32 (p : Nat), .int .u32 (w : Nat), .int .i64 k, .int .u32 (a : Nat), .int .i64 s]] W (StepPost C M W (.agg #[.int .u32 (p : Nat), .int .u32 (w : Nat), .int .i64 k, .int .u32 (a : Nat), .int .i64 s]) (if to % 4 = 0 then 0 else 1) (if to % 4 = 0 then to else pc) (if to % 4 = 0 then setR r d ((pc + 4) % 4294967296) else r)) := by
  by_cases h4 : to % 4 = 0
  · simp only [h4, if_true]
    exact link_yes h d to hd p w k a s fun W' hb => jump_yes (h.below hb) to ht h4 p w k a s
  · simp only [h4, if_false]
    exact link_no h d to hd p w k a s fun W' hb => jump_no (h.below hb) to ht h4 p w k a s
end Go.Proofs.YtmlhoagcppofgaaGreatDoor

namespace Go.Proofs.YtmlhoagcppofgaaGreatDoor
open Go Go.RowKit Pl
set_option linter.unusedVariables false

/-- how many bytes an operation loads or stores -/
def sizeC (o : Int) : Nat := if o = 28 ∨ o = 31 ∨ o = 33 then 1 else if o = 29 ∨ o = 32 ∨ o = 34 then 2 else 4
theorem sizeOf_any (o : Int) (W : World) (ho : 28 ≤ o ∧ o ≤ 35) : Calls Tryz.prog 93 #[.int .i64 o] W fun e w' => e = .returned (.int .i64 (sizeC o : Nat)) ∧ W = w' := by
  obtain rfl | rfl | rfl | rfl | rfl | rfl | rfl | rfl : o = 28 ∨ o = 29 ∨ o = 30 ∨ o = 31 ∨ o = 32 ∨ o = 33 ∨ o = 34 ∨ o = 35 := by omega
  all_goals go_enter Tryz.func93, Tryz.ntmps93
  all_goals go_wp2
  all_goals go_ret
  all_goals exact ⟨rfl, rfl⟩
/-- which operation of registers does what one with a number does -/
def ofC (o : Int) : Int := if o = 19 then 1 else if o = 20 then 4 else if o = 21 then 5 else if o = 22 then 6 else if o = 23 then 9 else if o = 24 then 10 else if o = 25 then 3 else if o = 26 then 7 else 8
theorem ofNumber_any (o : Int) (W : World) (ho : 19 ≤ o ∧ o ≤ 27) : Calls Tryz.prog 78 #[.int .i64 o] W fun e w' => e = .returned (.int .i64 (ofC o)) ∧ W = w' := by
  obtain rfl | rfl | rfl | rfl | rfl | rfl | rfl | rfl | rfl : o = 19 ∨ o = 20 ∨ o = 21 ∨ o = 22 ∨ o = 23 ∨ o = 24 ∨ o = 25 ∨ o = 26 ∨ o = 27 := by omega
  all_goals go_enter Tryz.func78, Tryz.ntmps78
  all_goals go_wp2
  all_goals go_ret
  all_goals exact ⟨rfl, rfl⟩
/-- a struct of five in a block: an instruction -/
structure InsAt (b : Nat) (o : Int) (d u v : Nat) (im : Int) (W : World) : Prop where
  c0 : W.cell? ⟨b, 0, none⟩ = some (.int .i64 o)
  c1 : W.cell? ⟨b, 1, none⟩ = some (.int .i64 (d : Nat))
  c2 : W.cell? ⟨b, 2, none⟩ = some (.int .i64 (u : Nat))
  c3 : W.cell? ⟨b, 3, none⟩ = some (.int .i64 (v : Nat))
  c4 : W.cell? ⟨b, 4, none⟩ = some (.int .i32 im)
  lt : b < W.heap.size
theorem insAt_of {b : Nat} {o : Int} {d u v : Nat} {im : Int} {t : TypeId} {W : World} (h : W.heap[b]? = some (.cells #[.int .i64 o, .int .i64 (d : Nat), .int .i64 (u : Nat), .int .i64 (v : Nat), .int .i32 im] t (0, 0))) : InsAt b o d u v im W := by
  have cM : ∀ j x, (#[.int .i64 o, .int .i64 (d : Nat), .int .i64 (u : Nat), .int .i64 (v : Nat), .int .i32 im] : Array Value)[j]? = some x → W.cell? ⟨b, j, none⟩ = some x := fun j x hv => by rw [cell_of_row W b j _ _ _ h]; exact hv
  exact ⟨cM 0 _ rfl, cM 1 _ rfl, cM 2 _ rfl, cM 3 _ rfl, cM 4 _ rfl, (Array.getElem?_eq_some_iff.1 h).1⟩
theorem InsAt.out {b : Nat} {o : Int} {d u v : Nat} {im : Int} {S : Nat → Prop} {W W' : World} (h : InsAt b o d u v im W) (ho : Out S W W') (hb : ¬ S b) : InsAt b o d u v im W' :=
  ⟨(ho.cell h.lt hb).trans h.c0, (ho.cell h.lt hb).trans h.c1, (ho.cell h.lt hb).trans h.c2, (ho.cell h.lt hb).trans h.c3, (ho.cell h.lt hb).trans h.c4, Nat.lt_of_lt_of_le h.lt ho.size⟩
theorem three_alloc (W : World) (o1 o2 o3 : Obj) : (((W.alloc o1).alloc o2).alloc o3).heap[W.heap.size]? = some o1 ∧ (((W.alloc o1).alloc o2).alloc o3).heap[W.heap.size + 1]? = some o2 ∧ (((W.alloc o1).alloc o2).alloc o3).heap[W.heap.size + 2]? = some o3 ∧ Below W.heap.size W (((W.alloc o1).alloc o2).alloc o3) := by
  obtain ⟨h1, h2, h3⟩ := two_alloc W o1 o2
  have hs : ((W.alloc o1).alloc o2).heap.size = W.heap.size + 2 := by simp
  refine ⟨(heap_alloc_old _ _ (by omega)).trans h1, (heap_alloc_old _ _ (by omega)).trans h2, ?_, h3.alloc (by omega) _⟩
  rw [← hs, heap_alloc_new]
/-- what an event did is stored -/
def setDid (W : World) (b : Nat) (k : Int) (a : Nat) (s : Int) : World := ((W.setCell ⟨b, 2, none⟩ (.int .i64 k)).setCell ⟨b, 3, none⟩ (.int .u32 (a : Nat))).setCell ⟨b, 4, none⟩ (.int .i64 s)
theorem setDid_out (W : World) (b : Nat) (k : Int) (a : Nat) (s : Int) : Out (· = b) W (setDid W b k a s) := ((out_cell b 2 _ _).trans (out_cell b 3 _ _)).trans (out_cell b 4 _ _)
theorem setDid_at {b p w : Nat} {k' : Int} {a' : Nat} {s' : Int} {W : World} (h : EvAt b p w k' a' s' W) (k : Int) (a : Nat) (s : Int) : EvAt b p w k a s (setDid W b k a s) := by
  unfold setDid
  refine ⟨?_, ?_, ?_, ?_, ?_, ?_, Nat.lt_of_lt_of_le h.lt (setDid_out W b k a s).size⟩
  · rw [cset_ne (by decide), cset_ne (by decide), cset_ne (by decide)]; exact h.c0
  · rw [cset_ne (by decide), cset_ne (by decide), cset_ne (by decide)]; exact h.c1
  · rw [cset_ne (by decide), cset_ne (by decide)]
    exact World.cell?_setCell_same _ _ _ h.c2
  · rw [cset_ne (by decide)]
    exact World.cell?_setCell_same _ _ _ (by rw [cset_ne (by decide)]; exact h.c3)
  · exact World.cell?_setCell_same _ _ _ (by rw [cset_ne (by decide), cset_ne (by decide)]; exact h.c4)
  · intro j hj
    simp only [World.frozen?_setCell]
    exact h.f j hj
theorem fin_did {C M pc EB : Nat} {r : Nat → Nat} {S : Nat → Prop} {W w3 V : World} {p w : Nat} {k k' : Int} {a a' : Nat} {s s' : Int} (hV : setDid w3 EB k a s = V) (hm : MachIs C M pc r w3) (hz : EvAt EB p w k' a' s' w3) (ho : Out S W w3) (hC : C < W.heap.size) (hR : W.heap.size ≤ EB) :
    EvAt EB p w k a s V ∧ MachIs C M pc r V ∧ Out S W V ∧ Out (· = EB) w3 V := by
  have ev := setDid_at hz k a s
  have o4 := setDid_out w3 EB k a s
  rw [hV] at ev o4
  exact ⟨ev, hm.out o4 (by omega), ⟨o4.os.trans ho.os, o4.tape.trans ho.tape, o4.output.trans ho.output, Nat.le_trans ho.size o4.size, fun j hj hs => (o4.block j (Nat.lt_of_lt_of_le hj ho.size) (by omega)).trans (ho.block j hj hs)⟩, o4⟩
set_option maxRecDepth 100000 in
set_option maxHeartbeats 2000000 in
theorem mload_trap {C M pc : Nat} {r : Nat → Nat} {W : World} (h : MachIs C M pc r W) (o : Int) (d u v : Nat) (im : Int) (ho : 28 ≤ o ∧ o ≤ 32) (hd : d < 32) (at_ : Nat) (p w : Nat) (k : Int) (a : Nat) (s : Int) (n : Nat) (t : Int) (ht : t ≠ 0)
    (hl : ∀ W', Below W.heap.size W W' → Calls Tryz.prog 94 #[.pointer (some ⟨M, 0, none⟩), .int .u32 (at_ : Nat), .int .i64 (sizeC o : Nat)] W' (LoadPost W' n t)) :
    Calls Tryz.prog 79 #[.pointer (some ⟨C, 0, none⟩), .agg #[.int .i64 o, .int .i64 (d : Nat), .int .i64 (u : Nat), .int .i64 (v : Nat), .int .i32 im], .int .u32 (at_ : Nat), .agg #[.int .u32 (p : Nat), .int .u32 (w : Nat), .int .i64 k, .int .u32 (a : Nat), .int .i64 s]] W (StepPost C M W (.agg #[.int .u32 (p : Nat), .int .u32 (w : Nat), .int .i64 k, .int .u32 (a : Nat), .int .i64 s]) t pc r) := by
  have LD := Lib.hid hl
  have SZ := Lib.hid (fun W' => sizeOf_any o W' (by omega))
  have hC := h.lt
  have H := Lib.hid h
  have tt : (t == 0) = false := by simp; omega
  have tt' : (t != 0) = true := by simp; omega
  clear h hl ht
  go_enter Tryz.func79, Tryz.ntmps79
  go_wp2_with fail
  obtain ⟨g1, g2, g4, g3⟩ := three_alloc W (.cells #[.int .i64 o, .int .i64 (d : Nat), .int .i64 (u : Nat), .int .i64 (v : Nat), .int .i32 im] 34) (.cells #[.int .u32 (p : Nat), .int .u32 (w : Nat), .int .i64 k, .int .u32 (a : Nat), .int .i64 s] 39) (.cells #[.int .u32 0, .int .u32 0, .int .i64 0, .int .u32 0, .int .i64 0] 39)
  have I1 := Lib.hid (insAt_of g1)
  have E1 := Lib.hid (evAt_of g2)
  have Z1 := Lib.hid (evAt_of (p := 0) (w := 0) (a := 0) g4)
  have B1 := Lib.hid g3
  clear g1 g2 g3 g4
  generalize World.alloc _ _ = W1 at *
  have i0 := I1.out.c0
  refine (SZ.out W1).mono ?_
  rintro e w2 ⟨rfl, rfl⟩
  have c0 := (H.out.below B1.out).c0
  go_wp2_with fail
  refine (LD.out W1 B1.out).mono ?_
  rintro e w2 ⟨rfl, hl⟩
  have ho := hl.out (fun _ => False)
  have I2 := Lib.hid (I1.out.out ho id)
  have E2 := Lib.hid (E1.out.out ho id)
  have Z2 := Lib.hid (Z1.out.out ho id)
  have M2 := Lib.hid ((H.out.below B1.out).out ho id)
  have O2 := Lib.hid ((Out.of_below (· = C) B1.out).trans (ho.mono fun _ => False.elim))
  clear I1 E1 Z1 B1 hl ho i0 c0 LD SZ H
  have e0 := E2.out.c0
  have e1 := E2.out.c1
  have e2 := E2.out.c2
  have e3 := E2.out.c3
  have e4 := E2.out.c4
  have z0 := Z2.out.c0
  have z1 := Z2.out.c1
  have z2 := Z2.out.c2
  have z3 := Z2.out.c3
  have z4 := Z2.out.c4
  have zf0 := Z2.out.f 0 (by omega)
  have zf1 := Z2.out.f 1 (by omega)
  have zf2 := Z2.out.f 2 (by omega)
  have zf3 := Z2.out.f 3 (by omega)
  have zf4 := Z2.out.f 4 (by omega)
  go_wp2_with fail
  generalize hV : World.setCell _ ⟨W.heap.size + 2, 4, none⟩ _ = V
  have hV' : setEv w2 (W.heap.size + 2) p w k a s = V := hV
  obtain ⟨ev, m4, o4⟩ := fin_ev hV' M2.out Z2.out O2.out hC (by omega)
  clear hV hV' e0 e1 e2 e3 e4 z0 z1 z2 z3 z4 zf0 zf1 zf2 zf3 zf4
  have x0 := ev.c0
  have x1 := ev.c1
  have x2 := ev.c2
  have x3 := ev.c3
  have x4 := ev.c4
  refine bodyPost_ret (v := .tuple #[.agg #[.int .u32 (p : Nat), .int .u32 (w : Nat), .int .i64 k, .int .u32 (a : Nat), .int .i64 s], .int .i64 t]) (by simp [results, Tryz.results79, go_sem, x0, x1, x2, x3, x4]) rfl ⟨rfl, m4, o4⟩
set_option maxRecDepth 100000 in
set_option maxHeartbeats 2000000 in
theorem mload_plain {C M pc : Nat} {r : Nat → Nat} {W : World} (h : MachIs C M pc r W) (o : Int) (d u v : Nat) (im : Int) (ho : 28 ≤ o ∧ o ≤ 32) (hd : d < 32) (at_ : Nat) (p w : Nat) (k : Int) (a : Nat) (s : Int) (n : Nat) (hn : n < 4294967296) (o28 : o ≠ 28) (o29 : o ≠ 29)
    (hl : ∀ W', Below W.heap.size W W' → Calls Tryz.prog 94 #[.pointer (some ⟨M, 0, none⟩), .int .u32 (at_ : Nat), .int .i64 (sizeC o : Nat)] W' (LoadPost W' n 0)) :
    Calls Tryz.prog 79 #[.pointer (some ⟨C, 0, none⟩), .agg #[.int .i64 o, .int .i64 (d : Nat), .int .i64 (u : Nat), .int .i64 (v : Nat), .int .i32 im], .int .u32 (at_ : Nat), .agg #[.int .u32 (p : Nat), .int .u32 (w : Nat), .int .i64 k, .int .u32 (a : Nat), .int .i64 s]] W (StepPost C M W (.agg #[.int .u32 (p : Nat), .int .u32 (w : Nat), .int .i64 1, .int .u32 (at_ : Nat), .int .i64 (sizeC o : Nat)]) 0 ((pc + 4) % 4294967296) (setR r d n)) := by
  have LD := Lib.hid hl
  have SZ := Lib.hid (fun W' => sizeOf_any o W' (by omega))
  have hC := h.lt
  have H := Lib.hid h
  have t28 : (o == 28) = false := by simp; omega
  have t29 : (o == 29) = false := by simp; omega
  have CS := Lib.hid (fun W' (hm : MachIs C M pc r W') => cset_any hm d n hd hn p w 1 at_ (sizeC o : Nat))
  clear h hl o28 o29
  go_enter Tryz.func79, Tryz.ntmps79
  go_wp2_with fail
  obtain ⟨g1, g2, g4, g3⟩ := three_alloc W (.cells #[.int .i64 o, .int .i64 (d : Nat), .int .i64 (u : Nat), .int .i64 (v : Nat), .int .i32 im] 34) (.cells #[.int .u32 (p : Nat), .int .u32 (w : Nat), .int .i64 k, .int .u32 (a : Nat), .int .i64 s] 39) (.cells #[.int .u32 0, .int .u32 0, .int .i64 0, .int .u32 0, .int .i64 0] 39)
  have I1 := Lib.hid (insAt_of g1)
  have E1 := Lib.hid (evAt_of g2)
  have Z1 := Lib.hid (evAt_of (p := 0) (w := 0) (a := 0) g4)
  have B1 := Lib.hid g3
  clear g1 g2 g3 g4
  generalize World.alloc _ _ = W1 at *
  have i0 := I1.out.c0
  refine (SZ.out W1).mono ?_
  rintro e w2 ⟨rfl, rfl⟩
  have c0 := (H.out.below B1.out).c0
  go_wp2_with fail
  refine (LD.out W1 B1.out).mono ?_
  rintro e w2 ⟨rfl, hl⟩
  have ho := hl.out (fun _ => False)
  have I2 := Lib.hid (I1.out.out ho id)
  have E2 := Lib.hid (E1.out.out ho id)
  have Z2 := Lib.hid (Z1.out.out ho id)
  have M2 := Lib.hid ((H.out.below B1.out).out ho id)
  have O2 := Lib.hid ((Out.of_below (· = C) B1.out).trans (ho.mono fun _ => False.elim))
  clear I1 E1 Z1 B1 hl ho i0 c0 LD SZ H
  have i0 := I2.out.c0
  have i1 := I2.out.c1
  have e0 := E2.out.c0
  have e1 := E2.out.c1
  have e2 := E2.out.c2
  have e3 := E2.out.c3
  have e4 := E2.out.c4
  have ef0 := E2.out.f 0 (by omega)
  have ef1 := E2.out.f 1 (by omega)
  have ef2 := E2.out.f 2 (by omega)
  have ef3 := E2.out.f 3 (by omega)
  have ef4 := E2.out.f 4 (by omega)
  go_wp2_with fail
  generalize hV : World.setCell _ ⟨W.heap.size + 1, 4, none⟩ _ = V
  have hV' : setDid w2 (W.heap.size + 1) 1 at_ (sizeC o : Nat) = V := hV
  obtain ⟨ev3, m3, o3, o9⟩ := fin_did hV' M2.out E2.out O2.out hC (by omega)
  have Z3 := Lib.hid (Z2.out.out o9 (by omega))
  have O3 := Lib.hid o3
  clear hV hV' ev3 o3 o9 Z2 M2 O2 I2 E2 i0 i1 e0 e1 e2 e3 e4 ef0 ef1 ef2 ef3 ef4
  refine (CS.out V m3).mono ?_
  rintro e w5 ⟨rfl, hm, ho⟩
  have Z5 := Lib.hid (Z3.out.out ho (by omega))
  have M5 := Lib.hid hm
  have O5 := Lib.hid (O3.out.trans ho)
  have z0 := Z5.out.c0
  have z1 := Z5.out.c1
  have z2 := Z5.out.c2
  have z3 := Z5.out.c3
  have z4 := Z5.out.c4
  have zf0 := Z5.out.f 0 (by omega)
  have zf1 := Z5.out.f 1 (by omega)
  have zf2 := Z5.out.f 2 (by omega)
  have zf3 := Z5.out.f 3 (by omega)
  have zf4 := Z5.out.f 4 (by omega)
  clear m3 Z3 O3 hm ho CS
  go_wp2_with fail
  generalize hV : World.setCell _ ⟨W.heap.size + 2, 4, none⟩ _ = V2
  have hV' : setEv w5 (W.heap.size + 2) p w 1 at_ (sizeC o : Nat) = V2 := hV
  obtain ⟨ev, m4, o4⟩ := fin_ev hV' M5.out Z5.out O5.out hC (by omega)
  clear hV hV' z0 z1 z2 z3 z4 zf0 zf1 zf2 zf3 zf4
  have x0 := ev.c0
  have x1 := ev.c1
  have x2 := ev.c2
  have x3 := ev.c3
  have x4 := ev.c4
  refine bodyPost_ret (v := .tuple #[.agg #[.int .u32 (p : Nat), .int .u32 (w : Nat), .int .i64 1, .int .u32 (at_ : Nat), .int .i64 (sizeC o : Nat)], .int .i64 0]) (by simp [results, Tryz.results79, go_sem, x0, x1, x2, x3, x4]) rfl ⟨rfl, m4, o4⟩
end Go.Proofs.YtmlhoagcppofgaaGreatDoor

namespace Go.Proofs.YtmlhoagcppofgaaGreatDoor
open Go Go.RowKit Pl
set_option linter.unusedVariables false

set_option maxRecDepth 100000 in
set_option maxHeartbeats 2000000 in
theorem mload_lb {C M pc : Nat} {r : Nat → Nat} {W : World} (h : MachIs C M pc r W) (d u v : Nat) (im : Int) (hd : d < 32) (at_ : Nat) (p w : Nat) (k : Int) (a : Nat) (s : Int) (n : Nat) (hn : n < 4294967296) (y : Nat) (hy : sextS n 8 = (y : Int)) (hyb : y < 4294967296)
    (hl : ∀ W', Below W.heap.size W W' → Calls Tryz.prog 94 #[.pointer (some ⟨M, 0, none⟩), .int .u32 (at_ : Nat), .int .i64 1] W' (LoadPost W' n 0)) :
    Calls Tryz.prog 79 #[.pointer (some ⟨C, 0, none⟩), .agg #[.int .i64 28, .int .i64 (d : Nat), .int .i64 (u : Nat), .int .i64 (v : Nat), .int .i32 im], .int .u32 (at_ : Nat), .agg #[.int .u32 (p : Nat), .int .u32 (w : Nat), .int .i64 k, .int .u32 (a : Nat), .int .i64 s]] W (StepPost C M W (.agg #[.int .u32 (p : Nat), .int .u32 (w : Nat), .int .i64 1, .int .u32 (at_ : Nat), .int .i64 1]) 0 ((pc + 4) % 4294967296) (setR r d y)) := by
  have LD := Lib.hid hl
  have SZ := Lib.hid (fun W' => (show Calls Tryz.prog 93 #[.int .i64 28] W' fun e w' => e = .returned (.int .i64 1) ∧ W' = w' from sizeOf_any 28 W' (by omega)))
  have hC := h.lt
  have H := Lib.hid h
  have CS := Lib.hid (fun W' (hm : MachIs C M pc r W') => cset_any hm d y hd hyb p w 1 at_ 1)
  have SX := Lib.hid (fun W' => hy ▸ num_sext (n : Int) 8 W' (by omega) (by omega))
  clear h hl hy
  go_enter Tryz.func79, Tryz.ntmps79
  go_wp2_with fail
  obtain ⟨g1, g2, g4, g3⟩ := three_alloc W (.cells #[.int .i64 28, .int .i64 (d : Nat), .int .i64 (u : Nat), .int .i64 (v : Nat), .int .i32 im] 34) (.cells #[.int .u32 (p : Nat), .int .u32 (w : Nat), .int .i64 k, .int .u32 (a : Nat), .int .i64 s] 39) (.cells #[.int .u32 0, .int .u32 0, .int .i64 0, .int .u32 0, .int .i64 0] 39)
  have I1 := Lib.hid (insAt_of g1)
  have E1 := Lib.hid (evAt_of g2)
  have Z1 := Lib.hid (evAt_of (p := 0) (w := 0) (a := 0) g4)
  have B1 := Lib.hid g3
  clear g1 g2 g3 g4
  generalize World.alloc _ _ = W1 at *
  have i0 := I1.out.c0
  refine (SZ.out W1).mono ?_
  rintro e w2 ⟨rfl, rfl⟩
  have c0 := (H.out.below B1.out).c0
  go_wp2_with fail
  refine (LD.out W1 B1.out).mono ?_
  rintro e w2 ⟨rfl, hl⟩
  have ho := hl.out (fun _ => False)
  have I2 := Lib.hid (I1.out.out ho id)
  have E2 := Lib.hid (E1.out.out ho id)
  have Z2 := Lib.hid (Z1.out.out ho id)
  have M2 := Lib.hid ((H.out.below B1.out).out ho id)
  have O2 := Lib.hid ((Out.of_below (· = C) B1.out).trans (ho.mono fun _ => False.elim))
  clear I1 E1 Z1 B1 hl ho i0 c0 LD SZ H
  have i0 := I2.out.c0
  have i1 := I2.out.c1
  have e0 := E2.out.c0
  have e1 := E2.out.c1
  have e2 := E2.out.c2
  have e3 := E2.out.c3
  have e4 := E2.out.c4
  have ef0 := E2.out.f 0 (by omega)
  have ef1 := E2.out.f 1 (by omega)
  have ef2 := E2.out.f 2 (by omega)
  have ef3 := E2.out.f 3 (by omega)
  have ef4 := E2.out.f 4 (by omega)
  go_wp2_with fail
  refine (SX.out w2).mono ?_
  rintro e w3 ⟨rfl, rfl⟩
  go_wp2_with fail
  generalize hV : World.setCell _ ⟨W.heap.size + 1, 4, none⟩ _ = V
  have hV' : setDid w2 (W.heap.size + 1) 1 at_ 1 = V := hV
  obtain ⟨ev3, m3, o3, o9⟩ := fin_did hV' M2.out E2.out O2.out hC (by omega)
  have Z3 := Lib.hid (Z2.out.out o9 (by omega))
  have O3 := Lib.hid o3
  clear hV hV' ev3 o3 o9 Z2 M2 O2 I2 E2 i0 i1 e0 e1 e2 e3 e4 ef0 ef1 ef2 ef3 ef4
  refine (CS.out V m3).mono ?_
  rintro e w5 ⟨rfl, hm, ho⟩
  have Z5 := Lib.hid (Z3.out.out ho (by omega))
  have M5 := Lib.hid hm
  have O5 := Lib.hid (O3.out.trans ho)
  have z0 := Z5.out.c0
  have z1 := Z5.out.c1
  have z2 := Z5.out.c2
  have z3 := Z5.out.c3
  have z4 := Z5.out.c4
  have zf0 := Z5.out.f 0 (by omega)
  have zf1 := Z5.out.f 1 (by omega)
  have zf2 := Z5.out.f 2 (by omega)
  have zf3 := Z5.out.f 3 (by omega)
  have zf4 := Z5.out.f 4 (by omega)
  clear m3 Z3 O3 hm ho CS
  go_wp2_with fail
  generalize hV : World.setCell _ ⟨W.heap.size + 2, 4, none⟩ _ = V2
  have hV' : setEv w5 (W.heap.size + 2) p w 1 at_ 1 = V2 := hV
  obtain ⟨ev, m4, o4⟩ := fin_ev hV' M5.out Z5.out O5.out hC (by omega)
  clear hV hV' z0 z1 z2 z3 z4 zf0 zf1 zf2 zf3 zf4
  have x0 := ev.c0
  have x1 := ev.c1
  have x2 := ev.c2
  have x3 := ev.c3
  have x4 := ev.c4
  refine bodyPost_ret (v := .tuple #[.agg #[.int .u32 (p : Nat), .int .u32 (w : Nat), .int .i64 1, .int .u32 (at_ : Nat), .int .i64 1], .int .i64 0]) (by simp [results, Tryz.results79, go_sem, x0, x1, x2, x3, x4]) rfl ⟨rfl, m4, o4⟩
set_option maxRecDepth 100000 in
set_option maxHeartbeats 2000000 in
theorem mload_lh {C M pc : Nat} {r : Nat → Nat} {W : World} (h : MachIs C M pc r W) (d u v : Nat) (im : Int) (hd : d < 32) (at_ : Nat) (p w : Nat) (k : Int) (a : Nat) (s : Int) (n : Nat) (hn : n < 4294967296) (y : Nat) (hy : sextS n 16 = (y : Int)) (hyb : y < 4294967296)
    (hl : ∀ W', Below W.heap.size W W' → Calls Tryz.prog 94 #[.pointer (some ⟨M, 0, none⟩), .int .u32 (at_ : Nat), .int .i64 2] W' (LoadPost W' n 0)) :
    Calls Tryz.prog 79 #[.pointer (some ⟨C, 0, none⟩), .agg #[.int .i64 29, .int .i64 (d : Nat), .int .i64 (u : Nat), .int .i64 (v : Nat), .int .i32 im], .int .u32 (at_ : Nat), .agg #[.int .u32 (p : Nat), .int .u32 (w : Nat), .int .i64 k, .int .u32 (a : Nat), .int .i64 s]] W (StepPost C M W (.agg #[.int .u32 (p : Nat), .int .u32 (w : Nat), .int .i64 1, .int .u32 (at_ : Nat), .int .i64 2]) 0 ((pc + 4) % 4294967296) (setR r d y)) := by
  have LD := Lib.hid hl
  have SZ := Lib.hid (fun W' => (show Calls Tryz.prog 93 #[.int .i64 29] W' fun e w' => e = .returned (.int .i64 2) ∧ W' = w' from sizeOf_any 29 W' (by omega)))
  have hC := h.lt
  have H := Lib.hid h
  have CS := Lib.hid (fun W' (hm : MachIs C M pc r W') => cset_any hm d y hd hyb p w 1 at_ 2)
  have SX := Lib.hid (fun W' => hy ▸ num_sext (n : Int) 16 W' (by omega) (by omega))
  clear h hl hy
  go_enter Tryz.func79, Tryz.ntmps79
  go_wp2_with fail
  obtain ⟨g1, g2, g4, g3⟩ := three_alloc W (.cells #[.int .i64 29, .int .i64 (d : Nat), .int .i64 (u : Nat), .int .i64 (v : Nat), .int .i32 im] 34) (.cells #[.int .u32 (p : Nat), .int .u32 (w : Nat), .int .i64 k, .int .u32 (a : Nat), .int .i64 s] 39) (.cells #[.int .u32 0, .int .u32 0, .int .i64 0, .int .u32 0, .int .i64 0] 39)
  have I1 := Lib.hid (insAt_of g1)
  have E1 := Lib.hid (evAt_of g2)
  have Z1 := Lib.hid (evAt_of (p := 0) (w := 0) (a := 0) g4)
  have B1 := Lib.hid g3
  clear g1 g2 g3 g4
  generalize World.alloc _ _ = W1 at *
  have i0 := I1.out.c0
  refine (SZ.out W1).mono ?_
  rintro e w2 ⟨rfl, rfl⟩
  have c0 := (H.out.below B1.out).c0
  go_wp2_with fail
  refine (LD.out W1 B1.out).mono ?_
  rintro e w2 ⟨rfl, hl⟩
  have ho := hl.out (fun _ => False)
  have I2 := Lib.hid (I1.out.out ho id)
  have E2 := Lib.hid (E1.out.out ho id)
  have Z2 := Lib.hid (Z1.out.out ho id)
  have M2 := Lib.hid ((H.out.below B1.out).out ho id)
  have O2 := Lib.hid ((Out.of_below (· = C) B1.out).trans (ho.mono fun _ => False.elim))
  clear I1 E1 Z1 B1 hl ho i0 c0 LD SZ H
  have i0 := I2.out.c0
  have i1 := I2.out.c1
  have e0 := E2.out.c0
  have e1 := E2.out.c1
  have e2 := E2.out.c2
  have e3 := E2.out.c3
  have e4 := E2.out.c4
  have ef0 := E2.out.f 0 (by omega)
  have ef1 := E2.out.f 1 (by omega)
  have ef2 := E2.out.f 2 (by omega)
  have ef3 := E2.out.f 3 (by omega)
  have ef4 := E2.out.f 4 (by omega)
  go_wp2_with fail
  refine (SX.out w2).mono ?_
  rintro e w3 ⟨rfl, rfl⟩
  go_wp2_with fail
  generalize hV : World.setCell _ ⟨W.heap.size + 1, 4, none⟩ _ = V
  have hV' : setDid w2 (W.heap.size + 1) 1 at_ 2 = V := hV
  obtain ⟨ev3, m3, o3, o9⟩ := fin_did hV' M2.out E2.out O2.out hC (by omega)
  have Z3 := Lib.hid (Z2.out.out o9 (by omega))
  have O3 := Lib.hid o3
  clear hV hV' ev3 o3 o9 Z2 M2 O2 I2 E2 i0 i1 e0 e1 e2 e3 e4 ef0 ef1 ef2 ef3 ef4
  refine (CS.out V m3).mono ?_
  rintro e w5 ⟨rfl, hm, ho⟩
  have Z5 := Lib.hid (Z3.out.out ho (by omega))
  have M5 := Lib.hid hm
  have O5 := Lib.hid (O3.out.trans ho)
  have z0 := Z5.out.c0
  have z1 := Z5.out.c1
  have z2 := Z5.out.c2
  have z3 := Z5.out.c3
  have z4 := Z5.out.c4
  have zf0 := Z5.out.f 0 (by omega)
  have zf1 := Z5.out.f 1 (by omega)
  have zf2 := Z5.out.f 2 (by omega)
  have zf3 := Z5.out.f 3 (by omega)
  have zf4 := Z5.out.f 4 (by omega)
  clear m3 Z3 O3 hm ho CS
  go_wp2_with fail
  generalize hV : World.setCell _ ⟨W.heap.size + 2, 4, none⟩ _ = V2
  have hV' : setEv w5 (W.heap.size + 2) p w 1 at_ 2 = V2 := hV
  obtain ⟨ev, m4, o4⟩ := fin_ev hV' M5.out Z5.out O5.out hC (by omega)
  clear hV hV' z0 z1 z2 z3 z4 zf0 zf1 zf2 zf3 zf4
  have x0 := ev.c0
  have x1 := ev.c1
  have x2 := ev.c2
  have x3 := ev.c3
  have x4 := ev.c4
  refine bodyPost_ret (v := .tuple #[.agg #[.int .u32 (p : Nat), .int .u32 (w : Nat), .int .i64 1, .int .u32 (at_ : Nat), .int .i64 2], .int .i64 0]) (by simp [results, Tryz.results79, go_sem, x0, x1, x2, x3, x4]) rfl ⟨rfl, m4, o4⟩
/-- whether a branch is taken -/
def takenS (o : Int) (a b : Nat) : Bool := if o = 36 then a == b else if o = 37 then a != b else if o = 38 then decide (sg a < sg b) else if o = 39 then decide (sg a ≥ sg b) else if o = 40 then decide (a < b) else decide (a ≥ b)
set_option maxRecDepth 100000 in
set_option maxHeartbeats 1000000 in
theorem taken_any (o : Int) (a b : Nat) (W : World) (ho : 36 ≤ o ∧ o ≤ 41) (ha : a < 4294967296) (hb : b < 4294967296) : Calls Tryz.prog 81 #[.int .i64 o, .int .u32 (a : Nat), .int .u32 (b : Nat)] W fun e w' => e = .returned (.bool (takenS o a b)) ∧ W = w' := by
  have SA := Lib.hid (fun W' => num_signed (a : Int) W' (by omega) (by omega))
  have SB := Lib.hid (fun W' => num_signed (b : Int) W' (by omega) (by omega))
  obtain rfl | rfl | rfl | rfl | rfl | rfl : o = 36 ∨ o = 37 ∨ o = 38 ∨ o = 39 ∨ o = 40 ∨ o = 41 := by omega
  all_goals go_enter Tryz.func81, Tryz.ntmps81
  all_goals go_wp2_with (go_at_call 60; first | (refine (SA.out _).mono ?_; rintro e w' ⟨rfl, rfl⟩) | (refine (SB.out _).mono ?_; rintro e w' ⟨rfl, rfl⟩))
  all_goals go_ret
  all_goals refine ⟨ret_bool ?_, rfl⟩
  all_goals simp [takenS]
  all_goals (rw [Bool.eq_iff_iff]; simp; try omega)
set_option maxRecDepth 100000 in
set_option maxHeartbeats 2000000 in
theorem mstore_trap {C M F R f rr pc : Nat} {r : Nat → Nat} {Fb Rb : List Nat} {W : World} (h : MachIs C M pc r W) (o : Int) (d u v : Nat) (im : Int) (ho : 33 ≤ o ∧ o ≤ 35) (at_ x : Nat) (p w : Nat) (k : Int) (a : Nat) (s : Int) (t : Int) (ht : t ≠ 0)
    (hCM : C ≠ M) (hCF : C ≠ F) (hCR : C ≠ R)
    (hl : ∀ W', Below W.heap.size W W' → Calls Tryz.prog 95 #[.pointer (some ⟨M, 0, none⟩), .int .u32 (at_ : Nat), .int .i64 (sizeC o : Nat), .int .u32 (x : Nat)] W' fun e w' => e = .returned (.int .i64 t) ∧ MemIs M F R f rr Fb Rb w' ∧ Out (· = R) W' w') (hRW : R < W.heap.size) (hMW : M < W.heap.size) (hFW : F < W.heap.size) :
    Calls Tryz.prog 80 #[.pointer (some ⟨C, 0, none⟩), .agg #[.int .i64 o, .int .i64 (d : Nat), .int .i64 (u : Nat), .int .i64 (v : Nat), .int .i32 im], .int .u32 (at_ : Nat), .int .u32 (x : Nat), .agg #[.int .u32 (p : Nat), .int .u32 (w : Nat), .int .i64 k, .int .u32 (a : Nat), .int .i64 s]] W fun e w' => e = .returned (.tuple #[.agg #[.int .u32 (p : Nat), .int .u32 (w : Nat), .int .i64 k, .int .u32 (a : Nat), .int .i64 s], .int .i64 t]) ∧ MachIs C M pc r w' ∧ MemIs M F R f rr Fb Rb w' ∧ Out (fun j => j = C ∨ j = R) W w' := by
  have LD := Lib.hid hl
  have SZ := Lib.hid (fun W' => sizeOf_any o W' (by omega))
  have hC := h.lt
  have H := Lib.hid h
  have tt : (t == 0) = false := by simp; omega
  have tt' : (t != 0) = true := by simp; omega
  clear h hl
  go_enter Tryz.func80, Tryz.ntmps80
  go_wp2_with fail
  obtain ⟨g1, g2, g4, g3⟩ := three_alloc W (.cells #[.int .i64 o, .int .i64 (d : Nat), .int .i64 (u : Nat), .int .i64 (v : Nat), .int .i32 im] 34) (.cells #[.int .u32 (p : Nat), .int .u32 (w : Nat), .int .i64 k, .int .u32 (a : Nat), .int .i64 s] 39) (.cells #[.int .u32 0, .int .u32 0, .int .i64 0, .int .u32 0, .int .i64 0] 39)
  have I1 := Lib.hid (insAt_of g1)
  have E1 := Lib.hid (evAt_of g2)
  have Z1 := Lib.hid (evAt_of (p := 0) (w := 0) (a := 0) g4)
  have B1 := Lib.hid g3
  clear g1 g2 g3 g4
  generalize World.alloc _ _ = W1 at *
  have i0 := I1.out.c0
  refine (SZ.out W1).mono ?_
  rintro e w2 ⟨rfl, rfl⟩
  have c0 := (H.out.below B1.out).c0
  go_wp2_with fail
  refine (LD.out W1 B1.out).mono ?_
  rintro e w2 ⟨rfl, hmm, ho⟩
  have E2 := Lib.hid (E1.out.out ho (by omega))
  have Z2 := Lib.hid (Z1.out.out ho (by omega))
  have M2 := Lib.hid ((H.out.below B1.out).out ho (by omega))
  have Q2 := Lib.hid hmm
  have O2 := Lib.hid ((Out.of_below (fun j => j = C ∨ j = R) B1.out).trans (ho.mono fun _ => Or.inr))
  clear I1 E1 Z1 B1 hmm ho i0 c0 LD SZ H
  have e0 := E2.out.c0
  have e1 := E2.out.c1
  have e2 := E2.out.c2
  have e3 := E2.out.c3
  have e4 := E2.out.c4
  have z0 := Z2.out.c0
  have z1 := Z2.out.c1
  have z2 := Z2.out.c2
  have z3 := Z2.out.c3
  have z4 := Z2.out.c4
  have zf0 := Z2.out.f 0 (by omega)
  have zf1 := Z2.out.f 1 (by omega)
  have zf2 := Z2.out.f 2 (by omega)
  have zf3 := Z2.out.f 3 (by omega)
  have zf4 := Z2.out.f 4 (by omega)
  go_wp2_with fail
  generalize hV : World.setCell _ ⟨W.heap.size + 2, 4, none⟩ _ = V
  have hV' : setEv w2 (W.heap.size + 2) p w k a s = V := hV
  obtain ⟨ev, m4, o4⟩ := fin_ev hV' M2.out Z2.out O2.out hC (by omega)
  have o9 := setEv_out w2 (W.heap.size + 2) p w k a s
  rw [hV'] at o9
  have q4 := Q2.out.out o9 (by omega) (by omega) (by omega)
  clear hV hV' o9 e0 e1 e2 e3 e4 z0 z1 z2 z3 z4 zf0 zf1 zf2 zf3 zf4
  have x0 := ev.c0
  have x1 := ev.c1
  have x2 := ev.c2
  have x3 := ev.c3
  have x4 := ev.c4
  refine bodyPost_ret (v := .tuple #[.agg #[.int .u32 (p : Nat), .int .u32 (w : Nat), .int .i64 k, .int .u32 (a : Nat), .int .i64 s], .int .i64 t]) (by simp [results, Tryz.results80, go_sem, x0, x1, x2, x3, x4]) rfl ⟨rfl, m4, q4, o4⟩
set_option maxRecDepth 100000 in
set_option maxHeartbeats 2000000 in
theorem mstore_ok {C M F R f rr pc : Nat} {r : Nat → Nat} {Fb Rb : List Nat} {W : World} (h : MachIs C M pc r W) (o : Int) (d u v : Nat) (im : Int) (ho : 33 ≤ o ∧ o ≤ 35) (at_ x : Nat) (p w : Nat) (k : Int) (a : Nat) (s : Int) 
    (hCM : C ≠ M) (hCF : C ≠ F) (hCR : C ≠ R)
    (hl : ∀ W', Below W.heap.size W W' → Calls Tryz.prog 95 #[.pointer (some ⟨M, 0, none⟩), .int .u32 (at_ : Nat), .int .i64 (sizeC o : Nat), .int .u32 (x : Nat)] W' fun e w' => e = .returned (.int .i64 0) ∧ MemIs M F R f rr Fb Rb w' ∧ Out (· = R) W' w') (hRW : R < W.heap.size) (hMW : M < W.heap.size) (hFW : F < W.heap.size) :
    Calls Tryz.prog 80 #[.pointer (some ⟨C, 0, none⟩), .agg #[.int .i64 o, .int .i64 (d : Nat), .int .i64 (u : Nat), .int .i64 (v : Nat), .int .i32 im], .int .u32 (at_ : Nat), .int .u32 (x : Nat), .agg #[.int .u32 (p : Nat), .int .u32 (w : Nat), .int .i64 k, .int .u32 (a : Nat), .int .i64 s]] W fun e w' => e = .returned (.tuple #[.agg #[.int .u32 (p : Nat), .int .u32 (w : Nat), .int .i64 2, .int .u32 (at_ : Nat), .int .i64 (sizeC o : Nat)], .int .i64 0]) ∧ MachIs C M ((pc + 4) % 4294967296) r w' ∧ MemIs M F R f rr Fb Rb w' ∧ Out (fun j => j = C ∨ j = R) W w' := by
  have LD := Lib.hid hl
  have SZ := Lib.hid (fun W' => sizeOf_any o W' (by omega))
  have hC := h.lt
  have H := Lib.hid h
  skip
  clear h hl
  go_enter Tryz.func80, Tryz.ntmps80
  go_wp2_with fail
  obtain ⟨g1, g2, g4, g3⟩ := three_alloc W (.cells #[.int .i64 o, .int .i64 (d : Nat), .int .i64 (u : Nat), .int .i64 (v : Nat), .int .i32 im] 34) (.cells #[.int .u32 (p : Nat), .int .u32 (w : Nat), .int .i64 k, .int .u32 (a : Nat), .int .i64 s] 39) (.cells #[.int .u32 0, .int .u32 0, .int .i64 0, .int .u32 0, .int .i64 0] 39)
  have I1 := Lib.hid (insAt_of g1)
  have E1 := Lib.hid (evAt_of g2)
  have Z1 := Lib.hid (evAt_of (p := 0) (w := 0) (a := 0) g4)
  have B1 := Lib.hid g3
  clear g1 g2 g3 g4
  generalize World.alloc _ _ = W1 at *
  have i0 := I1.out.c0
  refine (SZ.out W1).mono ?_
  rintro e w2 ⟨rfl, rfl⟩
  have c0 := (H.out.below B1.out).c0
  go_wp2_with fail
  refine (LD.out W1 B1.out).mono ?_
  rintro e w2 ⟨rfl, hmm, ho⟩
  have E2 := Lib.hid (E1.out.out ho (by omega))
  have Z2 := Lib.hid (Z1.out.out ho (by omega))
  have M2 := Lib.hid ((H.out.below B1.out).out ho (by omega))
  have Q2 := Lib.hid hmm
  have O2 := Lib.hid ((Out.of_below (fun j => j = C ∨ j = R) B1.out).trans (ho.mono fun _ => Or.inr))
  clear I1 E1 Z1 B1 hmm ho i0 c0 LD SZ H
  have e0 := E2.out.c0
  have e1 := E2.out.c1
  have e2 := E2.out.c2
  have e3 := E2.out.c3
  have e4 := E2.out.c4
  have ef0 := E2.out.f 0 (by omega)
  have ef1 := E2.out.f 1 (by omega)
  have ef2 := E2.out.f 2 (by omega)
  have ef3 := E2.out.f 3 (by omega)
  have ef4 := E2.out.f 4 (by omega)
  have c1 := M2.out.c1
  have hpc := M2.out.pcb
  have fc := M2.out.fz 1 (by omega)
  have hEC : W.heap.size + 1 ≠ C := by omega
  have hRC : W.heap.size + 2 ≠ C := by omega
  go_upto_region 6 with (fail)
  generalize hV : World.setCell _ ⟨W.heap.size + 1, 4, none⟩ _ = V
  have hV' : setDid w2 (W.heap.size + 1) 2 at_ (sizeC o : Nat) = V := hV
  obtain ⟨ev3, m3, o3, o9⟩ := fin_did hV' M2.out E2.out O2.out hC (by omega)
  have q3 := Q2.out.out o9 (by omega) (by omega) (by omega)
  have Z3 := Lib.hid (Z2.out.out o9 (by omega))
  have E3 := Lib.hid ev3
  have M3 := Lib.hid m3
  have Q3 := Lib.hid q3
  have O3 := Lib.hid o3
  clear hV hV' ev3 o3 o9 m3 q3 Z2 M2 O2 E2 Q2 c1 fc e0 e1 e2 e3 e4 ef0 ef1 ef2 ef3 ef4
  have c1 := M3.out.c1
  have fc := M3.out.fz 1 (by omega)
  go_upto_region 7 with (fail)
  have epc : (((pc + 4) % 4294967296 : Nat) : Int) = ((pc : Int) + 4) % 4294967296 := by omega
  generalize hV : World.setCell _ ⟨C, 1, none⟩ _ = V2
  have M4 := M3.out.setPc ((pc + 4) % 4294967296) (by omega)
  rw [epc] at M4
  have o4 := out_cell C 1 (.int .u32 (((pc : Int) + 4) % 4294967296)) V
  rw [hV] at M4 o4
  have Z4 := Lib.hid (Z3.out.out o4 (by omega))
  have E4 := Lib.hid (E3.out.out o4 (by omega))
  have Q4 := Lib.hid (Q3.out.out o4 (by omega) (by omega) (by omega))
  have O4 := Lib.hid (O3.out.trans (o4.mono fun _ => Or.inl))
  have M5 := Lib.hid M4
  clear hV epc M4 o4 M3 Z3 E3 Q3 O3 c1 fc
  have e0 := E4.out.c0
  have e1 := E4.out.c1
  have e2 := E4.out.c2
  have e3 := E4.out.c3
  have e4 := E4.out.c4
  have z0 := Z4.out.c0
  have z1 := Z4.out.c1
  have z2 := Z4.out.c2
  have z3 := Z4.out.c3
  have z4 := Z4.out.c4
  have zf0 := Z4.out.f 0 (by omega)
  have zf1 := Z4.out.f 1 (by omega)
  have zf2 := Z4.out.f 2 (by omega)
  have zf3 := Z4.out.f 3 (by omega)
  have zf4 := Z4.out.f 4 (by omega)
  go_wp2_with fail
  generalize hV : World.setCell _ ⟨W.heap.size + 2, 4, none⟩ _ = V3
  have hV' : setEv V2 (W.heap.size + 2) p w 2 at_ (sizeC o : Nat) = V3 := hV
  obtain ⟨ev, m4, o4⟩ := fin_ev hV' M5.out Z4.out O4.out hC (by omega)
  have o9 := setEv_out V2 (W.heap.size + 2) p w 2 at_ (sizeC o : Nat)
  rw [hV'] at o9
  have q4 := Q4.out.out o9 (by omega) (by omega) (by omega)
  clear hV hV' o9 e0 e1 e2 e3 e4 z0 z1 z2 z3 z4 zf0 zf1 zf2 zf3 zf4
  have x0 := ev.c0
  have x1 := ev.c1
  have x2 := ev.c2
  have x3 := ev.c3
  have x4 := ev.c4
  refine bodyPost_ret (v := .tuple #[.agg #[.int .u32 (p : Nat), .int .u32 (w : Nat), .int .i64 2, .int .u32 (at_ : Nat), .int .i64 (sizeC o : Nat)], .int .i64 0]) (by simp [results, Tryz.results80, go_sem, x0, x1, x2, x3, x4]) rfl ⟨rfl, m4, q4, o4⟩
end Go.Proofs.YtmlhoagcppofgaaGreatDoor
