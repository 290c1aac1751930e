/- Package cpu, as far as CpuRegs wants it: New, PC, Set, Reg, Memory, and Step of none. -/
import Derived.Test.YtohndfcbebeemaaDoorDoor
import Derived.WalkSpells
import Derived.WalkSmall
import Derived.Handy
import Derived.Lib.Hide
import Derived.BigQuiet
import Derived.StillTailTactics
import Derived.OwnWalk
import Derived.Great.Walk
namespace Go.Proofs.YtohndfcbebeemaaDoor
open Go Go.RowKit
set_option linter.unusedVariables false

/-- a call that answers a new block and a flat value -/
def runsNew (P : Program) (n : Nat) (f : FuncId) (args : List Value) : Option Value :=
  match aFun P 0 n f args ⟨0, []⟩ with
  | some (.tuple ⟨[.pointer (some ⟨i, 0, none⟩), u]⟩, H') => match H'.get i with
    | .live _ => match flat1 u with
      | true => some u
      | false => none
    | _ => none
  | _ => none
theorem calls_new {P : Program} (hn : namesOk P = true) (hm : P.follows .mixedOrders = true) {n : Nat} {f : FuncId} {args : List Value} {u : Value} (hr : runsNew P n f args = some u) (hf : isFn P f = true) (ha : args.all flat = true) (w : World) :
    Calls P f args.toArray w fun e w' => ∃ b, e = .returned (.tuple #[.pointer (some ⟨b, 0, none⟩), u]) ∧ w.heap.size ≤ b ∧ b < w'.heap.size ∧ Below w.heap.size w w' := by
  unfold runsNew at hr
  split at hr
  · rename_i i u' H' h
    split at hr
    · rename_i k hk
      split at hr
      · rename_i hu
        cases hr
        refine (aFun_ok hn hm n f args args _ _ w _ H' h hf (All2.self fun x hx => .of_flat (List.all_eq_true.1 ha x hx)) (HS.start w)).mono ?_
        rintro e w' ⟨v', β', rfl, _, h2, h3⟩
        obtain ⟨l', hl, rfl⟩ := h2.tup_inv
        cases hl with | cons h4 hl =>
        cases hl with | cons h5 hl =>
        cases hl
        obtain ⟨b, x, hb, rfl⟩ := (RV.one h4).ptr_inv
        obtain rfl := h5.eq_flat hu
        obtain ⟨b', x', cs, hb', hg, _⟩ := h3.blk i k (Nat.zero_le _) hk
        rw [hb] at hb'; cases hb'
        exact ⟨b, rfl, h3.own i b x (Nat.zero_le _) hb, (Array.getElem?_eq_some_iff.1 hg).1, h3.below⟩
      · cases hr
    · cases hr
  · cases hr
theorem mnew (w : World) : Calls Tryd.prog 9 #[.agg #[.int .u32 4096, .int .u32 256, .int .u32 2147483648, .int .u32 128]] w fun e w' => ∃ b, e = .returned (.tuple #[.pointer (some ⟨b, 0, none⟩), .int .i64 0]) ∧ w.heap.size ≤ b ∧ b < w'.heap.size ∧ Below w.heap.size w w' :=
  calls_new names_ok mixed_ok (n := 60) (args := [.agg #[.int .u32 4096, .int .u32 256, .int .u32 2147483648, .int .u32 128]]) (by kernel_rfl) (by kernel_rfl) rfl w

/-- a machine's cells -/
structure Mac (m : Addr) (pc : Int) (r : Nat → Int) (cs : Array Value) : Prop where
  size : cs.size = 34
  mem : cs[0]? = some (.pointer (some m))
  pc : cs[1]? = some (.int .u32 pc)
  reg : ∀ k, k < 32 → cs[2 + k]? = some (.int .u32 (r k))
set_option maxRecDepth 100000 in
set_option maxHeartbeats 1000000 in
theorem cnew_any (m : Addr) (pc : Int) (w : World) :
    Calls Tryd.prog 11 #[.pointer (some m), .int .u32 pc] w fun e w' => ∃ cs, e = .returned (.pointer (some ⟨w.heap.size, 0, none⟩)) ∧ Mac m pc (fun _ => 0) cs ∧ w' = w.alloc (.cells cs 71) := by
  go_enter Tryd.func11, Tryd.ntmps11
  go_wp2
  go_ret
  refine ⟨_, rfl, ⟨rfl, rfl, rfl, ?_⟩, rfl⟩
  intro k hk
  match k, hk with
  | 0, _ | 1, _ | 2, _ | 3, _ | 4, _ | 5, _ | 6, _ | 7, _ | 8, _ | 9, _ | 10, _ | 11, _ | 12, _ | 13, _ | 14, _ | 15, _ | 16, _ | 17, _ | 18, _ | 19, _ | 20, _ | 21, _ | 22, _ | 23, _ | 24, _ | 25, _ | 26, _ | 27, _ | 28, _ | 29, _ | 30, _ | 31, _ => rfl
  | n + 32, h => exact absurd h (by omega)

theorem pc_some (B : Nat) (pc : Int) (w : World) (h : w.cell? ⟨B, 1, none⟩ = some (.int .u32 pc)) :
    Calls Tryd.prog 12 #[.pointer (some ⟨B, 0, none⟩)] w fun e w' => e = .returned (.int .u32 pc) ∧ w = w' := by
  go_enter Tryd.func12, Tryd.ntmps12
  go_wp2
  go_ret
  exact ⟨rfl, rfl⟩
theorem pc_none (w : World) :
    Calls Tryd.prog 12 #[.pointer none] w fun e w' => e = .returned (.int .u32 0) ∧ w = w' := by
  go_enter Tryd.func12, Tryd.ntmps12
  go_wp2
  go_ret
  exact ⟨rfl, rfl⟩
theorem mem_some (B : Nat) (m : Addr) (w : World) (h : w.cell? ⟨B, 0, none⟩ = some (.pointer (some m))) :
    Calls Tryd.prog 16 #[.pointer (some ⟨B, 0, none⟩)] w fun e w' => e = .returned (.pointer (some m)) ∧ w = w' := by
  go_enter Tryd.func16, Tryd.ntmps16
  go_wp2
  go_ret
  exact ⟨rfl, rfl⟩
theorem mem_none (w : World) :
    Calls Tryd.prog 16 #[.pointer none] w fun e w' => e = .returned (.pointer none) ∧ w = w' := by
  go_enter Tryd.func16, Tryd.ntmps16
  go_wp2
  go_ret
  exact ⟨rfl, rfl⟩
theorem reg_none (n : Int) (w : World) :
    Calls Tryd.prog 15 #[.pointer none, .int .i64 n] w fun e w' => e = .returned (.int .u32 0) ∧ w = w' := by
  go_enter Tryd.func15, Tryd.ntmps15
  go_wp2
  go_ret
  exact ⟨rfl, rfl⟩
theorem reg_out (B : Nat) (n : Int) (w : World) (h : n < 0 ∨ 32 ≤ n) :
    Calls Tryd.prog 15 #[.pointer (some ⟨B, 0, none⟩), .int .i64 n] w fun e w' => e = .returned (.int .u32 0) ∧ w = w' := by
  rcases h with h | h
  all_goals
    go_enter Tryd.func15, Tryd.ntmps15
    go_wp2
    go_ret
    exact ⟨rfl, rfl⟩
theorem reg_in (B : Nat) (n : Nat) (x : Int) (w : World) (hn : n < 32) (h : w.cell? ⟨B, 2 + n, none⟩ = some (.int .u32 x)) :
    Calls Tryd.prog 15 #[.pointer (some ⟨B, 0, none⟩), .int .i64 n] w fun e w' => e = .returned (.int .u32 x) ∧ w = w' := by
  have h0 : (0 : Int) ≤ n := by omega
  have h1 : (n : Int) < 32 := by omega
  go_enter Tryd.func15, Tryd.ntmps15
  go_wp2
  go_ret
  exact ⟨rfl, rfl⟩
theorem set_none (n x : Int) (w : World) :
    Calls Tryd.prog 13 #[.pointer none, .int .i64 n, .int .u32 x] w fun e w' => e = .returned (.tuple #[]) ∧ w = w' := by
  go_enter Tryd.func13, Tryd.ntmps13
  go_wp2
  first | exact Go.Great.bodyPost_end0 rfl rfl ⟨rfl, rfl⟩ | exact ⟨rfl, .tuple #[], results_none rfl _ _ _, rfl, rfl⟩
theorem set_out (B : Nat) (n x : Int) (w : World) (h : n ≤ 0 ∨ 32 ≤ n) :
    Calls Tryd.prog 13 #[.pointer (some ⟨B, 0, none⟩), .int .i64 n, .int .u32 x] w fun e w' => e = .returned (.tuple #[]) ∧ w = w' := by
  rcases h with h | h
  all_goals
    go_enter Tryd.func13, Tryd.ntmps13
    go_wp2
    first | exact Go.Great.bodyPost_end0 rfl rfl ⟨rfl, rfl⟩ | exact ⟨rfl, .tuple #[], results_none rfl _ _ _, rfl, rfl⟩
theorem set_in (B : Nat) (n : Nat) (x y : Int) (w : World) (h0 : 1 ≤ n) (hn : n < 32) (h : w.cell? ⟨B, 2 + n, none⟩ = some (.int .u32 y)) (hf : w.frozen? ⟨B, 2 + n, none⟩ = false) :
    Calls Tryd.prog 13 #[.pointer (some ⟨B, 0, none⟩), .int .i64 n, .int .u32 x] w fun e w' => e = .returned (.tuple #[]) ∧ w' = w.setCell ⟨B, 2 + n, none⟩ (.int .u32 x) := by
  have h2 : (0 : Int) < n := by omega
  have h1 : (n : Int) < 32 := by omega
  go_enter Tryd.func13, Tryd.ntmps13
  go_wp2
  first | exact Go.Great.bodyPost_end0 rfl rfl ⟨rfl, rfl⟩ | exact ⟨rfl, .tuple #[], results_none rfl _ _ _, rfl, rfl⟩
theorem step_none (w : World) :
    Calls Tryd.prog 14 #[.pointer none] w fun e w' => e = .returned (.tuple #[.agg #[.int .u32 0, .int .u32 0, .int .i64 0, .int .u32 0, .int .i64 0], .int .i64 2]) ∧ Below w.heap.size w w' := by
  go_enter Tryd.func14, Tryd.ntmps14
  go_wp2
  exact bodyPost_ret (v := .tuple #[.agg #[.int .u32 0, .int .u32 0, .int .i64 0, .int .u32 0, .int .i64 0], .int .i64 2]) (by simp [results, Tryd.results14, go_sem]) rfl ⟨rfl, by go_grown⟩
end Go.Proofs.YtohndfcbebeemaaDoor
