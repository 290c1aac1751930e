/- Contracts of package inst: layouts, registers, numbers, what can be. -/
import Derived.Test.YtmlhoagcppofgaaGreatDoorGB
import Derived.Test.YtmlhoagcppofgaaGreatDoorGA
import Derived.WalkSpells
import Derived.WalkSmall
import Derived.BigQuiet
import Derived.Laws.StructEq
import Derived.Deep.QuietTactic
import Derived.Deep.RegionHeld3
namespace Go.Proofs.YtmlhoagcppofgaaGreatDoor
open Go Go.RowKit Pl
set_option linter.unusedVariables false

def lowC (o : Int) : Int := if o = 47 ∨ o = 48 then 0 else lowI o
def layI (o : Int) : Array Value := #[.int .u32 (lowC o), .bool (rD o), .bool (rA o), .bool (rB o), .int .i64 (formL o)]
def LayIP (o : Int) (w : World) (e : Ending) (w' : World) : Prop := e = .returned (.agg (layI o)) ∧ w' = w.alloc (.cells (layI o) 111)
theorem layI_0 {o : Int} (h : 1 ≤ o ∧ o ≤ 18) : layI o = #[.int .u32 51, .bool true, .bool true, .bool true, .int .i64 0] := by
  have g := cls_0 h
  have l : lowC o = lowI o := by unfold lowC; rw [if_neg (by omega)]
  unfold layI formL
  rw [l, g.1, g.2.1, g.2.2.1, g.2.2.2.1, g.2.2.2.2]
  rfl
set_option maxHeartbeats 400000 in
theorem ilay_0 (o : Int) (w : World) (h : 1 ≤ o ∧ o ≤ 18) : Calls Tryz.prog 46 #[.int .i64 o] w (LayIP o w) := by
  unfold LayIP
  rw [layI_0 h]
  have t18 : decide (o ≤ 18) = true := by simp; omega
  go_enter Tryz.func46, Tryz.ntmps46
  go_wp2
  exact bodyPost_ret (v := .agg #[.int .u32 51, .bool true, .bool true, .bool true, .int .i64 0]) (by simp [results, Tryz.results46, go_sem]) rfl ⟨rfl, rfl⟩
theorem layI_1 {o : Int} (h : 19 ≤ o ∧ o ≤ 24) : layI o = #[.int .u32 19, .bool true, .bool true, .bool false, .int .i64 1] := by
  have g := cls_1 h
  have l : lowC o = lowI o := by unfold lowC; rw [if_neg (by omega)]
  unfold layI formL
  rw [l, g.1, g.2.1, g.2.2.1, g.2.2.2.1, g.2.2.2.2.1]
  rfl
set_option maxHeartbeats 400000 in
theorem ilay_1 (o : Int) (w : World) (h : 19 ≤ o ∧ o ≤ 24) : Calls Tryz.prog 46 #[.int .i64 o] w (LayIP o w) := by
  unfold LayIP
  rw [layI_1 h]
  have t18 : decide (o ≤ 18) = false := by simp; omega
  have t27 : decide (o ≤ 27) = true := by simp; omega
  go_enter Tryz.func46, Tryz.ntmps46
  go_wp2
  exact bodyPost_ret (v := .agg #[.int .u32 19, .bool true, .bool true, .bool false, .int .i64 1]) (by simp [results, Tryz.results46, go_sem]) rfl ⟨rfl, rfl⟩
theorem layI_2 {o : Int} (h : 25 ≤ o ∧ o ≤ 27) : layI o = #[.int .u32 19, .bool true, .bool true, .bool false, .int .i64 1] := by
  have g := cls_2 h
  have l : lowC o = lowI o := by unfold lowC; rw [if_neg (by omega)]
  unfold layI formL
  rw [l, g.1, g.2.1, g.2.2.1, g.2.2.2.1, g.2.2.2.2]
  rfl
set_option maxHeartbeats 400000 in
theorem ilay_2 (o : Int) (w : World) (h : 25 ≤ o ∧ o ≤ 27) : Calls Tryz.prog 46 #[.int .i64 o] w (LayIP o w) := by
  unfold LayIP
  rw [layI_2 h]
  have t18 : decide (o ≤ 18) = false := by simp; omega
  have t27 : decide (o ≤ 27) = true := by simp; omega
  go_enter Tryz.func46, Tryz.ntmps46
  go_wp2
  exact bodyPost_ret (v := .agg #[.int .u32 19, .bool true, .bool true, .bool false, .int .i64 1]) (by simp [results, Tryz.results46, go_sem]) rfl ⟨rfl, rfl⟩
theorem layI_3 {o : Int} (h : 28 ≤ o ∧ o ≤ 32) : layI o = #[.int .u32 3, .bool true, .bool true, .bool false, .int .i64 1] := by
  have g := cls_3 h
  have l : lowC o = lowI o := by unfold lowC; rw [if_neg (by omega)]
  unfold layI formL
  rw [l, g.1, g.2.1, g.2.2.1, g.2.2.2.1, g.2.2.2.2.1]
  rfl
set_option maxHeartbeats 400000 in
theorem ilay_3 (o : Int) (w : World) (h : 28 ≤ o ∧ o ≤ 32) : Calls Tryz.prog 46 #[.int .i64 o] w (LayIP o w) := by
  unfold LayIP
  rw [layI_3 h]
  have t18 : decide (o ≤ 18) = false := by simp; omega
  have t27 : decide (o ≤ 27) = false := by simp; omega
  have t32 : decide (o ≤ 32) = true := by simp; omega
  go_enter Tryz.func46, Tryz.ntmps46
  go_wp2
  exact bodyPost_ret (v := .agg #[.int .u32 3, .bool true, .bool true, .bool false, .int .i64 1]) (by simp [results, Tryz.results46, go_sem]) rfl ⟨rfl, rfl⟩
theorem layI_4 {o : Int} (h : 33 ≤ o ∧ o ≤ 35) : layI o = #[.int .u32 35, .bool false, .bool true, .bool true, .int .i64 2] := by
  have g := cls_4 h
  have l : lowC o = lowI o := by unfold lowC; rw [if_neg (by omega)]
  unfold layI formL
  rw [l, g.1, g.2.1, g.2.2.1, g.2.2.2.1, g.2.2.2.2.1]
  rfl
set_option maxHeartbeats 400000 in
theorem ilay_4 (o : Int) (w : World) (h : 33 ≤ o ∧ o ≤ 35) : Calls Tryz.prog 46 #[.int .i64 o] w (LayIP o w) := by
  unfold LayIP
  rw [layI_4 h]
  have t18 : decide (o ≤ 18) = false := by simp; omega
  have t27 : decide (o ≤ 27) = false := by simp; omega
  have t32 : decide (o ≤ 32) = false := by simp; omega
  have t35 : decide (o ≤ 35) = true := by simp; omega
  go_enter Tryz.func46, Tryz.ntmps46
  go_wp2
  exact bodyPost_ret (v := .agg #[.int .u32 35, .bool false, .bool true, .bool true, .int .i64 2]) (by simp [results, Tryz.results46, go_sem]) rfl ⟨rfl, rfl⟩
theorem layI_5 {o : Int} (h : 36 ≤ o ∧ o ≤ 41) : layI o = #[.int .u32 99, .bool false, .bool true, .bool true, .int .i64 3] := by
  have g := cls_5 h
  have l : lowC o = lowI o := by unfold lowC; rw [if_neg (by omega)]
  unfold layI formL
  rw [l, g.1, g.2.1, g.2.2.1, g.2.2.2.1, g.2.2.2.2.1]
  rfl
set_option maxHeartbeats 400000 in
theorem ilay_5 (o : Int) (w : World) (h : 36 ≤ o ∧ o ≤ 41) : Calls Tryz.prog 46 #[.int .i64 o] w (LayIP o w) := by
  unfold LayIP
  rw [layI_5 h]
  have t18 : decide (o ≤ 18) = false := by simp; omega
  have t27 : decide (o ≤ 27) = false := by simp; omega
  have t32 : decide (o ≤ 32) = false := by simp; omega
  have t35 : decide (o ≤ 35) = false := by simp; omega
  have t41 : decide (o ≤ 41) = true := by simp; omega
  go_enter Tryz.func46, Tryz.ntmps46
  go_wp2
  exact bodyPost_ret (v := .agg #[.int .u32 99, .bool false, .bool true, .bool true, .int .i64 3]) (by simp [results, Tryz.results46, go_sem]) rfl ⟨rfl, rfl⟩
theorem layI_6 {o : Int} (h : o = 42) : layI o = #[.int .u32 55, .bool true, .bool false, .bool false, .int .i64 4] := by
  subst h; rfl
set_option maxHeartbeats 400000 in
theorem ilay_6 (o : Int) (w : World) (h : o = 42) : Calls Tryz.prog 46 #[.int .i64 o] w (LayIP o w) := by
  unfold LayIP
  rw [layI_6 h]
  subst h
  go_enter Tryz.func46, Tryz.ntmps46
  go_wp2
  exact bodyPost_ret (v := .agg #[.int .u32 55, .bool true, .bool false, .bool false, .int .i64 4]) (by simp [results, Tryz.results46, go_sem]) rfl ⟨rfl, rfl⟩
theorem layI_7 {o : Int} (h : o = 43) : layI o = #[.int .u32 23, .bool true, .bool false, .bool false, .int .i64 4] := by
  subst h; rfl
set_option maxHeartbeats 400000 in
theorem ilay_7 (o : Int) (w : World) (h : o = 43) : Calls Tryz.prog 46 #[.int .i64 o] w (LayIP o w) := by
  unfold LayIP
  rw [layI_7 h]
  subst h
  go_enter Tryz.func46, Tryz.ntmps46
  go_wp2
  exact bodyPost_ret (v := .agg #[.int .u32 23, .bool true, .bool false, .bool false, .int .i64 4]) (by simp [results, Tryz.results46, go_sem]) rfl ⟨rfl, rfl⟩
theorem layI_8 {o : Int} (h : o = 44) : layI o = #[.int .u32 111, .bool true, .bool false, .bool false, .int .i64 5] := by
  subst h; rfl
set_option maxHeartbeats 400000 in
theorem ilay_8 (o : Int) (w : World) (h : o = 44) : Calls Tryz.prog 46 #[.int .i64 o] w (LayIP o w) := by
  unfold LayIP
  rw [layI_8 h]
  subst h
  go_enter Tryz.func46, Tryz.ntmps46
  go_wp2
  exact bodyPost_ret (v := .agg #[.int .u32 111, .bool true, .bool false, .bool false, .int .i64 5]) (by simp [results, Tryz.results46, go_sem]) rfl ⟨rfl, rfl⟩
theorem layI_9 {o : Int} (h : o = 45) : layI o = #[.int .u32 103, .bool true, .bool true, .bool false, .int .i64 1] := by
  subst h; rfl
set_option maxHeartbeats 400000 in
theorem ilay_9 (o : Int) (w : World) (h : o = 45) : Calls Tryz.prog 46 #[.int .i64 o] w (LayIP o w) := by
  unfold LayIP
  rw [layI_9 h]
  subst h
  go_enter Tryz.func46, Tryz.ntmps46
  go_wp2
  exact bodyPost_ret (v := .agg #[.int .u32 103, .bool true, .bool true, .bool false, .int .i64 1]) (by simp [results, Tryz.results46, go_sem]) rfl ⟨rfl, rfl⟩
theorem layI_10 {o : Int} (h : o = 46) : layI o = #[.int .u32 15, .bool false, .bool false, .bool false, .int .i64 1] := by
  subst h; rfl
set_option maxHeartbeats 400000 in
theorem ilay_10 (o : Int) (w : World) (h : o = 46) : Calls Tryz.prog 46 #[.int .i64 o] w (LayIP o w) := by
  unfold LayIP
  rw [layI_10 h]
  subst h
  go_enter Tryz.func46, Tryz.ntmps46
  go_wp2
  exact bodyPost_ret (v := .agg #[.int .u32 15, .bool false, .bool false, .bool false, .int .i64 1]) (by simp [results, Tryz.results46, go_sem]) rfl ⟨rfl, rfl⟩
theorem layI_11 {o : Int} (h : o = 47) : layI o = #[.int .u32 0, .bool false, .bool false, .bool false, .int .i64 0] := by
  subst h; rfl
set_option maxHeartbeats 400000 in
theorem ilay_11 (o : Int) (w : World) (h : o = 47) : Calls Tryz.prog 46 #[.int .i64 o] w (LayIP o w) := by
  unfold LayIP
  rw [layI_11 h]
  subst h
  go_enter Tryz.func46, Tryz.ntmps46
  go_wp2
  exact bodyPost_ret (v := .agg #[.int .u32 0, .bool false, .bool false, .bool false, .int .i64 0]) (by simp [results, Tryz.results46, go_sem]) rfl ⟨rfl, rfl⟩
theorem layI_12 {o : Int} (h : o = 48) : layI o = #[.int .u32 0, .bool false, .bool false, .bool false, .int .i64 0] := by
  subst h; rfl
set_option maxHeartbeats 400000 in
theorem ilay_12 (o : Int) (w : World) (h : o = 48) : Calls Tryz.prog 46 #[.int .i64 o] w (LayIP o w) := by
  unfold LayIP
  rw [layI_12 h]
  subst h
  go_enter Tryz.func46, Tryz.ntmps46
  go_wp2
  exact bodyPost_ret (v := .agg #[.int .u32 0, .bool false, .bool false, .bool false, .int .i64 0]) (by simp [results, Tryz.results46, go_sem]) rfl ⟨rfl, rfl⟩
theorem ilay_any (o : Int) (w : World) (ho : 1 ≤ o ∧ o ≤ 48) : Calls Tryz.prog 46 #[.int .i64 o] w (LayIP o w) := by
  have cs : (1 ≤ o ∧ o ≤ 18) ∨ (19 ≤ o ∧ o ≤ 24) ∨ (25 ≤ o ∧ o ≤ 27) ∨ (28 ≤ o ∧ o ≤ 32) ∨ (33 ≤ o ∧ o ≤ 35) ∨ (36 ≤ o ∧ o ≤ 41) ∨ (o = 42) ∨ (o = 43) ∨ (o = 44) ∨ (o = 45) ∨ (o = 46) ∨ (o = 47) ∨ (o = 48) := by omega
  rcases cs with h | h | h | h | h | h | h | h | h | h | h | h | h
  · exact ilay_0 o w h
  · exact ilay_1 o w h
  · exact ilay_2 o w h
  · exact ilay_3 o w h
  · exact ilay_4 o w h
  · exact ilay_5 o w h
  · exact ilay_6 o w h
  · exact ilay_7 o w h
  · exact ilay_8 o w h
  · exact ilay_9 o w h
  · exact ilay_10 o w h
  · exact ilay_11 o w h
  · exact ilay_12 o w h

theorem putOk_0 {n : Int} {f : Int} (h : f < 1 ∨ 5 < f) : putOk f n = false := by unfold putOk; simp; omega
/-- the number of an instruction of this operation -/
theorem numOk_at {o i : Int} : (o ≤ 18 ∨ 47 ≤ o) ∧ (o ≤ 48) → numOk (formI o) i = decide (i = 0) := by
  rintro ⟨h, h'⟩
  have : formI o = 0 := by
    rcases h with h | h
    · unfold formI; rw [if_pos h]
    · obtain rfl | rfl : o = 47 ∨ o = 48 := by omega
      all_goals rfl
  rw [this]; rfl
def shiftI (o : Int) : Bool := decide (25 ≤ o ∧ o ≤ 27)
set_option maxHeartbeats 400000 in
theorem ishift_any (o : Int) (w : World) : Calls Tryz.prog 47 #[.int .i64 o] w fun e w' => e = .returned (.bool (shiftI o)) ∧ w = w' := by
  by_cases g : 25 ≤ o
  · have e : shiftI o = decide (o ≤ 27) := by unfold shiftI; rw [decide_eq_decide]; omega
    rw [e]
    have h1 : decide (25 ≤ o) = true := by simp; omega
    clear e
    go_enter Tryz.func47, Tryz.ntmps47
    go_wp2
    go_ret
    exact ⟨rfl, rfl⟩
  · have e : shiftI o = false := by unfold shiftI; simp; omega
    rw [e]
    have h1 : decide (25 ≤ o) = false := by simp; omega
    clear e
    go_enter Tryz.func47, Tryz.ntmps47
    go_wp2
    go_ret
    exact ⟨rfl, rfl⟩
end Go.Proofs.YtmlhoagcppofgaaGreatDoor

namespace Go.Proofs.YtmlhoagcppofgaaGreatDoor
open Go Go.RowKit Pl
set_option linter.unusedVariables false

theorem below_trans {w a b : World} (h : Below w.heap.size w a) (k : Below a.heap.size a b) : Below w.heap.size w b := h.trans (k.mono h.size)
def ICanP (x : Q5) (w : World) (e : Ending) (w' : World) : Prop := e = .returned (.bool (canI x)) ∧ Below w.heap.size w w'
theorem ican_mk {x : Q5} {w w' : World} {b : Bool} (h : canI x = b) (hb : Below w.heap.size w w') : ICanP x w (.returned (.bool b)) w' := ⟨by rw [h], hb⟩
end Go.Proofs.YtmlhoagcppofgaaGreatDoor

namespace Go.Proofs.YtmlhoagcppofgaaGreatDoor
open Go Go.RowKit Pl
set_option linter.unusedVariables false

/-- the table of three bits lies in its variable -/
def T3 (w : World) : Prop := (∀ i, i < 49 → w.cell? ⟨0, i, none⟩ = some (.int .u32 (threeL.getD i 0))) ∧ 0 < w.heap.size
theorem T3.later {w w' : World} (h : T3 w) (hb : Below w.heap.size w w') : T3 w' :=
  ⟨fun i hi => (hb.cell h.2).trans (h.1 i hi), Nat.lt_of_lt_of_le h.2 hb.size⟩
theorem T3.at {w : World} (h : T3 w) {o : Int} (ho : 0 ≤ o ∧ o ≤ 48) : w.cell? ⟨0, o.toNat, none⟩ = some (.int .u32 (threeI o)) := h.1 o.toNat (by omega)

theorem u32in {x : Int} (h0 : 0 ≤ x) (h1 : x < 4294967296) : IntKind.u32.wrap x = x := by
  rw [IntKind.wrap_u32]; omega
theorem quiet_eq {f : Nat} {args : Array Value} {v : Value} {w : World} {m : Nat} (h : ∀ W, Calls Tryz.prog f args W fun e w' => e = .returned v ∧ W = w') :
    Calls Tryz.prog f args (w.drewN m) fun e w' => e = .returned v ∧ ∃ j, w' = w.drewN j :=
  (h _).mono fun e w' ⟨he, hm⟩ => ⟨he, m, hm.symm⟩

def EncP (x : Q5) (w : World) (e : Ending) (w' : World) : Prop := e = .returned (.tuple #[.int .u32 (encI x), .bool (canI x)]) ∧ Below w.heap.size w w'
theorem enc_mk {x : Q5} {w w' : World} {n : Int} {b : Bool} (h : canI x = b) (g : encI x = n) (hb : Below w.heap.size w w') : EncP x w (.returned (.tuple #[.int .u32 n, .bool b])) w' := ⟨by rw [h, g], hb⟩
theorem box5 {w w1 : World} {cs : Array Value} {t : TypeId} (hb : Below (w.alloc (.cells cs t)).heap.size (w.alloc (.cells cs t)) w1) :
    (∀ j v, cs[j]? = some v → w1.cell? ⟨w.heap.size, j, none⟩ = some v) ∧ w.heap.size < w1.heap.size ∧ w.heap.size ≤ w1.heap.size ∧ Below w.heap.size w w1 := by
  have hs := hb.size
  simp at hs
  refine ⟨fun j v hv => (hb.cell (p := ⟨w.heap.size, j, none⟩) (by simp)).trans ?_, by omega, by omega, Below.trans (show Below w.heap.size w (w.alloc (.cells cs t)) by go_grown) (hb.mono (by simp))⟩
  rw [World.cell?_alloc_new]
  exact hv
theorem form_nz {o : Int} (h : 19 ≤ o ∧ o ≤ 46) : formL o ≠ 0 := by
  have cs : (19 ≤ o ∧ o ≤ 24) ∨ (25 ≤ o ∧ o ≤ 27) ∨ (28 ≤ o ∧ o ≤ 32) ∨ (33 ≤ o ∧ o ≤ 35) ∨ (36 ≤ o ∧ o ≤ 41) ∨ (o = 42) ∨ (o = 43) ∨ (o = 44) ∨ (o = 45) ∨ (o = 46) := by omega
  unfold formL
  rcases cs with c | c | c | c | c | c | c | c | c | c
  · rw [(cls_1 c).2.2.2.1]; decide
  · rw [(cls_2 c).2.2.2.1]; decide
  · rw [(cls_3 c).2.2.2.1]; decide
  · rw [(cls_4 c).2.2.2.1]; decide
  · rw [(cls_5 c).2.2.2.1]; decide
  · rw [(cls_6 c).2.2.2.1]; decide
  · rw [(cls_7 c).2.2.2.1]; decide
  · rw [(cls_8 c).2.2.2.1]; decide
  · rw [(cls_9 c).2.2.2.1]; decide
  · rw [(cls_10 c).2.2.2.1]; decide
def WrP (x : Q5) (w : World) (e : Ending) (w' : World) : Prop := e = .returned (.int .i64 (writesI x)) ∧ Below w.heap.size w w'
theorem wr_mk {x : Q5} {w w' : World} {n : Int} (g : writesI x = n) (hb : Below w.heap.size w w') : WrP x w (.returned (.int .i64 n)) w' := ⟨by rw [g], hb⟩
end Go.Proofs.YtmlhoagcppofgaaGreatDoor

namespace Go.Proofs.YtmlhoagcppofgaaGreatDoor
open Go Go.RowKit Pl
set_option linter.unusedVariables false

def seqI (f : Nat) : Nat → List Int
  | 0 => []
  | n + 1 => (f : Int) :: seqI (f + 1) n
theorem find_next (t : Int) (f n : Nat) : findI t (seqI f (n + 1)) = if threeI f = t then (f : Int) else findI t (seqI (f + 1) n) := rfl
set_option maxHeartbeats 400000 in
theorem find_any (t : Int) (f n : Nat) (w : World) (ht : T3 w) (hn : f + n ≤ 49) (h1 : 1 ≤ n) :
    Calls Tryz.prog 59 #[.int .u32 t, .int .i64 (f : Int), .int .i64 ((f + n - 1 : Nat) : Int)] w fun e w' => e = .returned (.int .i64 (findI t (seqI f n))) ∧ w = w' := by
  have HT := Lib.hid ht
  clear ht
  obtain ⟨g, hg⟩ : ∃ g, g = f + n - 1 := ⟨_, rfl⟩
  rw [← hg]
  have HG := Lib.hid hg
  have hg2 : g + 1 ≤ f + n := by omega
  have hg3 : f + n ≤ g + 1 := by omega
  clear hg
  go_enter Tryz.func59, Tryz.ntmps59
  go_wp2
  go_loop [7] (fun v => ∃ j : Nat, f ≤ j ∧ j ≤ f + n ∧ v = .int .i64 (j : Int) ∧ findI t (seqI j (f + n - j)) = findI t (seqI f n)) (fun v => 60 - (intOf v).toNat)
  case atStart => exact ⟨f, by omega, by omega, rfl, by rw [show f + n - f = n by omega]⟩
  case round =>
    obtain ⟨j, hj, hk, rfl, hR⟩ := hrel
    have R := Lib.hid hR
    clear hR
    by_cases hlt : j < f + n
    · obtain ⟨m, hm⟩ : ∃ m, f + n - j = m + 1 := ⟨f + n - j - 1, by omega⟩
      have hc := HT.out.1 j (by omega)
      have hm2 : f + n - (j + 1) = m := by omega
      have FN := Lib.hid (find_next t j m)
      have HM := Lib.hid hm
      have HM2 := Lib.hid hm2
      clear hm hm2
      have t1 : decide (j ≤ g) = true := by simp; omega
      have q49 : j < 49 := by omega
      have hth : threeI (j : Int) = threeL.getD j 0 := rfl
      generalize threeL.getD j 0 = q at hc hth
      have HTH := Lib.hid hth
      clear hth
      by_cases he : q = t
      · have e : (q == t) = true := by simpa using he
        have FIN := Lib.hid (show (j : Int) = findI t (seqI f n) by rw [← R.out, HM.out, FN.out, if_pos (HTH.out.trans he)])
        clear he
        go_wp2
        go_ret
        exact ⟨congrArg (fun z => Ending.returned (.int .i64 z)) FIN.out, rfl⟩
      · have e : (q == t) = false := by simpa using he
        have FIN := Lib.hid (show findI t (seqI (j + 1) (f + n - (j + 1))) = findI t (seqI f n) by rw [← R.out, HM.out, FN.out, if_neg (fun h => he (HTH.out.symm.trans h)), HM2.out])
        clear he
        go_wp2
        go_round
        case rel => exact ⟨j + 1, by omega, by omega, by go_num, FIN.out⟩
        case measure => simp [intOf]; omega
    · have t1 : decide (j ≤ g) = false := by simp; omega
      have FIN := Lib.hid (show (0 : Int) = findI t (seqI f n) by rw [← R.out, show f + n - j = 0 by omega]; rfl)
      go_wp2
      go_ret
      exact ⟨congrArg (fun z => Ending.returned (.int .i64 z)) FIN.out, rfl⟩

theorem find_r (t : Int) (w : World) (ht : T3 w) : Calls Tryz.prog 59 #[.int .u32 t, .int .i64 1, .int .i64 10] w fun e w' => e = .returned (.int .i64 (findI t [1, 2, 3, 4, 5, 6, 7, 8, 9, 10])) ∧ w = w' := find_any t 1 10 w ht (by omega) (by omega)
theorem find_i (t : Int) (w : World) (ht : T3 w) : Calls Tryz.prog 59 #[.int .u32 t, .int .i64 19, .int .i64 24] w fun e w' => e = .returned (.int .i64 (findI t [19, 20, 21, 22, 23, 24])) ∧ w = w' := find_any t 19 6 w ht (by omega) (by omega)
theorem find_l (t : Int) (w : World) (ht : T3 w) : Calls Tryz.prog 59 #[.int .u32 t, .int .i64 28, .int .i64 32] w fun e w' => e = .returned (.int .i64 (findI t [28, 29, 30, 31, 32])) ∧ w = w' := find_any t 28 5 w ht (by omega) (by omega)
theorem find_s (t : Int) (w : World) (ht : T3 w) : Calls Tryz.prog 59 #[.int .u32 t, .int .i64 33, .int .i64 35] w fun e w' => e = .returned (.int .i64 (findI t [33, 34, 35])) ∧ w = w' := find_any t 33 3 w ht (by omega) (by omega)
theorem find_b (t : Int) (w : World) (ht : T3 w) : Calls Tryz.prog 59 #[.int .u32 t, .int .i64 36, .int .i64 41] w fun e w' => e = .returned (.int .i64 (findI t [36, 37, 38, 39, 40, 41])) ∧ w = w' := find_any t 36 6 w ht (by omega) (by omega)
theorem find_j (t : Int) (w : World) (ht : T3 w) : Calls Tryz.prog 59 #[.int .u32 t, .int .i64 45, .int .i64 45] w fun e w' => e = .returned (.int .i64 (findI t [45])) ∧ w = w' := find_any t 45 1 w ht (by omega) (by omega)

def ofThreeI (t s : Int) : Int := if s = 1 then 11 + t else if s = 0 then findI t [1, 2, 3, 4, 5, 6, 7, 8, 9, 10] else if s = 32 ∧ t = 0 then 2 else if s = 32 ∧ t = 5 then 8 else 0
def ofNumI (t s : Int) : Int := if t = 1 ∧ s = 0 then 25 else if t = 5 ∧ s = 0 then 26 else if t = 5 ∧ s = 32 then 27 else findI t [19, 20, 21, 22, 23, 24]
theorem ret_op {a b : Int} (h : a = b) : Ending.returned (.int .i64 a) = .returned (.int .i64 b) := by rw [h]
set_option maxHeartbeats 400000 in
theorem ofthree_any (t s : Int) (w : World) (ht : T3 w) (t0 : 0 ≤ t ∧ t < 8) (s0 : 0 ≤ s ∧ s < 128) :
    Calls Tryz.prog 57 #[.int .u32 t, .int .u32 s] w fun e w' => e = .returned (.int .i64 (ofThreeI t s)) ∧ w = w' := by
  have F := Lib.hid (find_r t w ht)
  have c2 := ht.1 2 (by omega)
  have c8 := ht.1 8 (by omega)
  have e2 : threeL.getD 2 0 = 0 := rfl
  have e8 : threeL.getD 8 0 = 5 := rfl
  rw [e2] at c2
  rw [e8] at c8
  clear ht e2 e8
  by_cases h1 : s = 1
  · subst h1
    have E := Lib.hid (show ofThreeI t 1 = 11 + t from rfl)
    go_enter Tryz.func57, Tryz.ntmps57
    go_wp2
    go_ret
    exact ⟨ret_op E.out.symm, rfl⟩
  by_cases h0 : s = 0
  · subst h0
    have E := Lib.hid (show ofThreeI t 0 = findI t [1, 2, 3, 4, 5, 6, 7, 8, 9, 10] from rfl)
    clear h1
    go_enter Tryz.func57, Tryz.ntmps57
    go_wp2_with fail
    refine F.out.mono ?_
    rintro e w1 ⟨rfl, rfl⟩
    go_wp2_with fail
    go_ret
    exact ⟨ret_op E.out.symm, rfl⟩
  have b1 : (s == 1) = false := by simpa using h1
  have b0 : (s == 0) = false := by simpa using h0
  by_cases h3 : s = 32
  · subst h3
    clear h1 h0
    by_cases g0 : t = 0
    · subst g0
      have E := Lib.hid (show ofThreeI 0 32 = 2 from rfl)
      go_enter Tryz.func57, Tryz.ntmps57
      go_wp2
      go_ret
      exact ⟨ret_op E.out.symm, rfl⟩
    have d0 : (t == 0) = false := by simpa using g0
    by_cases g5 : t = 5
    · subst g5
      have E := Lib.hid (show ofThreeI 5 32 = 8 from rfl)
      clear g0
      go_enter Tryz.func57, Tryz.ntmps57
      go_wp2
      go_ret
      exact ⟨ret_op E.out.symm, rfl⟩
    have d5 : (t == 5) = false := by simpa using g5
    have E := Lib.hid (show ofThreeI t 32 = 0 by unfold ofThreeI; rw [if_neg (by omega), if_neg (by omega), if_neg (by omega), if_neg (by omega)])
    clear g0 g5
    go_enter Tryz.func57, Tryz.ntmps57
    go_wp2
    go_ret
    exact ⟨ret_op E.out.symm, rfl⟩
  have b3 : (s == 32) = false := by simpa using h3
  have E := Lib.hid (show ofThreeI t s = 0 by unfold ofThreeI; rw [if_neg (by omega), if_neg (by omega), if_neg (by omega), if_neg (by omega)])
  clear h1 h0 h3
  go_enter Tryz.func57, Tryz.ntmps57
  go_wp2
  go_ret
  exact ⟨ret_op E.out.symm, rfl⟩
set_option maxHeartbeats 400000 in
theorem ofnum_any (t s : Int) (w : World) (ht : T3 w) (t0 : 0 ≤ t ∧ t < 8) (s0 : 0 ≤ s ∧ s < 128) :
    Calls Tryz.prog 58 #[.int .u32 t, .int .u32 s] w fun e w' => e = .returned (.int .i64 (ofNumI t s)) ∧ w = w' := by
  have F := Lib.hid (find_i t w ht)
  have c25 := ht.1 25 (by omega)
  have c26 := ht.1 26 (by omega)
  have c27 := ht.1 27 (by omega)
  have e25 : threeL.getD 25 0 = 1 := rfl
  have e26 : threeL.getD 26 0 = 5 := rfl
  have e27 : threeL.getD 27 0 = 5 := rfl
  rw [e25] at c25
  rw [e26] at c26
  rw [e27] at c27
  clear ht e25 e26 e27
  by_cases g1 : t = 1
  · subst g1
    by_cases h0 : s = 0
    · subst h0
      have E := Lib.hid (show ofNumI 1 0 = 25 from rfl)
      go_enter Tryz.func58, Tryz.ntmps58
      go_wp2
      go_ret
      exact ⟨ret_op E.out.symm, rfl⟩
    have b0 : (s == 0) = false := by simpa using h0
    have E := Lib.hid (show ofNumI 1 s = findI 1 [19, 20, 21, 22, 23, 24] by unfold ofNumI; rw [if_neg (by omega), if_neg (by omega), if_neg (by omega)])
    clear h0
    go_enter Tryz.func58, Tryz.ntmps58
    go_wp2_with fail
    refine F.out.mono ?_
    rintro e w1 ⟨rfl, rfl⟩
    go_wp2_with fail
    go_ret
    exact ⟨ret_op E.out.symm, rfl⟩
  have d1 : (t == 1) = false := by simpa using g1
  by_cases g5 : t = 5
  · subst g5
    by_cases h0 : s = 0
    · subst h0
      have E := Lib.hid (show ofNumI 5 0 = 26 from rfl)
      clear g1
      go_enter Tryz.func58, Tryz.ntmps58
      go_wp2
      go_ret
      exact ⟨ret_op E.out.symm, rfl⟩
    by_cases h3 : s = 32
    · subst h3
      have E := Lib.hid (show ofNumI 5 32 = 27 from rfl)
      clear g1 h0
      go_enter Tryz.func58, Tryz.ntmps58
      go_wp2
      go_ret
      exact ⟨ret_op E.out.symm, rfl⟩
    have b0 : (s == 0) = false := by simpa using h0
    have b3 : (s == 32) = false := by simpa using h3
    have E := Lib.hid (show ofNumI 5 s = findI 5 [19, 20, 21, 22, 23, 24] by unfold ofNumI; rw [if_neg (by omega), if_neg (by omega), if_neg (by omega)])
    clear h0 h3 g1
    go_enter Tryz.func58, Tryz.ntmps58
    go_wp2_with fail
    refine F.out.mono ?_
    rintro e w1 ⟨rfl, rfl⟩
    go_wp2_with fail
    go_ret
    exact ⟨ret_op E.out.symm, rfl⟩
  have d5 : (t == 5) = false := by simpa using g5
  have E := Lib.hid (show ofNumI t s = findI t [19, 20, 21, 22, 23, 24] by unfold ofNumI; rw [if_neg (by omega), if_neg (by omega), if_neg (by omega)])
  clear g1 g5
  go_enter Tryz.func58, Tryz.ntmps58
  go_wp2_with fail
  refine F.out.mono ?_
  rintro e w1 ⟨rfl, rfl⟩
  go_wp2_with fail
  go_ret
  exact ⟨ret_op E.out.symm, rfl⟩
theorem and7 {b : Int} (h0 : 0 ≤ b) (h1 : b < 4294967296) : bits .and .u32 b 7 = b % 8 := by
  rw [u32_and b 7 h0 h1 (by omega) (by omega)]
  have : (7 : Int).toNat = 2 ^ 3 - 1 := rfl
  rw [this, Nat.and_two_pow_sub_one_eq_mod]
  omega
theorem and127 {b : Int} (h0 : 0 ≤ b) (h1 : b < 4294967296) : bits .and .u32 b 127 = b % 128 := by
  rw [u32_and b 127 h0 h1 (by omega) (by omega)]
  have : (127 : Int).toNat = 2 ^ 7 - 1 := rfl
  rw [this, Nat.and_two_pow_sub_one_eq_mod]
  omega

set_option maxHeartbeats 400000 in
theorem oper_51 (w : Int) (W : World) (ht : T3 W) (h0 : 0 ≤ w) (h1 : w < 4294967296) (hc : w % 128 = 51) :
    Calls Tryz.prog 45 #[.int .u32 w] W fun e w' => e = .returned (.int .i64 (opI w)) ∧ W = w' := by
  have E := Lib.hid (show opI w = ofThreeI (w / 4096 % 8) (w / 33554432) by unfold opI; rw [if_pos hc]; rfl)
  have a7 := and7 (b := w / 4096) (by omega) (by omega)
  have a127 := and127 (b := w) h0 h1
  have y : (w % 128 == 51) = true := by simp; omega
  have F := Lib.hid (ofthree_any (w / 4096 % 8) (w / 33554432) W ht (by omega) (by omega))
  clear hc ht
  go_enter Tryz.func45, Tryz.ntmps45
  go_wp2_with fail
  refine F.out.mono ?_
  rintro e w1 ⟨rfl, rfl⟩
  go_wp2_with fail
  go_ret
  exact ⟨ret_op E.out.symm, rfl⟩
set_option maxHeartbeats 400000 in
theorem oper_19 (w : Int) (W : World) (ht : T3 W) (h0 : 0 ≤ w) (h1 : w < 4294967296) (hc : w % 128 = 19) :
    Calls Tryz.prog 45 #[.int .u32 w] W fun e w' => e = .returned (.int .i64 (opI w)) ∧ W = w' := by
  have E := Lib.hid (show opI w = ofNumI (w / 4096 % 8) (w / 33554432) by unfold opI; rw [if_neg (by omega), if_pos hc]; rfl)
  have a7 := and7 (b := w / 4096) (by omega) (by omega)
  have a127 := and127 (b := w) h0 h1
  have n51 : (w % 128 == 51) = false := by simp; omega
  have y : (w % 128 == 19) = true := by simp; omega
  have F := Lib.hid (ofnum_any (w / 4096 % 8) (w / 33554432) W ht (by omega) (by omega))
  clear hc ht
  go_enter Tryz.func45, Tryz.ntmps45
  go_wp2_with fail
  refine F.out.mono ?_
  rintro e w1 ⟨rfl, rfl⟩
  go_wp2_with fail
  go_ret
  exact ⟨ret_op E.out.symm, rfl⟩
set_option maxHeartbeats 400000 in
theorem oper_3 (w : Int) (W : World) (ht : T3 W) (h0 : 0 ≤ w) (h1 : w < 4294967296) (hc : w % 128 = 3) :
    Calls Tryz.prog 45 #[.int .u32 w] W fun e w' => e = .returned (.int .i64 (opI w)) ∧ W = w' := by
  have E := Lib.hid (show opI w = findI (w / 4096 % 8) [28, 29, 30, 31, 32] by unfold opI; rw [if_neg (by omega), if_neg (by omega), if_pos hc])
  have a7 := and7 (b := w / 4096) (by omega) (by omega)
  have a127 := and127 (b := w) h0 h1
  have n51 : (w % 128 == 51) = false := by simp; omega
  have n19 : (w % 128 == 19) = false := by simp; omega
  have y : (w % 128 == 3) = true := by simp; omega
  have F := Lib.hid (find_l (w / 4096 % 8) W ht)
  clear hc ht
  go_enter Tryz.func45, Tryz.ntmps45
  go_wp2_with fail
  refine F.out.mono ?_
  rintro e w1 ⟨rfl, rfl⟩
  go_wp2_with fail
  go_ret
  exact ⟨ret_op E.out.symm, rfl⟩
set_option maxHeartbeats 400000 in
theorem oper_35 (w : Int) (W : World) (ht : T3 W) (h0 : 0 ≤ w) (h1 : w < 4294967296) (hc : w % 128 = 35) :
    Calls Tryz.prog 45 #[.int .u32 w] W fun e w' => e = .returned (.int .i64 (opI w)) ∧ W = w' := by
  have E := Lib.hid (show opI w = findI (w / 4096 % 8) [33, 34, 35] by unfold opI; rw [if_neg (by omega), if_neg (by omega), if_neg (by omega), if_pos hc])
  have a7 := and7 (b := w / 4096) (by omega) (by omega)
  have a127 := and127 (b := w) h0 h1
  have n51 : (w % 128 == 51) = false := by simp; omega
  have n19 : (w % 128 == 19) = false := by simp; omega
  have n3 : (w % 128 == 3) = false := by simp; omega
  have y : (w % 128 == 35) = true := by simp; omega
  have F := Lib.hid (find_s (w / 4096 % 8) W ht)
  clear hc ht
  go_enter Tryz.func45, Tryz.ntmps45
  go_wp2_with fail
  refine F.out.mono ?_
  rintro e w1 ⟨rfl, rfl⟩
  go_wp2_with fail
  go_ret
  exact ⟨ret_op E.out.symm, rfl⟩
set_option maxHeartbeats 400000 in
theorem oper_99 (w : Int) (W : World) (ht : T3 W) (h0 : 0 ≤ w) (h1 : w < 4294967296) (hc : w % 128 = 99) :
    Calls Tryz.prog 45 #[.int .u32 w] W fun e w' => e = .returned (.int .i64 (opI w)) ∧ W = w' := by
  have E := Lib.hid (show opI w = findI (w / 4096 % 8) [36, 37, 38, 39, 40, 41] by unfold opI; rw [if_neg (by omega), if_neg (by omega), if_neg (by omega), if_neg (by omega), if_pos hc])
  have a7 := and7 (b := w / 4096) (by omega) (by omega)
  have a127 := and127 (b := w) h0 h1
  have n51 : (w % 128 == 51) = false := by simp; omega
  have n19 : (w % 128 == 19) = false := by simp; omega
  have n3 : (w % 128 == 3) = false := by simp; omega
  have n35 : (w % 128 == 35) = false := by simp; omega
  have y : (w % 128 == 99) = true := by simp; omega
  have F := Lib.hid (find_b (w / 4096 % 8) W ht)
  clear hc ht
  go_enter Tryz.func45, Tryz.ntmps45
  go_wp2_with fail
  refine F.out.mono ?_
  rintro e w1 ⟨rfl, rfl⟩
  go_wp2_with fail
  go_ret
  exact ⟨ret_op E.out.symm, rfl⟩
set_option maxHeartbeats 400000 in
theorem oper_55 (w : Int) (W : World) (ht : T3 W) (h0 : 0 ≤ w) (h1 : w < 4294967296) (hc : w % 128 = 55) :
    Calls Tryz.prog 45 #[.int .u32 w] W fun e w' => e = .returned (.int .i64 (opI w)) ∧ W = w' := by
  have E := Lib.hid (show opI w = 42 by unfold opI; rw [if_neg (by omega), if_neg (by omega), if_neg (by omega), if_neg (by omega), if_neg (by omega), if_pos hc])
  have a7 := and7 (b := w / 4096) (by omega) (by omega)
  have a127 := and127 (b := w) h0 h1
  have n51 : (w % 128 == 51) = false := by simp; omega
  have n19 : (w % 128 == 19) = false := by simp; omega
  have n3 : (w % 128 == 3) = false := by simp; omega
  have n35 : (w % 128 == 35) = false := by simp; omega
  have n99 : (w % 128 == 99) = false := by simp; omega
  have y : (w % 128 == 55) = true := by simp; omega
  clear hc ht
  go_enter Tryz.func45, Tryz.ntmps45
  go_wp2_with fail
  go_ret
  exact ⟨ret_op E.out.symm, rfl⟩
set_option maxHeartbeats 400000 in
theorem oper_23 (w : Int) (W : World) (ht : T3 W) (h0 : 0 ≤ w) (h1 : w < 4294967296) (hc : w % 128 = 23) :
    Calls Tryz.prog 45 #[.int .u32 w] W fun e w' => e = .returned (.int .i64 (opI w)) ∧ W = w' := by
  have E := Lib.hid (show opI w = 43 by unfold opI; rw [if_neg (by omega), if_neg (by omega), if_neg (by omega), if_neg (by omega), if_neg (by omega), if_neg (by omega), if_pos hc])
  have a7 := and7 (b := w / 4096) (by omega) (by omega)
  have a127 := and127 (b := w) h0 h1
  have n51 : (w % 128 == 51) = false := by simp; omega
  have n19 : (w % 128 == 19) = false := by simp; omega
  have n3 : (w % 128 == 3) = false := by simp; omega
  have n35 : (w % 128 == 35) = false := by simp; omega
  have n99 : (w % 128 == 99) = false := by simp; omega
  have n55 : (w % 128 == 55) = false := by simp; omega
  have y : (w % 128 == 23) = true := by simp; omega
  clear hc ht
  go_enter Tryz.func45, Tryz.ntmps45
  go_wp2_with fail
  go_ret
  exact ⟨ret_op E.out.symm, rfl⟩
set_option maxHeartbeats 400000 in
theorem oper_111 (w : Int) (W : World) (ht : T3 W) (h0 : 0 ≤ w) (h1 : w < 4294967296) (hc : w % 128 = 111) :
    Calls Tryz.prog 45 #[.int .u32 w] W fun e w' => e = .returned (.int .i64 (opI w)) ∧ W = w' := by
  have E := Lib.hid (show opI w = 44 by unfold opI; rw [if_neg (by omega), if_neg (by omega), if_neg (by omega), if_neg (by omega), if_neg (by omega), if_neg (by omega), if_neg (by omega), if_pos hc])
  have a7 := and7 (b := w / 4096) (by omega) (by omega)
  have a127 := and127 (b := w) h0 h1
  have n51 : (w % 128 == 51) = false := by simp; omega
  have n19 : (w % 128 == 19) = false := by simp; omega
  have n3 : (w % 128 == 3) = false := by simp; omega
  have n35 : (w % 128 == 35) = false := by simp; omega
  have n99 : (w % 128 == 99) = false := by simp; omega
  have n55 : (w % 128 == 55) = false := by simp; omega
  have n23 : (w % 128 == 23) = false := by simp; omega
  have y : (w % 128 == 111) = true := by simp; omega
  clear hc ht
  go_enter Tryz.func45, Tryz.ntmps45
  go_wp2_with fail
  go_ret
  exact ⟨ret_op E.out.symm, rfl⟩
set_option maxHeartbeats 400000 in
theorem oper_103 (w : Int) (W : World) (ht : T3 W) (h0 : 0 ≤ w) (h1 : w < 4294967296) (hc : w % 128 = 103) :
    Calls Tryz.prog 45 #[.int .u32 w] W fun e w' => e = .returned (.int .i64 (opI w)) ∧ W = w' := by
  have E := Lib.hid (show opI w = findI (w / 4096 % 8) [45] by unfold opI; rw [if_neg (by omega), if_neg (by omega), if_neg (by omega), if_neg (by omega), if_neg (by omega), if_neg (by omega), if_neg (by omega), if_neg (by omega), if_pos hc])
  have a7 := and7 (b := w / 4096) (by omega) (by omega)
  have a127 := and127 (b := w) h0 h1
  have n51 : (w % 128 == 51) = false := by simp; omega
  have n19 : (w % 128 == 19) = false := by simp; omega
  have n3 : (w % 128 == 3) = false := by simp; omega
  have n35 : (w % 128 == 35) = false := by simp; omega
  have n99 : (w % 128 == 99) = false := by simp; omega
  have n55 : (w % 128 == 55) = false := by simp; omega
  have n23 : (w % 128 == 23) = false := by simp; omega
  have n111 : (w % 128 == 111) = false := by simp; omega
  have y : (w % 128 == 103) = true := by simp; omega
  have F := Lib.hid (find_j (w / 4096 % 8) W ht)
  clear hc ht
  go_enter Tryz.func45, Tryz.ntmps45
  go_wp2_with fail
  refine F.out.mono ?_
  rintro e w1 ⟨rfl, rfl⟩
  go_wp2_with fail
  go_ret
  exact ⟨ret_op E.out.symm, rfl⟩
set_option maxHeartbeats 400000 in
theorem oper_15y (w : Int) (W : World) (ht : T3 W) (h0 : 0 ≤ w) (h1 : w < 4294967296) (hc : w % 128 = 15) (hm : w % 1048576 = 15) :
    Calls Tryz.prog 45 #[.int .u32 w] W fun e w' => e = .returned (.int .i64 (opI w)) ∧ W = w' := by
  have E := Lib.hid (show opI w = 46 by unfold opI; rw [if_neg (by omega), if_neg (by omega), if_neg (by omega), if_neg (by omega), if_neg (by omega), if_neg (by omega), if_neg (by omega), if_neg (by omega), if_neg (by omega), if_pos hc, if_pos hm])
  have a7 := and7 (b := w / 4096) (by omega) (by omega)
  have a127 := and127 (b := w) h0 h1
  have n51 : (w % 128 == 51) = false := by simp; omega
  have n19 : (w % 128 == 19) = false := by simp; omega
  have n3 : (w % 128 == 3) = false := by simp; omega
  have n35 : (w % 128 == 35) = false := by simp; omega
  have n99 : (w % 128 == 99) = false := by simp; omega
  have n55 : (w % 128 == 55) = false := by simp; omega
  have n23 : (w % 128 == 23) = false := by simp; omega
  have n111 : (w % 128 == 111) = false := by simp; omega
  have n103 : (w % 128 == 103) = false := by simp; omega
  have y : (w % 128 == 15) = true := by simp; omega
  have sh : (w * 4096 % 4294967296 == 61440) = true := by simp; omega
  clear hc hm ht
  go_enter Tryz.func45, Tryz.ntmps45
  go_wp2_with fail
  go_ret
  exact ⟨ret_op E.out.symm, rfl⟩
set_option maxHeartbeats 400000 in
theorem oper_15n (w : Int) (W : World) (ht : T3 W) (h0 : 0 ≤ w) (h1 : w < 4294967296) (hc : w % 128 = 15) (hm : w % 1048576 ≠ 15) :
    Calls Tryz.prog 45 #[.int .u32 w] W fun e w' => e = .returned (.int .i64 (opI w)) ∧ W = w' := by
  have E := Lib.hid (show opI w = 0 by unfold opI; rw [if_neg (by omega), if_neg (by omega), if_neg (by omega), if_neg (by omega), if_neg (by omega), if_neg (by omega), if_neg (by omega), if_neg (by omega), if_neg (by omega), if_pos hc, if_neg hm])
  have a7 := and7 (b := w / 4096) (by omega) (by omega)
  have a127 := and127 (b := w) h0 h1
  have n51 : (w % 128 == 51) = false := by simp; omega
  have n19 : (w % 128 == 19) = false := by simp; omega
  have n3 : (w % 128 == 3) = false := by simp; omega
  have n35 : (w % 128 == 35) = false := by simp; omega
  have n99 : (w % 128 == 99) = false := by simp; omega
  have n55 : (w % 128 == 55) = false := by simp; omega
  have n23 : (w % 128 == 23) = false := by simp; omega
  have n111 : (w % 128 == 111) = false := by simp; omega
  have n103 : (w % 128 == 103) = false := by simp; omega
  have y : (w % 128 == 15) = true := by simp; omega
  have sh : (w * 4096 % 4294967296 == 61440) = false := by simp; omega
  have m1 : (w == 115) = false := by simp; omega
  have m2 : (w == 1048691) = false := by simp; omega
  clear hc hm ht
  go_enter Tryz.func45, Tryz.ntmps45
  go_wp2_with fail
  go_ret
  exact ⟨ret_op E.out.symm, rfl⟩
set_option maxHeartbeats 400000 in
theorem oper_no115 (w : Int) (W : World) (ht : T3 W) (h0 : 0 ≤ w) (h1 : w < 4294967296) (h51 : w % 128 ≠ 51) (h19 : w % 128 ≠ 19) (h3 : w % 128 ≠ 3) (h35 : w % 128 ≠ 35) (h99 : w % 128 ≠ 99) (h55 : w % 128 ≠ 55) (h23 : w % 128 ≠ 23) (h111 : w % 128 ≠ 111) (h103 : w % 128 ≠ 103) (h15 : w % 128 ≠ 15) (hw : w = 115) :
    Calls Tryz.prog 45 #[.int .u32 w] W fun e w' => e = .returned (.int .i64 (opI w)) ∧ W = w' := by
  have E := Lib.hid (show opI w = 47 by unfold opI; rw [if_neg (by omega), if_neg (by omega), if_neg (by omega), if_neg (by omega), if_neg (by omega), if_neg (by omega), if_neg (by omega), if_neg (by omega), if_neg (by omega), if_neg (by omega), if_pos hw])
  have a7 := and7 (b := w / 4096) (by omega) (by omega)
  have a127 := and127 (b := w) h0 h1
  have n51 : (w % 128 == 51) = false := by simp; omega
  have n19 : (w % 128 == 19) = false := by simp; omega
  have n3 : (w % 128 == 3) = false := by simp; omega
  have n35 : (w % 128 == 35) = false := by simp; omega
  have n99 : (w % 128 == 99) = false := by simp; omega
  have n55 : (w % 128 == 55) = false := by simp; omega
  have n23 : (w % 128 == 23) = false := by simp; omega
  have n111 : (w % 128 == 111) = false := by simp; omega
  have n103 : (w % 128 == 103) = false := by simp; omega
  have n15 : (w % 128 == 15) = false := by simp; omega
  have m1 : (w == 115) = true := by simp; omega
  clear hw h51 h19 h3 h35 h99 h55 h23 h111 h103 h15 ht
  go_enter Tryz.func45, Tryz.ntmps45
  go_wp2_with fail
  go_ret
  exact ⟨ret_op E.out.symm, rfl⟩
set_option maxHeartbeats 400000 in
theorem oper_no1048691 (w : Int) (W : World) (ht : T3 W) (h0 : 0 ≤ w) (h1 : w < 4294967296) (h51 : w % 128 ≠ 51) (h19 : w % 128 ≠ 19) (h3 : w % 128 ≠ 3) (h35 : w % 128 ≠ 35) (h99 : w % 128 ≠ 99) (h55 : w % 128 ≠ 55) (h23 : w % 128 ≠ 23) (h111 : w % 128 ≠ 111) (h103 : w % 128 ≠ 103) (h15 : w % 128 ≠ 15) (hw : w = 1048691) :
    Calls Tryz.prog 45 #[.int .u32 w] W fun e w' => e = .returned (.int .i64 (opI w)) ∧ W = w' := by
  have E := Lib.hid (show opI w = 48 by unfold opI; rw [if_neg (by omega), if_neg (by omega), if_neg (by omega), if_neg (by omega), if_neg (by omega), if_neg (by omega), if_neg (by omega), if_neg (by omega), if_neg (by omega), if_neg (by omega), if_neg (by omega), if_pos hw])
  have a7 := and7 (b := w / 4096) (by omega) (by omega)
  have a127 := and127 (b := w) h0 h1
  have n51 : (w % 128 == 51) = false := by simp; omega
  have n19 : (w % 128 == 19) = false := by simp; omega
  have n3 : (w % 128 == 3) = false := by simp; omega
  have n35 : (w % 128 == 35) = false := by simp; omega
  have n99 : (w % 128 == 99) = false := by simp; omega
  have n55 : (w % 128 == 55) = false := by simp; omega
  have n23 : (w % 128 == 23) = false := by simp; omega
  have n111 : (w % 128 == 111) = false := by simp; omega
  have n103 : (w % 128 == 103) = false := by simp; omega
  have n15 : (w % 128 == 15) = false := by simp; omega
  have m1 : (w == 115) = false := by simp; omega
  have m2 : (w == 1048691) = true := by simp; omega
  clear hw h51 h19 h3 h35 h99 h55 h23 h111 h103 h15 ht
  go_enter Tryz.func45, Tryz.ntmps45
  go_wp2_with fail
  go_ret
  exact ⟨ret_op E.out.symm, rfl⟩
set_option maxHeartbeats 400000 in
theorem oper_no0 (w : Int) (W : World) (ht : T3 W) (h0 : 0 ≤ w) (h1 : w < 4294967296) (h51 : w % 128 ≠ 51) (h19 : w % 128 ≠ 19) (h3 : w % 128 ≠ 3) (h35 : w % 128 ≠ 35) (h99 : w % 128 ≠ 99) (h55 : w % 128 ≠ 55) (h23 : w % 128 ≠ 23) (h111 : w % 128 ≠ 111) (h103 : w % 128 ≠ 103) (h15 : w % 128 ≠ 15) (hw : w ≠ 115) (hw2 : w ≠ 1048691) :
    Calls Tryz.prog 45 #[.int .u32 w] W fun e w' => e = .returned (.int .i64 (opI w)) ∧ W = w' := by
  have E := Lib.hid (show opI w = 0 by unfold opI; rw [if_neg (by omega), if_neg (by omega), if_neg (by omega), if_neg (by omega), if_neg (by omega), if_neg (by omega), if_neg (by omega), if_neg (by omega), if_neg (by omega), if_neg (by omega), if_neg hw, if_neg hw2])
  have a7 := and7 (b := w / 4096) (by omega) (by omega)
  have a127 := and127 (b := w) h0 h1
  have n51 : (w % 128 == 51) = false := by simp; omega
  have n19 : (w % 128 == 19) = false := by simp; omega
  have n3 : (w % 128 == 3) = false := by simp; omega
  have n35 : (w % 128 == 35) = false := by simp; omega
  have n99 : (w % 128 == 99) = false := by simp; omega
  have n55 : (w % 128 == 55) = false := by simp; omega
  have n23 : (w % 128 == 23) = false := by simp; omega
  have n111 : (w % 128 == 111) = false := by simp; omega
  have n103 : (w % 128 == 103) = false := by simp; omega
  have n15 : (w % 128 == 15) = false := by simp; omega
  have m1 : (w == 115) = false := by simp; omega
  have m2 : (w == 1048691) = false := by simp; omega
  clear hw hw2 h51 h19 h3 h35 h99 h55 h23 h111 h103 h15 ht
  go_enter Tryz.func45, Tryz.ntmps45
  go_wp2_with fail
  go_ret
  exact ⟨ret_op E.out.symm, rfl⟩
theorem oper_any (w : Int) (W : World) (ht : T3 W) (h0 : 0 ≤ w) (h1 : w < 4294967296) :
    Calls Tryz.prog 45 #[.int .u32 w] W fun e w' => e = .returned (.int .i64 (opI w)) ∧ W = w' := by
  by_cases h51 : w % 128 = 51
  · exact oper_51 w W ht h0 h1 h51
  by_cases h19 : w % 128 = 19
  · exact oper_19 w W ht h0 h1 h19
  by_cases h3 : w % 128 = 3
  · exact oper_3 w W ht h0 h1 h3
  by_cases h35 : w % 128 = 35
  · exact oper_35 w W ht h0 h1 h35
  by_cases h99 : w % 128 = 99
  · exact oper_99 w W ht h0 h1 h99
  by_cases h55 : w % 128 = 55
  · exact oper_55 w W ht h0 h1 h55
  by_cases h23 : w % 128 = 23
  · exact oper_23 w W ht h0 h1 h23
  by_cases h111 : w % 128 = 111
  · exact oper_111 w W ht h0 h1 h111
  by_cases h103 : w % 128 = 103
  · exact oper_103 w W ht h0 h1 h103
  by_cases h15 : w % 128 = 15
  · by_cases hm : w % 1048576 = 15
    · exact oper_15y w W ht h0 h1 h15 hm
    · exact oper_15n w W ht h0 h1 h15 hm
  by_cases m1 : w = 115
  · exact oper_no115 w W ht h0 h1 h51 h19 h3 h35 h99 h55 h23 h111 h103 h15 m1
  by_cases m2 : w = 1048691
  · exact oper_no1048691 w W ht h0 h1 h51 h19 h3 h35 h99 h55 h23 h111 h103 h15 m2
  exact oper_no0 w W ht h0 h1 h51 h19 h3 h35 h99 h55 h23 h111 h103 h15 m1 m2
end Go.Proofs.YtmlhoagcppofgaaGreatDoor

namespace Go.Proofs.YtmlhoagcppofgaaGreatDoor
open Go Go.RowKit Pl
set_option linter.unusedVariables false

def decI (w : Int) : Q5 := if opI w = 0 then ⟨0, 0, 0, 0, 0⟩ else recI (opI w) w
def okI (w : Int) : Bool := decide (opI w ≠ 0)
def agg5 (x : Q5) : Value := .agg #[.int .i64 x.o, .int .i64 x.d, .int .i64 x.a, .int .i64 x.b, .int .i32 x.i]
def DecP (w : Int) (W : World) (e : Ending) (W' : World) : Prop := e = .returned (.tuple #[agg5 (decI w), .bool (okI w)]) ∧ Below W.heap.size W W'
theorem dec_mk {w o d a b i : Int} {W W' : World} (h : decI w = ⟨o, d, a, b, i⟩) (g : okI w = true) (hb : Below W.heap.size W W') : DecP w W (.returned (.tuple #[.agg #[.int .i64 o, .int .i64 d, .int .i64 a, .int .i64 b, .int .i32 i], .bool true])) W' := by
  refine ⟨?_, hb⟩; rw [h, g]; rfl
theorem dec_none {w : Int} {W W' : World} (h : opI w = 0) (hb : Below W.heap.size W W') : DecP w W (.returned (.tuple #[.agg #[.int .i64 0, .int .i64 0, .int .i64 0, .int .i64 0, .int .i32 0], .bool false])) W' := by
  refine ⟨?_, hb⟩
  have h1 : decI w = ⟨0, 0, 0, 0, 0⟩ := by unfold decI; rw [if_pos h]
  have h2 : okI w = false := by unfold okI; simp [h]
  rw [h1, h2]; rfl
set_option maxHeartbeats 400000 in
theorem dec_no (w : Int) (W : World) (ht : T3 W) (h0 : 0 ≤ w) (h1 : w < 4294967296) (h : opI w = 0) :
    Calls Tryz.prog 28 #[.int .u32 w] W (DecP w W) := by
  have OP := Lib.hid (oper_any w · · h0 h1)
  have H := Lib.hid h
  have HT := Lib.hid ht
  clear h ht
  go_enter Tryz.func28, Tryz.ntmps28
  go_wp2_with fail
  refine (OP.out _ (HT.out.later (by go_grown))).mono ?_
  rw [H.out]
  rintro e w1 ⟨rfl, rfl⟩
  go_wp2_with fail
  exact bodyPost_ret (v := .tuple #[.agg #[.int .i64 0, .int .i64 0, .int .i64 0, .int .i64 0, .int .i32 0], .bool false]) (by simp [results, Tryz.results28, go_sem]) rfl (dec_none H.out (by go_grown))

set_option maxHeartbeats 1000000 in
theorem dec_0 (o w : Int) (W : World) (ht : T3 W) (h0 : 0 ≤ w) (h1 : w < 4294967296) (h : opI w = o) (c : 1 ≤ o ∧ o ≤ 18) :
    Calls Tryz.prog 28 #[.int .u32 w] W (DecP w W) := by
  have R := Lib.hid (show decI w = ⟨o, w / 128 % 32, w / 32768 % 32, w / 1048576 % 32, 0⟩ by
    unfold decI
    rw [h, if_neg (by omega)]
    unfold recI
    rw [(cls_0 c).1, (cls_0 c).2.1, (cls_0 c).2.2.1, (cls_0 c).2.2.2.1]
    rfl)
  have K := Lib.hid (show okI w = true by unfold okI; rw [h]; simp; omega)
  have OP := Lib.hid (oper_any w · · h0 h1)
  have LI := Lib.hid (layI_0 c)
  have LY := Lib.hid (ilay_any o · (by omega))
  have SH := Lib.hid (show shiftI o = false by unfold shiftI; simp; omega)
  have z : (o == 0) = false := by simp; omega
  have p1 := and31 (b := w / 128) (by omega) (by omega)
  have p2 := and31 (b := w / 32768) (by omega) (by omega)
  have p3 := and31 (b := w / 1048576) (by omega) (by omega)
  have H := Lib.hid h
  have HT := Lib.hid ht
  clear h ht
  go_enter Tryz.func28, Tryz.ntmps28
  go_wp2_with fail
  refine (OP.out _ (HT.out.later (by go_grown))).mono ?_
  rw [H.out]
  rintro e w1 ⟨rfl, rfl⟩
  go_wp2_with (first | (go_at_call 46; refine (LY.out _).mono ?_; unfold LayIP; rw [LI.out]; rintro e w1 ⟨rfl, rfl⟩) | (go_at_call 47; refine (ishift_any _ _).mono ?_; rw [SH.out]; rintro e w1 ⟨rfl, rfl⟩) | (go_at_call 48; refine (imm_get _ _ _ h0 h1).mono ?_; rintro e w1 ⟨rfl, rfl⟩))
  exact bodyPost_ret (v := .tuple #[.agg #[.int .i64 o, .int .i64 (w / 128 % 32), .int .i64 (w / 32768 % 32), .int .i64 (w / 1048576 % 32), .int .i32 (0)], .bool true]) (by simp [results, Tryz.results28, go_sem]) rfl (dec_mk R.out K.out (by go_grown))
set_option maxHeartbeats 1000000 in
theorem dec_1 (o w : Int) (W : World) (ht : T3 W) (h0 : 0 ≤ w) (h1 : w < 4294967296) (h : opI w = o) (c : 19 ≤ o ∧ o ≤ 24) :
    Calls Tryz.prog 28 #[.int .u32 w] W (DecP w W) := by
  have R := Lib.hid (show decI w = ⟨o, w / 128 % 32, w / 32768 % 32, 0, getS 1 w⟩ by
    unfold decI
    rw [h, if_neg (by omega)]
    unfold recI
    rw [(cls_1 c).1, (cls_1 c).2.1, (cls_1 c).2.2.1, (cls_1 c).2.2.2.1]
    rfl)
  have K := Lib.hid (show okI w = true by unfold okI; rw [h]; simp; omega)
  have OP := Lib.hid (oper_any w · · h0 h1)
  have LI := Lib.hid (layI_1 c)
  have LY := Lib.hid (ilay_any o · (by omega))
  have SH := Lib.hid (show shiftI o = false by unfold shiftI; simp; omega)
  have z : (o == 0) = false := by simp; omega
  have p1 := and31 (b := w / 128) (by omega) (by omega)
  have p2 := and31 (b := w / 32768) (by omega) (by omega)
  have p3 := and31 (b := w / 1048576) (by omega) (by omega)
  have H := Lib.hid h
  have HT := Lib.hid ht
  clear h ht
  go_enter Tryz.func28, Tryz.ntmps28
  go_wp2_with fail
  refine (OP.out _ (HT.out.later (by go_grown))).mono ?_
  rw [H.out]
  rintro e w1 ⟨rfl, rfl⟩
  go_wp2_with (first | (go_at_call 46; refine (LY.out _).mono ?_; unfold LayIP; rw [LI.out]; rintro e w1 ⟨rfl, rfl⟩) | (go_at_call 47; refine (ishift_any _ _).mono ?_; rw [SH.out]; rintro e w1 ⟨rfl, rfl⟩) | (go_at_call 48; refine (imm_get _ _ _ h0 h1).mono ?_; rintro e w1 ⟨rfl, rfl⟩))
  exact bodyPost_ret (v := .tuple #[.agg #[.int .i64 o, .int .i64 (w / 128 % 32), .int .i64 (w / 32768 % 32), .int .i64 (0), .int .i32 (getS 1 w)], .bool true]) (by simp [results, Tryz.results28, go_sem]) rfl (dec_mk R.out K.out (by go_grown))
set_option maxHeartbeats 1000000 in
theorem dec_2 (o w : Int) (W : World) (ht : T3 W) (h0 : 0 ≤ w) (h1 : w < 4294967296) (h : opI w = o) (c : 25 ≤ o ∧ o ≤ 27) :
    Calls Tryz.prog 28 #[.int .u32 w] W (DecP w W) := by
  have R := Lib.hid (show decI w = ⟨o, w / 128 % 32, w / 32768 % 32, 0, w / 1048576 % 32⟩ by
    unfold decI
    rw [h, if_neg (by omega)]
    unfold recI
    rw [(cls_2 c).1, (cls_2 c).2.1, (cls_2 c).2.2.1, (cls_2 c).2.2.2.1]
    rfl)
  have K := Lib.hid (show okI w = true by unfold okI; rw [h]; simp; omega)
  have OP := Lib.hid (oper_any w · · h0 h1)
  have LI := Lib.hid (layI_2 c)
  have LY := Lib.hid (ilay_any o · (by omega))
  have SH := Lib.hid (show shiftI o = true by unfold shiftI; simp; omega)
  have z : (o == 0) = false := by simp; omega
  have p1 := and31 (b := w / 128) (by omega) (by omega)
  have p2 := and31 (b := w / 32768) (by omega) (by omega)
  have p3 := and31 (b := w / 1048576) (by omega) (by omega)
  have H := Lib.hid h
  have HT := Lib.hid ht
  clear h ht
  go_enter Tryz.func28, Tryz.ntmps28
  go_wp2_with fail
  refine (OP.out _ (HT.out.later (by go_grown))).mono ?_
  rw [H.out]
  rintro e w1 ⟨rfl, rfl⟩
  go_wp2_with (first | (go_at_call 46; refine (LY.out _).mono ?_; unfold LayIP; rw [LI.out]; rintro e w1 ⟨rfl, rfl⟩) | (go_at_call 47; refine (ishift_any _ _).mono ?_; rw [SH.out]; rintro e w1 ⟨rfl, rfl⟩) | (go_at_call 48; refine (imm_get _ _ _ h0 h1).mono ?_; rintro e w1 ⟨rfl, rfl⟩))
  exact bodyPost_ret (v := .tuple #[.agg #[.int .i64 o, .int .i64 (w / 128 % 32), .int .i64 (w / 32768 % 32), .int .i64 (0), .int .i32 (w / 1048576 % 32)], .bool true]) (by simp [results, Tryz.results28, go_sem]) rfl (dec_mk R.out K.out (by go_grown))
set_option maxHeartbeats 1000000 in
theorem dec_3 (o w : Int) (W : World) (ht : T3 W) (h0 : 0 ≤ w) (h1 : w < 4294967296) (h : opI w = o) (c : 28 ≤ o ∧ o ≤ 32) :
    Calls Tryz.prog 28 #[.int .u32 w] W (DecP w W) := by
  have R := Lib.hid (show decI w = ⟨o, w / 128 % 32, w / 32768 % 32, 0, getS 1 w⟩ by
    unfold decI
    rw [h, if_neg (by omega)]
    unfold recI
    rw [(cls_3 c).1, (cls_3 c).2.1, (cls_3 c).2.2.1, (cls_3 c).2.2.2.1]
    rfl)
  have K := Lib.hid (show okI w = true by unfold okI; rw [h]; simp; omega)
  have OP := Lib.hid (oper_any w · · h0 h1)
  have LI := Lib.hid (layI_3 c)
  have LY := Lib.hid (ilay_any o · (by omega))
  have SH := Lib.hid (show shiftI o = false by unfold shiftI; simp; omega)
  have z : (o == 0) = false := by simp; omega
  have p1 := and31 (b := w / 128) (by omega) (by omega)
  have p2 := and31 (b := w / 32768) (by omega) (by omega)
  have p3 := and31 (b := w / 1048576) (by omega) (by omega)
  have H := Lib.hid h
  have HT := Lib.hid ht
  clear h ht
  go_enter Tryz.func28, Tryz.ntmps28
  go_wp2_with fail
  refine (OP.out _ (HT.out.later (by go_grown))).mono ?_
  rw [H.out]
  rintro e w1 ⟨rfl, rfl⟩
  go_wp2_with (first | (go_at_call 46; refine (LY.out _).mono ?_; unfold LayIP; rw [LI.out]; rintro e w1 ⟨rfl, rfl⟩) | (go_at_call 47; refine (ishift_any _ _).mono ?_; rw [SH.out]; rintro e w1 ⟨rfl, rfl⟩) | (go_at_call 48; refine (imm_get _ _ _ h0 h1).mono ?_; rintro e w1 ⟨rfl, rfl⟩))
  exact bodyPost_ret (v := .tuple #[.agg #[.int .i64 o, .int .i64 (w / 128 % 32), .int .i64 (w / 32768 % 32), .int .i64 (0), .int .i32 (getS 1 w)], .bool true]) (by simp [results, Tryz.results28, go_sem]) rfl (dec_mk R.out K.out (by go_grown))
set_option maxHeartbeats 1000000 in
theorem dec_4 (o w : Int) (W : World) (ht : T3 W) (h0 : 0 ≤ w) (h1 : w < 4294967296) (h : opI w = o) (c : 33 ≤ o ∧ o ≤ 35) :
    Calls Tryz.prog 28 #[.int .u32 w] W (DecP w W) := by
  have R := Lib.hid (show decI w = ⟨o, 0, w / 32768 % 32, w / 1048576 % 32, getS 2 w⟩ by
    unfold decI
    rw [h, if_neg (by omega)]
    unfold recI
    rw [(cls_4 c).1, (cls_4 c).2.1, (cls_4 c).2.2.1, (cls_4 c).2.2.2.1]
    rfl)
  have K := Lib.hid (show okI w = true by unfold okI; rw [h]; simp; omega)
  have OP := Lib.hid (oper_any w · · h0 h1)
  have LI := Lib.hid (layI_4 c)
  have LY := Lib.hid (ilay_any o · (by omega))
  have SH := Lib.hid (show shiftI o = false by unfold shiftI; simp; omega)
  have z : (o == 0) = false := by simp; omega
  have p1 := and31 (b := w / 128) (by omega) (by omega)
  have p2 := and31 (b := w / 32768) (by omega) (by omega)
  have p3 := and31 (b := w / 1048576) (by omega) (by omega)
  have H := Lib.hid h
  have HT := Lib.hid ht
  clear h ht
  go_enter Tryz.func28, Tryz.ntmps28
  go_wp2_with fail
  refine (OP.out _ (HT.out.later (by go_grown))).mono ?_
  rw [H.out]
  rintro e w1 ⟨rfl, rfl⟩
  go_wp2_with (first | (go_at_call 46; refine (LY.out _).mono ?_; unfold LayIP; rw [LI.out]; rintro e w1 ⟨rfl, rfl⟩) | (go_at_call 47; refine (ishift_any _ _).mono ?_; rw [SH.out]; rintro e w1 ⟨rfl, rfl⟩) | (go_at_call 48; refine (imm_get _ _ _ h0 h1).mono ?_; rintro e w1 ⟨rfl, rfl⟩))
  exact bodyPost_ret (v := .tuple #[.agg #[.int .i64 o, .int .i64 (0), .int .i64 (w / 32768 % 32), .int .i64 (w / 1048576 % 32), .int .i32 (getS 2 w)], .bool true]) (by simp [results, Tryz.results28, go_sem]) rfl (dec_mk R.out K.out (by go_grown))
set_option maxHeartbeats 1000000 in
theorem dec_5 (o w : Int) (W : World) (ht : T3 W) (h0 : 0 ≤ w) (h1 : w < 4294967296) (h : opI w = o) (c : 36 ≤ o ∧ o ≤ 41) :
    Calls Tryz.prog 28 #[.int .u32 w] W (DecP w W) := by
  have R := Lib.hid (show decI w = ⟨o, 0, w / 32768 % 32, w / 1048576 % 32, getS 3 w⟩ by
    unfold decI
    rw [h, if_neg (by omega)]
    unfold recI
    rw [(cls_5 c).1, (cls_5 c).2.1, (cls_5 c).2.2.1, (cls_5 c).2.2.2.1]
    rfl)
  have K := Lib.hid (show okI w = true by unfold okI; rw [h]; simp; omega)
  have OP := Lib.hid (oper_any w · · h0 h1)
  have LI := Lib.hid (layI_5 c)
  have LY := Lib.hid (ilay_any o · (by omega))
  have SH := Lib.hid (show shiftI o = false by unfold shiftI; simp; omega)
  have z : (o == 0) = false := by simp; omega
  have p1 := and31 (b := w / 128) (by omega) (by omega)
  have p2 := and31 (b := w / 32768) (by omega) (by omega)
  have p3 := and31 (b := w / 1048576) (by omega) (by omega)
  have H := Lib.hid h
  have HT := Lib.hid ht
  clear h ht
  go_enter Tryz.func28, Tryz.ntmps28
  go_wp2_with fail
  refine (OP.out _ (HT.out.later (by go_grown))).mono ?_
  rw [H.out]
  rintro e w1 ⟨rfl, rfl⟩
  go_wp2_with (first | (go_at_call 46; refine (LY.out _).mono ?_; unfold LayIP; rw [LI.out]; rintro e w1 ⟨rfl, rfl⟩) | (go_at_call 47; refine (ishift_any _ _).mono ?_; rw [SH.out]; rintro e w1 ⟨rfl, rfl⟩) | (go_at_call 48; refine (imm_get _ _ _ h0 h1).mono ?_; rintro e w1 ⟨rfl, rfl⟩))
  exact bodyPost_ret (v := .tuple #[.agg #[.int .i64 o, .int .i64 (0), .int .i64 (w / 32768 % 32), .int .i64 (w / 1048576 % 32), .int .i32 (getS 3 w)], .bool true]) (by simp [results, Tryz.results28, go_sem]) rfl (dec_mk R.out K.out (by go_grown))
set_option maxHeartbeats 1000000 in
theorem dec_6 (o w : Int) (W : World) (ht : T3 W) (h0 : 0 ≤ w) (h1 : w < 4294967296) (h : opI w = o) (c : o = 42) :
    Calls Tryz.prog 28 #[.int .u32 w] W (DecP w W) := by
  have R := Lib.hid (show decI w = ⟨o, w / 128 % 32, 0, 0, getS 4 w⟩ by
    unfold decI
    rw [h, if_neg (by omega)]
    unfold recI
    rw [(cls_6 c).1, (cls_6 c).2.1, (cls_6 c).2.2.1, (cls_6 c).2.2.2.1]
    rfl)
  have K := Lib.hid (show okI w = true by unfold okI; rw [h]; simp; omega)
  have OP := Lib.hid (oper_any w · · h0 h1)
  have LI := Lib.hid (layI_6 c)
  have LY := Lib.hid (ilay_any o · (by omega))
  have SH := Lib.hid (show shiftI o = false by unfold shiftI; simp; omega)
  have z : (o == 0) = false := by simp; omega
  have p1 := and31 (b := w / 128) (by omega) (by omega)
  have p2 := and31 (b := w / 32768) (by omega) (by omega)
  have p3 := and31 (b := w / 1048576) (by omega) (by omega)
  have H := Lib.hid h
  have HT := Lib.hid ht
  subst c
  clear h ht z
  go_enter Tryz.func28, Tryz.ntmps28
  go_wp2_with fail
  refine (OP.out _ (HT.out.later (by go_grown))).mono ?_
  rw [H.out]
  rintro e w1 ⟨rfl, rfl⟩
  go_wp2_with (first | (go_at_call 46; refine (LY.out _).mono ?_; unfold LayIP; rw [LI.out]; rintro e w1 ⟨rfl, rfl⟩) | (go_at_call 47; refine (ishift_any _ _).mono ?_; rw [SH.out]; rintro e w1 ⟨rfl, rfl⟩) | (go_at_call 48; refine (imm_get _ _ _ h0 h1).mono ?_; rintro e w1 ⟨rfl, rfl⟩))
  exact bodyPost_ret (v := .tuple #[.agg #[.int .i64 42, .int .i64 (w / 128 % 32), .int .i64 (0), .int .i64 (0), .int .i32 (getS 4 w)], .bool true]) (by simp [results, Tryz.results28, go_sem]) rfl (dec_mk R.out K.out (by go_grown))
set_option maxHeartbeats 1000000 in
theorem dec_7 (o w : Int) (W : World) (ht : T3 W) (h0 : 0 ≤ w) (h1 : w < 4294967296) (h : opI w = o) (c : o = 43) :
    Calls Tryz.prog 28 #[.int .u32 w] W (DecP w W) := by
  have R := Lib.hid (show decI w = ⟨o, w / 128 % 32, 0, 0, getS 4 w⟩ by
    unfold decI
    rw [h, if_neg (by omega)]
    unfold recI
    rw [(cls_7 c).1, (cls_7 c).2.1, (cls_7 c).2.2.1, (cls_7 c).2.2.2.1]
    rfl)
  have K := Lib.hid (show okI w = true by unfold okI; rw [h]; simp; omega)
  have OP := Lib.hid (oper_any w · · h0 h1)
  have LI := Lib.hid (layI_7 c)
  have LY := Lib.hid (ilay_any o · (by omega))
  have SH := Lib.hid (show shiftI o = false by unfold shiftI; simp; omega)
  have z : (o == 0) = false := by simp; omega
  have p1 := and31 (b := w / 128) (by omega) (by omega)
  have p2 := and31 (b := w / 32768) (by omega) (by omega)
  have p3 := and31 (b := w / 1048576) (by omega) (by omega)
  have H := Lib.hid h
  have HT := Lib.hid ht
  subst c
  clear h ht z
  go_enter Tryz.func28, Tryz.ntmps28
  go_wp2_with fail
  refine (OP.out _ (HT.out.later (by go_grown))).mono ?_
  rw [H.out]
  rintro e w1 ⟨rfl, rfl⟩
  go_wp2_with (first | (go_at_call 46; refine (LY.out _).mono ?_; unfold LayIP; rw [LI.out]; rintro e w1 ⟨rfl, rfl⟩) | (go_at_call 47; refine (ishift_any _ _).mono ?_; rw [SH.out]; rintro e w1 ⟨rfl, rfl⟩) | (go_at_call 48; refine (imm_get _ _ _ h0 h1).mono ?_; rintro e w1 ⟨rfl, rfl⟩))
  exact bodyPost_ret (v := .tuple #[.agg #[.int .i64 43, .int .i64 (w / 128 % 32), .int .i64 (0), .int .i64 (0), .int .i32 (getS 4 w)], .bool true]) (by simp [results, Tryz.results28, go_sem]) rfl (dec_mk R.out K.out (by go_grown))
set_option maxHeartbeats 1000000 in
theorem dec_8 (o w : Int) (W : World) (ht : T3 W) (h0 : 0 ≤ w) (h1 : w < 4294967296) (h : opI w = o) (c : o = 44) :
    Calls Tryz.prog 28 #[.int .u32 w] W (DecP w W) := by
  have R := Lib.hid (show decI w = ⟨o, w / 128 % 32, 0, 0, getS 5 w⟩ by
    unfold decI
    rw [h, if_neg (by omega)]
    unfold recI
    rw [(cls_8 c).1, (cls_8 c).2.1, (cls_8 c).2.2.1, (cls_8 c).2.2.2.1]
    rfl)
  have K := Lib.hid (show okI w = true by unfold okI; rw [h]; simp; omega)
  have OP := Lib.hid (oper_any w · · h0 h1)
  have LI := Lib.hid (layI_8 c)
  have LY := Lib.hid (ilay_any o · (by omega))
  have SH := Lib.hid (show shiftI o = false by unfold shiftI; simp; omega)
  have z : (o == 0) = false := by simp; omega
  have p1 := and31 (b := w / 128) (by omega) (by omega)
  have p2 := and31 (b := w / 32768) (by omega) (by omega)
  have p3 := and31 (b := w / 1048576) (by omega) (by omega)
  have H := Lib.hid h
  have HT := Lib.hid ht
  subst c
  clear h ht z
  go_enter Tryz.func28, Tryz.ntmps28
  go_wp2_with fail
  refine (OP.out _ (HT.out.later (by go_grown))).mono ?_
  rw [H.out]
  rintro e w1 ⟨rfl, rfl⟩
  go_wp2_with (first | (go_at_call 46; refine (LY.out _).mono ?_; unfold LayIP; rw [LI.out]; rintro e w1 ⟨rfl, rfl⟩) | (go_at_call 47; refine (ishift_any _ _).mono ?_; rw [SH.out]; rintro e w1 ⟨rfl, rfl⟩) | (go_at_call 48; refine (imm_get _ _ _ h0 h1).mono ?_; rintro e w1 ⟨rfl, rfl⟩))
  exact bodyPost_ret (v := .tuple #[.agg #[.int .i64 44, .int .i64 (w / 128 % 32), .int .i64 (0), .int .i64 (0), .int .i32 (getS 5 w)], .bool true]) (by simp [results, Tryz.results28, go_sem]) rfl (dec_mk R.out K.out (by go_grown))
set_option maxHeartbeats 1000000 in
theorem dec_9 (o w : Int) (W : World) (ht : T3 W) (h0 : 0 ≤ w) (h1 : w < 4294967296) (h : opI w = o) (c : o = 45) :
    Calls Tryz.prog 28 #[.int .u32 w] W (DecP w W) := by
  have R := Lib.hid (show decI w = ⟨o, w / 128 % 32, w / 32768 % 32, 0, getS 1 w⟩ by
    unfold decI
    rw [h, if_neg (by omega)]
    unfold recI
    rw [(cls_9 c).1, (cls_9 c).2.1, (cls_9 c).2.2.1, (cls_9 c).2.2.2.1]
    rfl)
  have K := Lib.hid (show okI w = true by unfold okI; rw [h]; simp; omega)
  have OP := Lib.hid (oper_any w · · h0 h1)
  have LI := Lib.hid (layI_9 c)
  have LY := Lib.hid (ilay_any o · (by omega))
  have SH := Lib.hid (show shiftI o = false by unfold shiftI; simp; omega)
  have z : (o == 0) = false := by simp; omega
  have p1 := and31 (b := w / 128) (by omega) (by omega)
  have p2 := and31 (b := w / 32768) (by omega) (by omega)
  have p3 := and31 (b := w / 1048576) (by omega) (by omega)
  have H := Lib.hid h
  have HT := Lib.hid ht
  subst c
  clear h ht z
  go_enter Tryz.func28, Tryz.ntmps28
  go_wp2_with fail
  refine (OP.out _ (HT.out.later (by go_grown))).mono ?_
  rw [H.out]
  rintro e w1 ⟨rfl, rfl⟩
  go_wp2_with (first | (go_at_call 46; refine (LY.out _).mono ?_; unfold LayIP; rw [LI.out]; rintro e w1 ⟨rfl, rfl⟩) | (go_at_call 47; refine (ishift_any _ _).mono ?_; rw [SH.out]; rintro e w1 ⟨rfl, rfl⟩) | (go_at_call 48; refine (imm_get _ _ _ h0 h1).mono ?_; rintro e w1 ⟨rfl, rfl⟩))
  exact bodyPost_ret (v := .tuple #[.agg #[.int .i64 45, .int .i64 (w / 128 % 32), .int .i64 (w / 32768 % 32), .int .i64 (0), .int .i32 (getS 1 w)], .bool true]) (by simp [results, Tryz.results28, go_sem]) rfl (dec_mk R.out K.out (by go_grown))
set_option maxHeartbeats 1000000 in
theorem dec_10 (o w : Int) (W : World) (ht : T3 W) (h0 : 0 ≤ w) (h1 : w < 4294967296) (h : opI w = o) (c : o = 46) :
    Calls Tryz.prog 28 #[.int .u32 w] W (DecP w W) := by
  have R := Lib.hid (show decI w = ⟨o, 0, 0, 0, getS 1 w⟩ by
    unfold decI
    rw [h, if_neg (by omega)]
    unfold recI
    rw [(cls_10 c).1, (cls_10 c).2.1, (cls_10 c).2.2.1, (cls_10 c).2.2.2.1]
    rfl)
  have K := Lib.hid (show okI w = true by unfold okI; rw [h]; simp; omega)
  have OP := Lib.hid (oper_any w · · h0 h1)
  have LI := Lib.hid (layI_10 c)
  have LY := Lib.hid (ilay_any o · (by omega))
  have SH := Lib.hid (show shiftI o = false by unfold shiftI; simp; omega)
  have z : (o == 0) = false := by simp; omega
  have p1 := and31 (b := w / 128) (by omega) (by omega)
  have p2 := and31 (b := w / 32768) (by omega) (by omega)
  have p3 := and31 (b := w / 1048576) (by omega) (by omega)
  have H := Lib.hid h
  have HT := Lib.hid ht
  subst c
  clear h ht z
  go_enter Tryz.func28, Tryz.ntmps28
  go_wp2_with fail
  refine (OP.out _ (HT.out.later (by go_grown))).mono ?_
  rw [H.out]
  rintro e w1 ⟨rfl, rfl⟩
  go_wp2_with (first | (go_at_call 46; refine (LY.out _).mono ?_; unfold LayIP; rw [LI.out]; rintro e w1 ⟨rfl, rfl⟩) | (go_at_call 47; refine (ishift_any _ _).mono ?_; rw [SH.out]; rintro e w1 ⟨rfl, rfl⟩) | (go_at_call 48; refine (imm_get _ _ _ h0 h1).mono ?_; rintro e w1 ⟨rfl, rfl⟩))
  exact bodyPost_ret (v := .tuple #[.agg #[.int .i64 46, .int .i64 (0), .int .i64 (0), .int .i64 (0), .int .i32 (getS 1 w)], .bool true]) (by simp [results, Tryz.results28, go_sem]) rfl (dec_mk R.out K.out (by go_grown))
set_option maxHeartbeats 1000000 in
theorem dec_11 (o w : Int) (W : World) (ht : T3 W) (h0 : 0 ≤ w) (h1 : w < 4294967296) (h : opI w = o) (c : o = 47) :
    Calls Tryz.prog 28 #[.int .u32 w] W (DecP w W) := by
  have R := Lib.hid (show decI w = ⟨o, 0, 0, 0, 0⟩ by
    unfold decI
    rw [h, if_neg (by omega)]
    unfold recI
    rw [(cls_11 c).1, (cls_11 c).2.1, (cls_11 c).2.2.1, (cls_11 c).2.2.2.1]
    rfl)
  have K := Lib.hid (show okI w = true by unfold okI; rw [h]; simp; omega)
  have OP := Lib.hid (oper_any w · · h0 h1)
  have LI := Lib.hid (layI_11 c)
  have LY := Lib.hid (ilay_any o · (by omega))
  have SH := Lib.hid (show shiftI o = false by unfold shiftI; simp; omega)
  have z : (o == 0) = false := by simp; omega
  have p1 := and31 (b := w / 128) (by omega) (by omega)
  have p2 := and31 (b := w / 32768) (by omega) (by omega)
  have p3 := and31 (b := w / 1048576) (by omega) (by omega)
  have H := Lib.hid h
  have HT := Lib.hid ht
  subst c
  clear h ht z
  go_enter Tryz.func28, Tryz.ntmps28
  go_wp2_with fail
  refine (OP.out _ (HT.out.later (by go_grown))).mono ?_
  rw [H.out]
  rintro e w1 ⟨rfl, rfl⟩
  go_wp2_with (first | (go_at_call 46; refine (LY.out _).mono ?_; unfold LayIP; rw [LI.out]; rintro e w1 ⟨rfl, rfl⟩) | (go_at_call 47; refine (ishift_any _ _).mono ?_; rw [SH.out]; rintro e w1 ⟨rfl, rfl⟩) | (go_at_call 48; refine (imm_get _ _ _ h0 h1).mono ?_; rintro e w1 ⟨rfl, rfl⟩))
  exact bodyPost_ret (v := .tuple #[.agg #[.int .i64 47, .int .i64 (0), .int .i64 (0), .int .i64 (0), .int .i32 (0)], .bool true]) (by simp [results, Tryz.results28, go_sem]) rfl (dec_mk R.out K.out (by go_grown))
set_option maxHeartbeats 1000000 in
theorem dec_12 (o w : Int) (W : World) (ht : T3 W) (h0 : 0 ≤ w) (h1 : w < 4294967296) (h : opI w = o) (c : o = 48) :
    Calls Tryz.prog 28 #[.int .u32 w] W (DecP w W) := by
  have R := Lib.hid (show decI w = ⟨o, 0, 0, 0, 0⟩ by
    unfold decI
    rw [h, if_neg (by omega)]
    unfold recI
    rw [(cls_12 c).1, (cls_12 c).2.1, (cls_12 c).2.2.1, (cls_12 c).2.2.2.1]
    rfl)
  have K := Lib.hid (show okI w = true by unfold okI; rw [h]; simp; omega)
  have OP := Lib.hid (oper_any w · · h0 h1)
  have LI := Lib.hid (layI_12 c)
  have LY := Lib.hid (ilay_any o · (by omega))
  have SH := Lib.hid (show shiftI o = false by unfold shiftI; simp; omega)
  have z : (o == 0) = false := by simp; omega
  have p1 := and31 (b := w / 128) (by omega) (by omega)
  have p2 := and31 (b := w / 32768) (by omega) (by omega)
  have p3 := and31 (b := w / 1048576) (by omega) (by omega)
  have H := Lib.hid h
  have HT := Lib.hid ht
  subst c
  clear h ht z
  go_enter Tryz.func28, Tryz.ntmps28
  go_wp2_with fail
  refine (OP.out _ (HT.out.later (by go_grown))).mono ?_
  rw [H.out]
  rintro e w1 ⟨rfl, rfl⟩
  go_wp2_with (first | (go_at_call 46; refine (LY.out _).mono ?_; unfold LayIP; rw [LI.out]; rintro e w1 ⟨rfl, rfl⟩) | (go_at_call 47; refine (ishift_any _ _).mono ?_; rw [SH.out]; rintro e w1 ⟨rfl, rfl⟩) | (go_at_call 48; refine (imm_get _ _ _ h0 h1).mono ?_; rintro e w1 ⟨rfl, rfl⟩))
  exact bodyPost_ret (v := .tuple #[.agg #[.int .i64 48, .int .i64 (0), .int .i64 (0), .int .i64 (0), .int .i32 (0)], .bool true]) (by simp [results, Tryz.results28, go_sem]) rfl (dec_mk R.out K.out (by go_grown))
theorem dec_any (w : Int) (W : World) (ht : T3 W) (h0 : 0 ≤ w) (h1 : w < 4294967296) : Calls Tryz.prog 28 #[.int .u32 w] W (DecP w W) := by
  obtain ⟨o, h⟩ : ∃ o, opI w = o := ⟨_, rfl⟩
  have bd := opI_bd w h0 h1
  rw [h] at bd
  by_cases z : o = 0
  · exact dec_no w W ht h0 h1 (h.trans z)
  have cs : (1 ≤ o ∧ o ≤ 18) ∨ (19 ≤ o ∧ o ≤ 24) ∨ (25 ≤ o ∧ o ≤ 27) ∨ (28 ≤ o ∧ o ≤ 32) ∨ (33 ≤ o ∧ o ≤ 35) ∨ (36 ≤ o ∧ o ≤ 41) ∨ (o = 42) ∨ (o = 43) ∨ (o = 44) ∨ (o = 45) ∨ (o = 46) ∨ (o = 47) ∨ (o = 48) := by omega
  rcases cs with c | c | c | c | c | c | c | c | c | c | c | c | c
  · exact dec_0 o w W ht h0 h1 h c
  · exact dec_1 o w W ht h0 h1 h c
  · exact dec_2 o w W ht h0 h1 h c
  · exact dec_3 o w W ht h0 h1 h c
  · exact dec_4 o w W ht h0 h1 h c
  · exact dec_5 o w W ht h0 h1 h c
  · exact dec_6 o w W ht h0 h1 h c
  · exact dec_7 o w W ht h0 h1 h c
  · exact dec_8 o w W ht h0 h1 h c
  · exact dec_9 o w W ht h0 h1 h c
  · exact dec_10 o w W ht h0 h1 h c
  · exact dec_11 o w W ht h0 h1 h c
  · exact dec_12 o w W ht h0 h1 h c
end Go.Proofs.YtmlhoagcppofgaaGreatDoor
