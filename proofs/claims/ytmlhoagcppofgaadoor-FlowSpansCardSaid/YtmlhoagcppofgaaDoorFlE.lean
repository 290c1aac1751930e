/- Package flow: what Next puts; sorting a row of the call's own. -/
import Derived.Test.YtmlhoagcppofgaaDoorFlD
import Derived.Test.YtmlhoagcppofgaaDoorShelf
import Derived.Sort.OwnSortedInts
import Derived.RangeFuncBox
namespace Go.Proofs.YtmlhoagcppofgaaDoor
open Go Go.RowKit Pl
set_option linter.unusedVariables false

theorem grown_refl (W : World) (r : Option Nat) : W.grownBy W r := ⟨rfl, rfl, rfl, Nat.le_refl _, fun _ _ _ => rfl⟩
def sortI (l : List Int) : List Int := l.mergeSort fun x y => decide (x ≤ y)
theorem sort_own {W : World} {base : Nat} {v : Value} {ls : List Int} (own : OwnI W base v ls) (hl : ls.length ≤ 1000) :
    Calls Tryd.prog 26 #[v] W fun e W' => e = .returned (.tuple #[]) ∧ OwnI W' base v (sortI ls) ∧ W.grownBy W' v.ownBlock := by
  have hlt := own.lt
  have own' := own
  obtain ⟨_, ⟨hv, hn⟩ | ⟨g, cap, cur, hv, hg, hh, hc, hcm, hcur, htk⟩⟩ := own
  · have : ls = [] := List.eq_nil_of_length_eq_zero hn
    subst this
    subst hv
    refine (slices_Sort_int_none none 0 W).mono ?_
    rintro e W' ⟨rfl, rfl⟩
    have e0 : sortI [] = [] := by unfold sortI; simp
    rw [e0]
    exact ⟨rfl, own', grown_refl _ _⟩
  · subst hv
    have hls : (sortI ls).length = ls.length := by unfold sortI; exact List.length_mergeSort _
    have htk' : cur.toList.take ls.length = ls.map (Value.int .i64) := by rw [Nat.mul_one] at htk; exact htk
    refine (slices_Sort_int g 0 cap ls W (holds_of_blockI hh htk') (hlt g rfl).2 (by omega)).mono ?_
    rintro e W' ⟨rfl, n, os, rfl⟩
    refine ⟨rfl, ?_, grownBy_sortedI _⟩
    have := ownsRow_sortedI (w := W) (base := base) (g := g) (cap := cap) (n := n) (os := os) (ss := ls) (ts := sortI ls) hls hg hh hc hcm hcur
    unfold OwnI
    rw [hls]
    exact this

def putF (n : Nat) (k : Int) (ls : List Int) : List Int := if (0 ≤ k ∧ k < n) ∧ ls.contains k = false then ls ++ [k] else ls
structure PutS (N : Nat) (W : World) (ls : List Int) (W' : World) : Prop where
  box : ∃ v, Boxed W' N 24 v ∧ OwnI W' N v ls
  bl : Below N W W'
theorem contains_own {W : World} {base : Nat} {v : Value} {ls : List Int} (own : OwnI W base v ls) (hl : ls.length ≤ 1000) (k : Int) :
    Calls Tryd.prog 23 #[v, .int .i64 k] W fun e W' => e = .returned (.bool (ls.contains k)) ∧ W = W' := by
  have own' := own
  obtain ⟨_, ⟨hv, hn⟩ | ⟨g, cap, cur, hv, hg, hh, hc, hcm, hcur, htk⟩⟩ := own
  · have : ls = [] := List.eq_nil_of_length_eq_zero hn
    subst this
    subst hv
    exact (slices_Contains_int_empty none 0 k W).mono fun _ _ h => ⟨h.1, h.2.symm⟩
  · subst hv
    have := slices_Contains_int g 0 ls.length cap ls k W (Nat.le_refl _) (by omega) (fun j hj => by
      have := own'.cells (g := g) rfl j (iv (ls.getD j 0)) (by simp [iv, List.getD, hj])
      rw [add_at] at this
      exact this)
    rw [List.take_length] at this
    exact this.mono fun _ _ h => ⟨h.1, h.2.symm⟩
theorem int_not_row : (24 : TypeId) ≠ 3 := by decide
set_option maxRecDepth 100000 in
set_option maxHeartbeats 1000000 in
theorem put_any (B N : Nat) (a : Option Addr) (n c : Nat) (k : Int) (ls : List Int) (W : World) (hB : W.cell? ⟨B, 0, none⟩ = some (.slice a n c)) (hn : n ≤ 1000) (hS : ∃ v, Boxed W N 24 v ∧ OwnI W N v ls) (hl : ls.length ≤ 10) :
    Calls Tryd.prog 22 #[.int .i64 k, .pointer (some ⟨B, 0, none⟩), .pointer (some ⟨N, 0, none⟩)] W fun e W' => e = .returned (.tuple #[]) ∧ PutS N W (putF n k ls) W' := by
  obtain ⟨i0, hi0, hz0, hz1, hz2⟩ := info_parts info_int
  obtain ⟨v, bx, own⟩ := hS
  have cN := bx.cell
  have IP := Lib.hid (fun W => isPlace_any a n c k W hn)
  obtain ⟨av, cv, rfl⟩ := own_formF own
  have CO := Lib.hid (contains_own own (by omega) k)
  have OWN := Lib.hid own
  have BX := Lib.hid bx
  have hN := bx.lt
  clear own bx
  by_cases hp : 0 ≤ k ∧ k < (n : Int)
  · rw [decide_eq_true hp] at IP
    cases hc : ls.contains k
    · have PL := Lib.hid (show putF n k ls = ls ++ [k] by unfold putF; rw [if_pos ⟨hp, hc⟩])
      rw [hc] at CO
      clear hp hc
      have E1 := Lib.hid (show ls.length + 1 ≤ maxLen by simp only [maxLen]; omega)
      have E2 := Lib.hid (show (ls.length + 1) * 8 ≤ 140737488355328 by omega)
      have NW2 := news_one W k _ rfl
      have DN := Lib.hid (fun (w1 : World) (v' : Value) (hown : w1.ownsRow N 3 1 v' (ls.length + 1) (ls.map iv ++ [.int .i64 k])) hg => Boxed.appended (tmp := .cells #[.int .i64 k] 3) BX.out int_not_row OWN.out (Nat.le_of_lt hN) (Nat.le_refl N) hown hg)
      go_enter Tryd.func22, Tryd.ntmps22
      go_wp2_with (first | (go_at_call 20; refine (IP.out _).mono ?_; rintro e w3 ⟨rfl, rfl⟩) | (go_at_call 23; refine CO.out.mono ?_; rintro e w3 ⟨rfl, rfl⟩) | (at_builtin; refine wpList_append_own _ rfl (.tmp 13) (.tmp 15) 24 rfl N 3 i0 (.int .i64 0) 1 8 Tryd.underlying24 hi0 hz0 hz1 hz2 rfl (by decide) _ _ _ rfl (OWN.out.alloc _) ⟨_, 0, none⟩ 1 1 [.int .i64 k] rfl rfl NW2 (by simp [Value.oneCell']) E1.out E2.out (by simp; omega) ?_; intro v1 w4 hown hg hn; obtain ⟨g1, c1, rfl⟩ := ownsRow_succ hown; have D := DN.out _ _ hown hg; have d1 := D.1.cell; have d2 := D.1.frozen; have D3 := Lib.hid D; clear D hown hg hn))
      go_end0
      refine ⟨rfl, ⟨_, D3.out.2.1, ?_⟩, D3.out.2.2.2.2⟩
      rw [PL.out]
      unfold OwnI
      rw [List.length_append, List.map_append]
      exact D3.out.2.2.1
    · have PL := Lib.hid (show putF n k ls = ls by unfold putF; rw [if_neg (by rw [hc]; simp)])
      rw [hc] at CO
      clear hp hc
      go_enter Tryd.func22, Tryd.ntmps22
      go_wp2_with (first | (go_at_call 20; refine (IP.out _).mono ?_; rintro e w3 ⟨rfl, rfl⟩) | (go_at_call 23; refine CO.out.mono ?_; rintro e w3 ⟨rfl, rfl⟩))
      go_end0
      exact ⟨rfl, ⟨_, BX.out, by rw [PL.out]; exact OWN.out⟩, Below.refl _ _⟩
  · have PL := Lib.hid (show putF n k ls = ls by unfold putF; rw [if_neg (fun h => hp h.1)])
    rw [decide_eq_false hp] at IP
    clear hp
    go_enter Tryd.func22, Tryd.ntmps22
    go_wp2_with (first | (go_at_call 20; refine (IP.out _).mono ?_; rintro e w3 ⟨rfl, rfl⟩) | (go_at_call 23; refine CO.out.mono ?_; rintro e w3 ⟨rfl, rfl⟩))
    go_end0
    exact ⟨rfl, ⟨_, BX.out, by rw [PL.out]; exact OWN.out⟩, Below.refl _ _⟩
end Go.Proofs.YtmlhoagcppofgaaDoor
