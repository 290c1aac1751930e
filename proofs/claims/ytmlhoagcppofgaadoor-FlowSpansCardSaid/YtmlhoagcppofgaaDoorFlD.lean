/- Package pintleref42: Next, for all words. -/
import Derived.Test.YtmlhoagcppofgaaDoorFlC
import Derived.Test.YtmlhoagcppofgaaDoorInstVf
namespace Go.Proofs.YtmlhoagcppofgaaDoor
open Go Go.RowKit Pl
set_option linter.unusedVariables false

/-- where one may go from a word: the places below n -/
def nextN (q : Q5) (i n : Nat) : List Nat := (List.range n).filter (goesQ q i)
def castI (l : List Nat) : List Int := l.map fun (k : Nat) => (k : Int)
theorem nextN_yes {q : Q5} {i n : Nat} (h : goesQ q i n = true) : nextN q i (n + 1) = nextN q i n ++ [n] := by
  unfold nextN; rw [List.range_succ, List.filter_append]; simp [h]
theorem nextN_no {q : Q5} {i n : Nat} (h : goesQ q i n = false) : nextN q i (n + 1) = nextN q i n := by
  unfold nextN; rw [List.range_succ, List.filter_append]; simp [h]
theorem nextN_len (q : Q5) (i n : Nat) : (nextN q i n).length ≤ n := by
  unfold nextN; exact Nat.le_trans (List.length_filter_le _ _) (by simp)
theorem castI_len (l : List Nat) : (castI l).length = l.length := by simp [castI]
theorem castI_put (l : List Nat) (n : Nat) : castI (l ++ [n]) = castI l ++ [(n : Int)] := by simp [castI]

set_option maxRecDepth 100000 in
set_option maxHeartbeats 1000000 in
theorem rnext_any (a : Option Addr) (c : Nat) (l : List Nat) (i : Nat) (w : World) (hw : WordsC w a l c) (hi : i < l.length) (hl : l.length ≤ 1000) :
    Calls Tryd.prog 12 #[.slice a l.length c, .int .i64 (i : Nat)] w fun e w' => ∃ v, e = .returned v ∧ OwnI w' w.heap.size v (castI (nextN (qAt l i) i l.length)) ∧ Below w.heap.size w w' := by
  obtain ⟨i0, hi0, hz0, hz1, hz2⟩ := info_parts info_int
  have HW := Lib.hid hw
  have OWN0 := Lib.hid (own_made w w.heap.size (Nat.le_refl _) _ rfl)
  clear hw
  go_enter Tryd.func12, Tryd.ntmps12
  go_wp2_with fail
  go_loopw [5, 6] (fun v j wr => ∃ n : Nat, n ≤ l.length ∧ j = .int .i64 n ∧ OwnI wr w.heap.size v (castI (nextN (qAt l i) i n)) ∧ Below w.heap.size w wr) (fun _ j _ => l.length - (intOf j).toNat)
  case atStart => exact ⟨0, Nat.zero_le _, rfl, OWN0.out, by go_grown⟩
  case round =>
    obtain ⟨n, hn, rfl, own, hb⟩ := hrel
    by_cases hlt : n < l.length
    · have GA := Lib.hid (goes_any a c l i n wr (HW.out.later hb) hi hl (by omega))
      have u9 := IntWalk.i64_in ((n : Int) + 1) (by omega)
      have OWN := Lib.hid own
      have HB := Lib.hid hb
      have hb0 := hb.size
      have LN := nextN_len (qAt l i) i n
      have E1 := Lib.hid (show (castI (nextN (qAt l i) i n)).length + 1 ≤ maxLen by rw [castI_len]; simp only [maxLen]; omega)
      have E2 := Lib.hid (show ((castI (nextN (qAt l i) i n)).length + 1) * 8 ≤ 140737488355328 by rw [castI_len]; omega)
      clear own hb LN
      unfold GoesP at GA
      cases hG : goesQ (qAt l i) i n
      · have NX := Lib.hid (nextN_no hG)
        rw [hG] at GA
        clear hG
        go_wp2_with fail
        refine GA.out.mono ?_
        rintro e w1 ⟨rfl, hb1⟩
        go_wp2_with fail
        refine ⟨⟨n + 1, by omega, rfl, ?_, below_trans HB.out hb1⟩, by simp [intOf]; omega⟩
        rw [NX.out]; exact own_later OWN.out hb1
      · have NX := Lib.hid (nextN_yes hG)
        rw [hG] at GA
        clear hG
        go_wp2_with fail
        refine GA.out.mono ?_
        rintro e w1 ⟨rfl, hb1⟩
        have OWN1 := Lib.hid (own_later OWN.out hb1)
        have HB1 := Lib.hid (below_trans HB.out hb1)
        have VO := Lib.hid OWN1.out.lt
        have NW2 := fun W => news_one W (n : Int) _ rfl
        have hs1 := hb1.size
        have hs3 : w.heap.size ≤ w1.heap.size := by omega
        clear hb1 hs1 hb0
        go_wp2_with (at_builtin; refine wpList_append_own _ rfl (.tmp 24) (.tmp 26) 24 rfl w.heap.size 3 i0 (.int .i64 0) 1 8 Tryd.underlying24 hi0 hz0 hz1 hz2 rfl (by decide) _ _ _ rfl (OWN1.out.alloc _) ⟨_, 0, none⟩ 1 1 [.int .i64 (n : Int)] rfl rfl (NW2 _) (by simp [Value.oneCell']) E1.out E2.out (by simp; omega) ?_; intro v1 w4 hown hg hn)
        refine ⟨⟨n + 1, by omega, rfl, ?_, ?_⟩, by simp [intOf]; omega⟩
        · rw [NX.out, castI_put]
          unfold OwnI
          rw [List.length_append, List.map_append]; exact hown
        · exact below_grownF (HB1.out.alloc (by omega) _) hg (by simp; omega) (fun q hq => (VO.out q hq).1)
    · obtain rfl : n = l.length := by omega
      have OWN := Lib.hid own
      have HB := Lib.hid hb
      clear own hb
      go_wp2_with fail
      go_ret
      exact ⟨_, rfl, OWN.out, HB.out⟩
end Go.Proofs.YtmlhoagcppofgaaDoor
