/- Contract of the law's own Few: a program of at most sixty steps. -/
import Derived.Test.YtlieapapmkbbgaaLirF
import Derived.Test.YtlieapapmkbbgaaLops
namespace Go.Proofs.Ytlieapapmkbbgaa
open Go Go.RowKit
set_option linter.unusedVariables false

theorem info_lopF : (Try.prog.info? 46).map (fun i => (i.zero, i.size, i.bytes)) = some (some (.agg #[.int .i64 0, .int .i64 0, .int .i64 0, .int .i64 0, .int .i32 0]), 5, 40) := by kernel_rfl
theorem own_emptyL (w : World) : (w.alloc (.cells #[] 46)).ownsRow w.heap.size 46 5 (.slice (some ⟨w.heap.size, 0, none⟩) 0 0) 0 [] :=
  World.ownsRow_lit w #[] 0 (Nat.le_refl _) (by decide) rfl
theorem newsL {w : World} {b off : Nat} {l : List Q5} (hc : ∀ j u, (flat l)[j]? = some u → w.cell? ⟨b, off + j, none⟩ = some u) (m : Nat) (w' : World)
    (hw : ∀ k, w'.cell? ⟨b, k, none⟩ = w.cell? ⟨b, k, none⟩) : ∀ j u, (flat (l.take m))[j]? = some u → w'.cell? ((⟨b, off, none⟩ : Addr).add j) = some u := by
  intro j u h
  rw [add_at, hw]
  rw [flat_take, List.getElem?_take] at h
  split at h
  · exact hc j u h
  · cases h
theorem grown_belowL {w w1 : World} (hg : (w.alloc (.cells #[] 46)).grownBy w1 (Value.slice (some ⟨w.heap.size, 0, none⟩) 0 0).ownBlock) : Below w.heap.size w w1 :=
  ((Below.refl _ _).alloc (Nat.le_refl _) _).grown hg (by simp) (fun k hk => by cases hk; exact Nat.le_refl _)
def FewL (w : World) (t : List Q5) (e : Ending) (w' : World) : Prop := ∃ v, e = .returned v ∧ w'.ownsRow w.heap.size 46 5 v t.length (flat t) ∧ Below w.heap.size w w'

set_option maxRecDepth 100000 in
set_option maxHeartbeats 400000 in
theorem fewL_any (a : Option Addr) (c : Nat) (l : List Q5) (w : World) (hl : L5In w a l c) :
    Calls Try.prog 5 #[.slice a l.length c] w (FewL w (l.take 60)) := by
  obtain ⟨i0, hi, hz0, hz1, hz2⟩ := info_parts info_lopF
  obtain ⟨hc, hcm, _, hcell⟩ := hl
  have OWN0 := Lib.hid (own_emptyL w)
  have len1 := flat_len (l.take 60)
  rcases hcell with ⟨rfl, rfl, rfl⟩ | ⟨⟨x, rfl⟩, rfl⟩ | ⟨b, off, rfl, hb, hcs⟩
  · clear len1
    go_enter Try.func5, Try.ntmps5
    go_wp2_with fail
    go_ret
    exact ⟨_, rfl, by simpa [flat] using OWN0.out, by go_grown⟩
  · clear len1
    go_enter Try.func5, Try.ntmps5
    go_wp2_with fail
    go_ret
    exact ⟨_, rfl, by simpa [flat] using OWN0.out, by go_grown⟩
  · have NW := Lib.hid (fun m => newsL hcs m (w.alloc (.cells #[] 46)) (fun k => World.cell?_alloc_past (w := w) _ _ _ hb))
    clear hcs
    by_cases h : 60 < l.length
    · have hlen : (l.take 60).length = 60 := by simp; omega
      have HLEN := Lib.hid hlen
      have LN := Lib.hid (show (flat (l.take 60)).length = 60 * 5 by rw [len1, hlen])
      clear len1 hlen
      go_enter Try.func5, Try.ntmps5
      go_wp2_with fail
      refine wp_append_own (w.alloc (.cells #[] 46)) (.tmp 8) (.tmp 9) 22 rfl w.heap.size 46 i0 (.agg #[.int .i64 0, .int .i64 0, .int .i64 0, .int .i64 0, .int .i32 0]) 5 40 Try.underlying22 hi hz0 hz1 hz2 rfl (by decide) (.slice (some ⟨w.heap.size, 0, none⟩) 0 0) 0 [] rfl OWN0.out ⟨b, off, none⟩ 60 c (flat (l.take 60)) rfl LN.out (NW.out 60) (flat_one _) ?d1 ?d2 ?d3 ?_
      case d1 => simp [maxLen]
      case d2 => omega
      case d3 => simp
      intro v' w1 hown hg hn
      go_wp2
      go_ret
      exact ⟨v', rfl, by rw [HLEN.out]; simpa using hown, grown_belowL hg⟩
    · have hlen : (l.take 60).length = l.length := by rw [List.take_of_length_le (by omega)]
      have HLEN := Lib.hid hlen
      have LN := Lib.hid (show (flat (l.take 60)).length = l.length * 5 by rw [len1, hlen])
      have h3 : l.length ≤ 60 := by omega
      have E1 := Lib.hid (show 0 + l.length ≤ maxLen by simp only [maxLen]; omega)
      have E2 := Lib.hid (show (0 + l.length) * 40 ≤ 140737488355328 by omega)
      have E3 := Lib.hid (show w.heap.size ≤ (w.alloc (.cells #[] 46)).heap.size by simp)
      clear len1 hlen h
      go_enter Try.func5, Try.ntmps5
      go_wp2_with ((at_builtin; refine wpList_append_own (w.alloc (.cells #[] 46)) rfl (.tmp 8) (.tmp 9) 22 rfl w.heap.size 46 i0 (.agg #[.int .i64 0, .int .i64 0, .int .i64 0, .int .i64 0, .int .i32 0]) 5 40 Try.underlying22 hi hz0 hz1 hz2 rfl (by decide) (.slice (some ⟨w.heap.size, 0, none⟩) 0 0) 0 [] rfl OWN0.out ⟨b, off, none⟩ l.length c (flat (l.take 60)) rfl LN.out (NW.out 60) (flat_one _) E1.out E2.out E3.out ?_; intro v' w1 hown hg hn))
      go_ret
      exact ⟨v', rfl, by rw [HLEN.out]; simpa using hown, grown_belowL hg⟩
/-- what Few leaves, as a slice of steps -/
theorem fewL_at (a : Option Addr) (c : Nat) (l t : List Q5) (w : World) (hl : L5In w a l c) (ht : t = l.take 60) :
    Calls Try.prog 5 #[.slice a l.length c] w fun e w' => ∃ a' c', e = .returned (.slice a' t.length c') ∧ L5 w' a' t ∧ Below w.heap.size w w' := by
  subst ht
  exact (fewL_any a c l w hl).mono fun e w' ⟨v, he, ho, hb⟩ => by
    obtain ⟨a', c', rfl, h5, _⟩ := l5_own ho rfl (by have := List.length_take (i := 60) (l := l); omega)
    exact ⟨a', c', he, h5, hb⟩
end Go.Proofs.Ytlieapapmkbbgaa
