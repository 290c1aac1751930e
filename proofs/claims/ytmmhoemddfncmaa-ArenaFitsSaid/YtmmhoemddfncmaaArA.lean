/- Contracts of blocks: whether they may be, whether they meet, their sizes brought up. -/
import Derived.Test.YtmmhoemddfncmaaArR
import Derived.Test.YtmmhoemddfncmaaInts
import Derived.Test.YtmmhoemddfncmaaLayg
import Derived.Shelf.SlicesQ.IndexFunc
namespace Go.Proofs.Ytmmhoemddfncmaa
open Go Go.RowKit
set_option linter.unusedVariables false

theorem info_bk : (Try.prog.info? 33).map (fun i => (i.zero, i.size, i.bytes)) = some (some (.agg #[.int .i64 0, .int .i64 0, .int .i64 0]), 3, 24) := by kernel_rfl
theorem own_emptyB (w : World) : (w.alloc (.cells #[] 33)).ownsRow w.heap.size 33 3 (.slice (some ⟨w.heap.size, 0, none⟩) 0 0) 0 [] :=
  World.ownsRow_lit w #[] 0 (Nat.le_refl _) (by decide) rfl
theorem news3 {w : World} {b off : Nat} {l : List Q3} (hc : ∀ j u, (flat3 l)[j]? = some u → w.cell? ⟨b, off + j, none⟩ = some u) (m : Nat) (w' : World)
    (hw : ∀ k, w'.cell? ⟨b, k, none⟩ = w.cell? ⟨b, k, none⟩) : ∀ j u, (flat3 (l.take m))[j]? = some u → w'.cell? ((⟨b, off, none⟩ : Addr).add j) = some u := by
  intro j u h
  rw [add_at, hw]
  rw [flat3_take, List.getElem?_take] at h
  split at h
  · exact hc j u h
  · cases h
theorem grown_belowB {w w1 : World} (hg : (w.alloc (.cells #[] 33)).grownBy w1 (Value.slice (some ⟨w.heap.size, 0, none⟩) 0 0).ownBlock) : Below w.heap.size w w1 :=
  ((Below.refl _ _).alloc (Nat.le_refl _) _).grown hg (by simp) (fun k hk => by cases hk; exact Nat.le_refl _)
def FewB (w : World) (t : List Q3) (e : Ending) (w' : World) : Prop := ∃ v, e = .returned v ∧ w'.ownsRow w.heap.size 33 3 v t.length (flat3 t) ∧ Below w.heap.size w w'

set_option maxRecDepth 100000 in
set_option maxHeartbeats 400000 in
theorem fewB_any (a : Option Addr) (c : Nat) (l : List Q3) (w : World) (hl : B3In w a l c) :
    Calls Try.prog 7 #[.slice a l.length c] w (FewB w (l.take 30)) := by
  obtain ⟨i0, hi, hz0, hz1, hz2⟩ := info_parts info_bk
  obtain ⟨hc, hcm, _, hcell⟩ := hl
  have OWN0 := Lib.hid (own_emptyB w)
  have len1 := flat3_len (l.take 30)
  rcases hcell with ⟨rfl, rfl, rfl⟩ | ⟨⟨x, rfl⟩, rfl⟩ | ⟨b, off, rfl, hb, hcs⟩
  · clear len1
    go_enter Try.func7, Try.ntmps7
    go_wp2_with fail
    go_ret
    exact ⟨_, rfl, by simpa [flat3] using OWN0.out, by go_grown⟩
  · clear len1
    go_enter Try.func7, Try.ntmps7
    go_wp2_with fail
    go_ret
    exact ⟨_, rfl, by simpa [flat3] using OWN0.out, by go_grown⟩
  · have NW := Lib.hid (fun m => news3 hcs m (w.alloc (.cells #[] 33)) (fun k => World.cell?_alloc_past (w := w) _ _ _ hb))
    clear hcs
    by_cases h : 30 < l.length
    · have hlen : (l.take 30).length = 30 := by simp; omega
      have HLEN := Lib.hid hlen
      have LN := Lib.hid (show (flat3 (l.take 30)).length = 30 * 3 by rw [len1, hlen])
      clear len1 hlen
      go_enter Try.func7, Try.ntmps7
      go_wp2_with fail
      refine wp_append_own (w.alloc (.cells #[] 33)) (.tmp 8) (.tmp 9) 22 rfl w.heap.size 33 i0 (.agg #[.int .i64 0, .int .i64 0, .int .i64 0]) 3 24 Try.underlying22 hi hz0 hz1 hz2 rfl (by decide) (.slice (some ⟨w.heap.size, 0, none⟩) 0 0) 0 [] rfl OWN0.out ⟨b, off, none⟩ 30 c (flat3 (l.take 30)) rfl LN.out (NW.out 30) (flat3_one _) ?d1 ?d2 ?d3 ?_
      case d1 => simp [maxLen]
      case d2 => omega
      case d3 => simp
      intro v' w1 hown hg hn
      go_wp2
      go_ret
      exact ⟨v', rfl, by rw [HLEN.out]; simpa using hown, grown_belowB hg⟩
    · have hlen : (l.take 30).length = l.length := by rw [List.take_of_length_le (by omega)]
      have HLEN := Lib.hid hlen
      have LN := Lib.hid (show (flat3 (l.take 30)).length = l.length * 3 by rw [len1, hlen])
      have h3 : l.length ≤ 30 := by omega
      have E1 := Lib.hid (show 0 + l.length ≤ maxLen by simp only [maxLen]; omega)
      have E2 := Lib.hid (show (0 + l.length) * 24 ≤ 140737488355328 by omega)
      have E3 := Lib.hid (show w.heap.size ≤ (w.alloc (.cells #[] 33)).heap.size by simp)
      clear len1 hlen h
      go_enter Try.func7, Try.ntmps7
      go_wp2_with ((at_builtin; refine wpList_append_own (w.alloc (.cells #[] 33)) rfl (.tmp 8) (.tmp 9) 22 rfl w.heap.size 33 i0 (.agg #[.int .i64 0, .int .i64 0, .int .i64 0]) 3 24 Try.underlying22 hi hz0 hz1 hz2 rfl (by decide) (.slice (some ⟨w.heap.size, 0, none⟩) 0 0) 0 [] rfl OWN0.out ⟨b, off, none⟩ l.length c (flat3 (l.take 30)) rfl LN.out (NW.out 30) (flat3_one _) E1.out E2.out E3.out ?_; intro v' w1 hown hg hn))
      go_ret
      exact ⟨v', rfl, by rw [HLEN.out]; simpa using hown, grown_belowB hg⟩
/-- what few leaves, as a slice of blocks -/
theorem fewB_at (a : Option Addr) (c : Nat) (l t : List Q3) (w : World) (hl : B3In w a l c) (ht : t = l.take 30) :
    Calls Try.prog 7 #[.slice a l.length c] w fun e w' => ∃ a' c', e = .returned (.slice a' t.length c') ∧ B3 w' a' t ∧ t.length ≤ c' ∧ c' ≤ 9223372036854775807 ∧ Below w.heap.size w w' := by
  subst ht
  exact (fewB_any a c l w hl).mono fun e w' ⟨v, he, ho, hb⟩ => by
    obtain ⟨a', c', rfl, h5, h6, h7⟩ := b3_own ho rfl (by have := List.length_take (i := 30) (l := l); omega)
    exact ⟨a', c', he, h5, h6, h7, hb⟩

/-! ### whether they may be -/
theorem below_dN {B n : Nat} {a w : World} (h : Below B a w) (_ : Unit) : Below B a (w.drewN n) := ⟨h.os, h.tape, h.output, h.size, h.block⟩
theorem ret_b {a b : Bool} (h : a = b) : Ending.returned (.bool a) = .returned (.bool b) := by rw [h]
theorem ok_no {x : Q3} (h : okQ x = false) : x.s < 1 ∨ (1 ≤ x.s ∧ 1048576 < x.s) ∨ (1 ≤ x.s ∧ x.s ≤ 1048576 ∧ x.t < x.f) := by
  unfold okQ at h
  simp only [decide_eq_false_iff_not] at h
  omega
theorem may_no {l : List Q3} {x : Q3} (hx : x ∈ l) (h : okQ x = false) : mayL l = false := by
  unfold mayL
  rw [Bool.and_eq_false_iff]
  right
  rw [List.all_eq_false]
  exact ⟨x, hx, by simp [h]⟩
theorem may_end {l : List Q3} (h : ∀ x ∈ l, okQ x = true) : mayL l = decide (l.length ≤ 100) := by
  unfold mayL
  rw [List.all_eq_true.mpr h, Bool.and_true]
theorem take_next {l : List Q3} {k : Nat} {x : Q3} (hx : l[k]? = some x) {p : Q3 → Prop} (h : ∀ y ∈ l.take k, p y) (hp : p x) : ∀ y ∈ l.take (k + 1), p y := by
  intro y hy
  rw [List.take_add_one, hx] at hy
  rcases List.mem_append.mp hy with hy | hy
  · exact h y hy
  · obtain rfl : y = x := by simpa using hy
    exact hp

set_option maxRecDepth 100000 in
set_option maxHeartbeats 1000000 in
theorem rmay_any (a : Option Addr) (c : Nat) (l : List Q3) (w : World) (hl : B3 w a l) :
    Calls Try.prog 9 #[.slice a l.length c] w fun e w' => e = .returned (.bool (mayL l)) ∧ ∃ n, w' = w.drewN n := by
  have hlen := hl.1
  have HL := Lib.hid hl
  clear hl
  go_enter Try.func9, Try.ntmps9
  go_wp2_with fail
  go_loopw [3] (fun i wr => ∃ k n : Nat, k ≤ l.length ∧ i = .int .i64 k ∧ wr = w.drewN n ∧ ∀ x ∈ l.take k, okQ x = true) (fun i _ => l.length - (intOf i).toNat)
  case atStart => exact ⟨0, 0, Nat.zero_le _, rfl, rfl, by simp⟩
  case round =>
    obtain ⟨k, n, hk, rfl, rfl, hT⟩ := hrel
    have TT := Lib.hid hT
    clear hT
    by_cases hlt : k < l.length
    · obtain ⟨x, hx⟩ : ∃ x, l[k]? = some x := ⟨_, List.getElem?_eq_getElem hlt⟩
      obtain ⟨_, hnil | ⟨b, off, rfl, hb, hc⟩⟩ := HL.out
      · rw [hnil] at hlt; simp at hlt
      obtain ⟨c0, c1, c2⟩ := hc k x hx
      have HX := Lib.hid hx
      have HM := Lib.hid (List.mem_of_getElem? hx)
      clear hc hx
      cases ho : okQ x with
      | true =>
        have t : 1 ≤ x.s ∧ x.s ≤ 1048576 ∧ x.f ≤ x.t := by unfold okQ at ho; simpa using ho
        have HO := Lib.hid ho
        have t1 : decide (x.s < 1) = false := by simp; omega
        have t2 : decide (1048576 < x.s) = false := by simp; omega
        have t3 : decide (x.t < x.f) = false := by simp; omega
        clear ho t
        go_wp2_with fail
        go_quiet (fail)
        go_wp2_with fail
        go_roundw
        case measure => simp [intOf]; omega
        case rel => exact ⟨k + 1, _, by omega, by go_num, rfl, take_next HX.out TT.out HO.out⟩
      | false =>
        have HO := Lib.hid ho
        rcases ok_no ho with h | ⟨h1, h2⟩ | ⟨h1, h2, h3⟩
        · have t1 : decide (x.s < 1) = true := by simp; omega
          clear ho
          go_wp2_with fail
          go_quiet (fail)
          go_wp2_with fail
          go_ret
          exact ⟨ret_b (may_no HM.out HO.out).symm, _, World.drewN_drewN _ _ _⟩
        · have t1 : decide (x.s < 1) = false := by simp; omega
          have t2 : decide (1048576 < x.s) = true := by simp; omega
          clear ho
          go_wp2_with fail
          go_quiet (fail)
          go_wp2_with fail
          go_ret
          exact ⟨ret_b (may_no HM.out HO.out).symm, _, World.drewN_drewN _ _ _⟩
        · have t1 : decide (x.s < 1) = false := by simp; omega
          have t2 : decide (1048576 < x.s) = false := by simp; omega
          have t3 : decide (x.t < x.f) = true := by simp; omega
          clear ho
          go_wp2_with fail
          go_quiet (fail)
          go_wp2_with fail
          go_ret
          exact ⟨ret_b (may_no HM.out HO.out).symm, _, World.drewN_drewN _ _ _⟩
    · obtain rfl : k = l.length := by omega
      have E := Lib.hid (may_end (l := l) (by have := TT.out; rw [List.take_of_length_le (Nat.le_refl _)] at this; exact this))
      by_cases h1 : l.length ≤ 100
      · go_wp2_with fail
        go_ret
        exact ⟨ret_b (by rw [E.out]; simp; omega), _, rfl⟩
      · go_wp2_with fail
        go_ret
        exact ⟨ret_b (by rw [E.out]; simp; omega), _, rfl⟩

set_option maxHeartbeats 1000000 in
theorem wrong_any (x : Q3) (w : World) : Calls Try.prog 23 #[.agg #[.int .i64 x.s, .int .i64 x.f, .int .i64 x.t]] w fun e w' => e = .returned (.bool (!okQ x)) ∧ Below w.heap.size w w' := by
  cases ho : okQ x with
  | true =>
    have t : 1 ≤ x.s ∧ x.s ≤ 1048576 ∧ x.f ≤ x.t := by unfold okQ at ho; simpa using ho
    have t1 : decide (x.s < 1) = false := by simp; omega
    have t2 : decide (1048576 < x.s) = false := by simp; omega
    have t3 : decide (x.t < x.f) = false := by simp; omega
    clear ho t
    go_enter Try.func23, Try.ntmps23
    go_wp2_with fail
    go_ret
    exact ⟨rfl, by go_grown⟩
  | false =>
    rcases ok_no ho with h | ⟨h1, h2⟩ | ⟨h1, h2, h3⟩
    · have t1 : decide (x.s < 1) = true := by simp; omega
      clear ho
      go_enter Try.func23, Try.ntmps23
      go_wp2_with fail
      go_ret
      exact ⟨rfl, by go_grown⟩
    · have t1 : decide (x.s < 1) = false := by simp; omega
      have t2 : decide (1048576 < x.s) = true := by simp; omega
      clear ho
      go_enter Try.func23, Try.ntmps23
      go_wp2_with fail
      go_ret
      exact ⟨rfl, by go_grown⟩
    · have t1 : decide (x.s < 1) = false := by simp; omega
      have t2 : decide (1048576 < x.s) = false := by simp; omega
      have t3 : decide (x.t < x.f) = true := by simp; omega
      clear ho
      go_enter Try.func23, Try.ntmps23
      go_wp2_with fail
      go_ret
      exact ⟨rfl, by go_grown⟩

theorem has_any (a : Option Addr) (c : Nat) (l : List Q3) (w : World) (hl : B3 w a l) (hn : l ≠ []) :
    Calls Try.prog 24 #[.slice a l.length c, .func (.func 23) #[] #[]] w fun e w' => e = .returned (.bool (l.any fun x => !okQ x)) ∧ Below w.heap.size w w' := by
  obtain ⟨hlen, h | ⟨b, off, rfl, hb, hc⟩⟩ := hl
  · exact absurd h hn
  have eg : ∀ args w, (callFunc 23 args).run Try.prog w = .ok (.enter 23 args) w := enters_of Try.func23 (by kernel_rfl) rfl
  have hcon := AnyQ.slices_ContainsFunc hasBk 3 Try.isAgg33 Try.sizeOf33 Q3.cells (fun _ => rfl) (fun x => !okQ x) 23 #[] eg b off l.length c l w
    (fun W x hW => (wrong_any x W).mono fun e w' h => ⟨h.1, hW.trans (h.2.mono hW.size)⟩) (Nat.le_refl _) (by omega) hb (fun j hj i v hi => by
      obtain ⟨y, hy⟩ : ∃ y, l[j]! = y := ⟨_, rfl⟩
      rw [hy] at hi
      obtain ⟨c0, c1, c2⟩ := hc j y (by rw [← hy, getElem!_pos l j hj]; exact List.getElem?_eq_getElem hj)
      match i, hi with
      | 0, hi => simp [Q3.cells] at hi; rw [← hi]; exact c0
      | 1, hi => simp [Q3.cells] at hi; rw [← hi]; exact c1
      | 2, hi => simp [Q3.cells] at hi; rw [← hi]; exact c2
      | i + 3, hi => simp [Q3.cells] at hi)
  rw [List.take_of_length_le (Nat.le_refl _)] at hcon
  exact hcon

set_option maxHeartbeats 1000000 in
theorem hasF_nil (a : Option Addr) (c : Nat) (v : Value) (w : World) :
    Calls Try.prog 24 #[.slice a 0 c, v] w fun e w' => e = .returned (.bool false) ∧ w' = w := by
  go_enter Try.func24, Try.ntmps24
  go_wp2
  go_rounds 1
  all_goals go_ret
  all_goals exact ⟨rfl, rfl⟩

theorem any_not {l : List Q3} : (l.any fun x => !okQ x) = !l.all okQ := by
  induction l with
  | nil => rfl
  | cons x l ih => simp [ih]
set_option maxHeartbeats 1000000 in
theorem may_any (a : Option Addr) (c : Nat) (l : List Q3) (w : World) (hl : B3 w a l) :
    Calls Try.prog 16 #[.slice a l.length c] w fun e w' => e = .returned (.bool (mayL l)) ∧ Below w.heap.size w w' := by
  have hlen := hl.1
  by_cases h1 : l.length ≤ 100
  · have C := Lib.hid (show Calls Try.prog 24 #[.slice a l.length c, .func (.func 23) #[] #[]] w fun e w' => e = .returned (.bool (!mayL l)) ∧ Below w.heap.size w w' by
      have e : (l.any fun x => !okQ x) = !mayL l := by rw [any_not]; unfold mayL; simp [h1]
      by_cases hn : l = []
      · subst hn
        exact (hasF_nil a c _ w).mono fun e w' h => ⟨by rw [h.1]; rfl, by rw [h.2]; exact Below.refl _ _⟩
      · rw [← e]
        exact has_any a c l w hl hn)
    generalize mayL l = r at C ⊢
    have t1 : decide ((l.length : Int) ≤ 100) = true := by simp; omega
    clear hl
    go_enter Try.func16, Try.ntmps16
    go_wp2_with fail
    refine C.out.mono ?_
    rintro e w1 ⟨rfl, hb⟩
    have HB := Lib.hid hb
    clear hb
    go_wp2_with fail
    go_ret
    exact ⟨by simp, HB.out⟩
  · have e : mayL l = false := by unfold mayL; simp; omega
    rw [e]
    have t1 : decide ((l.length : Int) ≤ 100) = false := by simp; omega
    clear hl
    go_enter Try.func16, Try.ntmps16
    go_wp2_with fail
    go_ret
    exact ⟨rfl, Below.refl _ _⟩

set_option maxHeartbeats 1000000 in
theorem meet_any (a b : Q3) (w : World) :
    Calls Try.prog 18 #[.agg #[.int .i64 a.s, .int .i64 a.f, .int .i64 a.t], .agg #[.int .i64 b.s, .int .i64 b.f, .int .i64 b.t]] w fun e w' => e = .returned (.bool (meetQ a b)) ∧ Below w.heap.size w w' := by
  obtain ⟨a0, a1, a2⟩ := a
  obtain ⟨b0, b1, b2⟩ := b
  simp only
  go_enter Try.func18, Try.ntmps18
  go_wp2
  all_goals go_ret
  all_goals exact ⟨ret_b (by unfold meetQ; simp only; rw [decide_eq_decide]; omega), by go_grown⟩
set_option maxHeartbeats 1000000 in
theorem rmeet_any (a b : Q3) (w : World) :
    Calls Try.prog 13 #[.agg #[.int .i64 a.s, .int .i64 a.f, .int .i64 a.t], .agg #[.int .i64 b.s, .int .i64 b.f, .int .i64 b.t]] w fun e w' => e = .returned (.bool (meetQ a b)) ∧ Below w.heap.size w w' := by
  obtain ⟨a0, a1, a2⟩ := a
  obtain ⟨b0, b1, b2⟩ := b
  simp only
  by_cases h1 : a1 < b1
  all_goals
    by_cases h2 : b2 < a2
  all_goals
    go_enter Try.func13, Try.ntmps13
    go_wp2
    all_goals (try (go_quiet (fail); go_wp2_with fail))
    all_goals go_ret
    all_goals refine ⟨ret_b ?_, below_dN (by go_grown) ()⟩
    all_goals unfold meetQ
    all_goals simp only
    all_goals first | (rw [decide_eq_decide]; omega) | (simp; omega) | (simp at *; omega) | trace_state
set_option maxHeartbeats 1000000 in
theorem round_any (a : Q3) (w : World) (h1 : 1 ≤ a.s) (h2 : a.s ≤ 1048576) :
    Calls Try.prog 19 #[.agg #[.int .i64 a.s, .int .i64 a.f, .int .i64 a.t]] w fun e w' => e = .returned (.int .i64 (upI a.s)) ∧ Below w.heap.size w w' := by
  obtain ⟨a0, a1, a2⟩ := a
  simp only at h1 h2 ⊢
  obtain ⟨q, hq⟩ : ∃ q, q = (a0 + 3) / 4 := ⟨_, rfl⟩
  have e1 : Int.tdiv (a0 + 3) 4 = q := by rw [Int.tdiv_eq_ediv_of_nonneg (by omega)]; omega
  have e2 : upI a0 = q * 4 := by unfold upI; rw [hq]
  have hb : 1 ≤ q ∧ q ≤ 262145 := by omega
  have e3 : a0 + 4 - 1 = a0 + 3 := by omega
  have e4 : (a0 + 3) / 4 = q := hq.symm
  rw [e2]
  clear hq e2
  go_enter Try.func19, Try.ntmps19
  go_wp2_with fail
  go_ret
  exact ⟨by first | rfl | (congr 2; omega), by go_grown⟩
set_option maxHeartbeats 1000000 in
theorem rup_any (s : Int) (w : World) (h1 : 1 ≤ s) (h2 : s ≤ 1048576) :
    Calls Try.prog 14 #[.int .i64 s] w fun e w' => e = .returned (.int .i64 (upI s)) ∧ w' = w := by
  go_enter Try.func14, Try.ntmps14
  go_wp2_with fail
  go_loopw [0] (fun i wr => ∃ x : Int, s ≤ x ∧ x ≤ s + 3 ∧ upI x = upI s ∧ i = .int .i64 x ∧ wr = w) (fun i _ => (s + 4 - intOf i).toNat)
  case atStart => exact ⟨s, Int.le_refl _, by omega, rfl, rfl, rfl⟩
  case round =>
    obtain ⟨x, hx1, hx2, hx3, rfl, rfl⟩ := hrel
    have HX := Lib.hid hx3
    have e1 : Int.tmod x 4 = x % 4 := Int.tmod_eq_emod_of_nonneg (by omega)
    obtain ⟨r, hr⟩ : ∃ r, r = x % 4 := ⟨_, rfl⟩
    have hr2 : x % 4 = r := hr.symm
    by_cases h : r = 0
    · have t : (r != 0) = false := by simp [h]
      have E : upI s = x := by rw [← hx3]; unfold upI; omega
      have EE := Lib.hid E
      clear hx3 h hr E
      go_wp2_with fail
      go_ret
      exact ⟨by rw [EE.out]; rfl, rfl⟩
    · have t : (r != 0) = true := by simpa using h
      have hx3' : x < s + 3 ∨ x = s + 3 := by omega
      have E : upI (x + 1) = upI x := by unfold upI; omega
      have hb3 : x + 1 ≤ s + 3 := by
        have h4 := upI_bd h1
        have : upI s = upI x := hx3.symm
        unfold upI at this h4
        omega
      have EE := Lib.hid E
      clear hx3 h hr hx3' E
      go_wp2_with fail
      refine ⟨⟨x + 1, by omega, hb3, EE.out.trans HX.out, by first | rfl | trivial, by first | rfl | trivial⟩, by simp [intOf]; omega⟩
end Go.Proofs.Ytmmhoemddfncmaa
