/- Package flow: Reach's own blocks, and what it comes to. -/
import Derived.Test.YtmlhoagcppofgaaDoorFlF
import Derived.Test.YtmlhoagcppofgaaDoorFlG
import Derived.Deep.LoopGhost
import Derived.Deep.AppendLies
namespace Go.Proofs.YtmlhoagcppofgaaDoor
open Go Go.RowKit Pl
set_option linter.unusedVariables false

theorem own_under {m : Nat} {w w' : World} {base n size : Nat} {e : TypeId} {v : Value} {xs : List Value} (h : w.ownsRow base e size v n xs) (hv : ∀ k, v.ownBlock = some k → k < m) (hb : Below m w w') : w'.ownsRow base e size v n xs := by
  obtain ⟨hl, hh⟩ := h
  refine ⟨hl, ?_⟩
  rcases hh with hn | ⟨g, cap, cur, hv', hg, hheap, rest⟩
  · exact .inl hn
  · exact .inr ⟨g, cap, cur, hv', hg, (hb.block g (hv g (by rw [hv']; rfl))).trans hheap, rest⟩
/-- Reach's own blocks -/
structure RcIs (w : World) (B R A O : Nat) (a : Option Addr) (n c : Nat) (S : Nat → Bool) (L : List Nat) (W : World) : Prop where
  cB : W.cell? ⟨B, 0, none⟩ = some (.slice a n c)
  cA : W.cell? ⟨A, 0, none⟩ = some (.slice (some ⟨R, 0, none⟩) n n)
  row : W.ownsRow w.heap.size 4 1 (.slice (some ⟨R, 0, none⟩) n n) n (rowB S n)
  bx : ∃ x, Boxed W O 24 x ∧ OwnI W O x (castI L)
  lB : w.heap.size ≤ B
  lR : B < R
  lA : R < A
  lO : A < O
  bl : Below w.heap.size w W
theorem RcIs.ltO {w W : World} {B R A O n c : Nat} {a : Option Addr} {S : Nat → Bool} {L : List Nat} (h : RcIs w B R A O a n c S L W) : O < W.heap.size := by
  obtain ⟨x, hx, _⟩ := h.bx
  exact hx.lt
theorem RcIs.later {w W W' : World} {B R A O n c : Nat} {a : Option Addr} {S : Nat → Bool} {L : List Nat} (h : RcIs w B R A O a n c S L W) (hb : Below W.heap.size W W') : RcIs w B R A O a n c S L W' := by
  have hl := h.ltO
  have h1 := h.lB
  have h2 := h.lR
  have h3 := h.lA
  have h4 := h.lO
  obtain ⟨x, hx, hy⟩ := h.bx
  exact { cB := (hb.cell (p := ⟨B, 0, none⟩) (by show B < _; omega)).trans h.cB, cA := (hb.cell (p := ⟨A, 0, none⟩) (by show A < _; omega)).trans h.cA, row := own_laterF h.row hb, bx := ⟨x, hx.kept (grown_of_below hb none) (by simp), own_later hy hb⟩, lB := h1, lR := h2, lA := h3, lO := h4, bl := below_trans h.bl hb }
/-- the world turned at the open ones' box and above alone -/
theorem RcIs.opened {w W W' : World} {B R A O n c : Nat} {a : Option Addr} {S : Nat → Bool} {L L' : List Nat} (h : RcIs w B R A O a n c S L W) (hb : Below O W W') (hx : ∃ x, Boxed W' O 24 x ∧ OwnI W' O x (castI L')) : RcIs w B R A O a n c S L' W' := by
  have h1 := h.lB
  have h2 := h.lR
  have h3 := h.lA
  have h4 := h.lO
  exact { cB := (hb.cell (p := ⟨B, 0, none⟩) (by show B < _; omega)).trans h.cB, cA := (hb.cell (p := ⟨A, 0, none⟩) (by show A < _; omega)).trans h.cA, row := own_under h.row (fun k hk => by cases hk; show R < O; omega) hb, bx := hx, lB := h1, lR := h2, lA := h3, lO := h4, bl := h.bl.trans (hb.mono (by omega)) }
theorem RcIs.set {w W : World} {B R A O n c : Nat} {a : Option Addr} {S : Nat → Bool} {L : List Nat} (h : RcIs w B R A O a n c S L W) (k : Nat) : RcIs w B R A O a n c (setS S k) L (W.setCell ⟨R, k, none⟩ (.bool true)) := by
  have h1 := h.lB
  have h2 := h.lR
  have h3 := h.lA
  have h4 := h.lO
  obtain ⟨x, hx, hy⟩ := h.bx
  have st := h.row.stored k (.bool true)
  have nR : some O ≠ some R := by intro e; have := Option.some.inj e; omega
  refine { cB := ?_, cA := ?_, row := by rw [← rowB_set]; exact st.1, bx := ⟨x, hx.kept st.2 nR, ?_⟩, lB := h1, lR := h2, lA := h3, lO := h4, bl := h.bl.setCell (p := ⟨R, k, none⟩) (by show w.heap.size ≤ R; omega) _ }
  · exact st.2.cell h.cB (by intro e; have := Option.some.inj e; simp at this; omega)
  · exact st.2.cell h.cA (by intro e; have := Option.some.inj e; simp at this; omega)
  · refine hy.kept st.2 ?_
    cases hq : x.ownBlock with
    | none => exact .inl rfl
    | some q =>
      have := (hy.lt q hq).1
      exact .inr (by intro e; have := Option.some.inj e; omega)
set_option maxRecDepth 100000 in
set_option maxHeartbeats 1000000 in
theorem come_old {w W : World} {B R A O n c : Nat} {a : Option Addr} {S : Nat → Bool} {L : List Nat} (k : Int) (h : RcIs w B R A O a n c S L W) (hn : n ≤ 1000) (hk : ∀ j : Nat, k = j → j < n → S j = true) :
    Calls Tryd.prog 31 #[.int .i64 k, .pointer (some ⟨B, 0, none⟩), .pointer (some ⟨A, 0, none⟩), .pointer (some ⟨O, 0, none⟩)] W fun e W' => e = .returned (.tuple #[]) ∧ W = W' := by
  have cB := h.cB
  have cA := h.cA
  have IP := Lib.hid (fun W => isPlace_any a n c k W hn)
  by_cases hp : 0 ≤ k ∧ k < (n : Int)
  · obtain ⟨j, rfl⟩ : ∃ j : Nat, k = j := ⟨k.toNat, by omega⟩
    rw [decide_eq_true hp] at IP
    have hj : j < n := by omega
    have cJ := (h.row.cellAt j (by omega)).trans (rowB_at hj)
    rw [hk j rfl hj] at cJ
    clear hp h hk
    go_enter Tryd.func31, Tryd.ntmps31
    go_wp2_with (first | (go_at_call 20; refine (IP.out _).mono ?_; rintro e w3 ⟨rfl, rfl⟩))
    go_end0
    exact ⟨rfl, rfl⟩
  · rw [decide_eq_false hp] at IP
    clear hp h hk
    go_enter Tryd.func31, Tryd.ntmps31
    go_wp2_with (first | (go_at_call 20; refine (IP.out _).mono ?_; rintro e w3 ⟨rfl, rfl⟩))
    go_end0
    exact ⟨rfl, rfl⟩
/-- the open ones do not lie in a block -/
def FreeOf (W : World) (O G : Nat) : Prop := ∀ x, W.cell? ⟨O, 0, none⟩ = some x → x.ownBlock ≠ some G
set_option maxRecDepth 100000 in
set_option maxHeartbeats 1000000 in
theorem come_new {w W : World} {B R A O n c : Nat} {a : Option Addr} {S : Nat → Bool} {L : List Nat} (k : Nat) (h : RcIs w B R A O a n c S L W) (hn : n ≤ 1000) (hk : k < n) (hs : S k = false) (hL : L.length ≤ 1000) :
    Calls Tryd.prog 31 #[.int .i64 (k : Nat), .pointer (some ⟨B, 0, none⟩), .pointer (some ⟨A, 0, none⟩), .pointer (some ⟨O, 0, none⟩)] W fun e W' => e = .returned (.tuple #[]) ∧ RcIs w B R A O a n c (setS S k) (L ++ [k]) W' ∧ W.heap.size ≤ W'.heap.size ∧ ∀ G, G < W.heap.size → G ≠ R → G ≠ O → FreeOf W O G → W'.heap[G]? = W.heap[G]? ∧ FreeOf W' O G := by
  obtain ⟨i0, hi0, hz0, hz1, hz2⟩ := info_parts info_int
  have cB := h.cB
  have cA := h.cA
  have IP := Lib.hid (fun W => isPlace_any a n c k W hn)
  rw [decide_eq_true (show 0 ≤ (k : Int) ∧ (k : Int) < (n : Int) by omega)] at IP
  have cJ := (h.row.cellAt k (by omega)).trans (rowB_at hk)
  rw [hs] at cJ
  have fz := h.row.frozenAt k
  have h2 := h.set k
  have HS := Lib.hid h2
  obtain ⟨x, bx, own⟩ := h2.bx
  obtain ⟨ax, cx, rfl⟩ := own_formF own
  have cO := bx.cell
  have hO := bx.lt
  have EL : (castI L).length = L.length := castI_len L
  have E1 := Lib.hid (show (castI L).length + 1 ≤ maxLen by rw [EL]; simp only [maxLen]; omega)
  have E2 := Lib.hid (show ((castI L).length + 1) * 8 ≤ 140737488355328 by rw [EL]; omega)
  have NW2 := news_one (W.setCell ⟨R, k, none⟩ (.bool true)) (k : Int) W.heap.size (by simp)
  have OWN := Lib.hid own
  have hO2 : O < W.heap.size := by simpa using hO
  have hRO : R < O := Nat.lt_trans h.lA h.lO
  have DN := Lib.hid (fun (w1 : World) (v' : Value) (hown : w1.ownsRow O 3 1 v' ((castI L).length + 1) ((castI L).map iv ++ [.int .i64 (k : Int)])) hg => Boxed.appended (tmp := .cells #[.int .i64 (k : Int)] 3) bx int_not_row own (Nat.le_of_lt hO) (Nat.le_refl O) hown hg)
  have FR := Lib.hid (fun (w1 : World) (g1 c1 : Nat) (hg : ((W.setCell ⟨R, k, none⟩ (.bool true)).alloc (.cells #[.int .i64 (k : Int)] 3)).grownBy w1 (Value.slice ax (castI L).length cx).ownBlock) (hb : Boxed (w1.setCell ⟨O, 0, none⟩ (.slice (some ⟨g1, 0, none⟩) ((castI L).length + 1) c1)) O 24 (.slice (some ⟨g1, 0, none⟩) ((castI L).length + 1) c1)) (hl : (Value.slice ax (castI L).length cx).ownBlock = some g1 ∨ g1 = W.heap.size + 1) =>
    show ∀ G, G < W.heap.size → G ≠ R → G ≠ O → FreeOf W O G → (w1.setCell ⟨O, 0, none⟩ (.slice (some ⟨g1, 0, none⟩) ((castI L).length + 1) c1)).heap[G]? = W.heap[G]? ∧ FreeOf (w1.setCell ⟨O, 0, none⟩ (.slice (some ⟨g1, 0, none⟩) ((castI L).length + 1) c1)) O G from fun G hG nR nO hf => by
      have cOW : W.cell? ⟨O, 0, none⟩ = some (.slice ax (castI L).length cx) := by
        have h1 : (W.setCell ⟨R, k, none⟩ (.bool true)).heap[O]? = W.heap[O]? := Below.heap_setCell W ⟨R, k, none⟩ (.bool true) O (by show O ≠ R; omega)
        have := cO
        unfold World.cell? at this ⊢
        rw [h1] at this
        exact this
      have nf := hf _ cOW
      constructor
      · have h1 : (w1.setCell ⟨O, 0, none⟩ (.slice (some ⟨g1, 0, none⟩) ((castI L).length + 1) c1)).heap[G]? = w1.heap[G]? := Below.heap_setCell w1 ⟨O, 0, none⟩ _ G (by show G ≠ O; omega)
        have h2 := hg.block G (by simp; omega) (fun e => nf e.symm)
        have h3 : ((W.setCell ⟨R, k, none⟩ (.bool true)).alloc (.cells #[.int .i64 (k : Int)] 3)).heap[G]? = (W.setCell ⟨R, k, none⟩ (.bool true)).heap[G]? := Below.heap_alloc _ _ _ (by simp; omega)
        have h4 : (W.setCell ⟨R, k, none⟩ (.bool true)).heap[G]? = W.heap[G]? := Below.heap_setCell W ⟨R, k, none⟩ (.bool true) G (by show G ≠ R; omega)
        rw [h1, h2, h3, h4]
      · intro x hx e
        rw [hb.cell] at hx
        cases hx
        have e' : g1 = G := by simpa [Value.ownBlock] using e
        rcases hl with hl | hl
        · rw [e'] at hl; exact nf hl
        · omega)
  clear h h2 bx own hs EL hO
  go_enter Tryd.func31, Tryd.ntmps31
  go_wp2_with (first | (go_at_call 20; refine (IP.out _).mono ?_; rintro e w3 ⟨rfl, rfl⟩) | (at_builtin; refine wpList_append_lies _ rfl (.tmp 18) (.tmp 20) 24 rfl O 3 i0 (.int .i64 0) 1 8 Tryd.underlying24 hi0 hz0 hz1 hz2 rfl (by decide) _ _ _ rfl (OWN.out.alloc _) ⟨_, 0, none⟩ 1 1 [.int .i64 (k : Int)] rfl rfl NW2 (by simp [Value.oneCell']) (by decide) E1.out E2.out (by simp; omega) (W.heap.size + 1) (by simp) ?_; intro g1 c1 w4 hown hg hli hlt; have D := DN.out _ _ hown hg; have d1 := D.1.cell; have d2 := D.1.frozen; have D3 := Lib.hid (And.intro D (FR.out w4 g1 c1 hg D.2.1 hli)); clear D hown hg hli))
  go_end0
  refine ⟨rfl, HS.out.opened D3.out.1.2.2.2.2 ⟨_, D3.out.1.2.1, ?_⟩, by have := D3.out.1.2.2.2.2.size; simpa using this, D3.out.2⟩
  rw [castI_put]
  unfold OwnI
  rw [List.length_append, List.map_append]
  exact D3.out.1.2.2.1
end Go.Proofs.YtmlhoagcppofgaaDoor
