/- Plain mathematics of blocks: where they lie, by the program and by the document. -/
import Derived.Test.YtmmhoemddfncmaaArP
namespace Go.Proofs.Ytmmhoemddfncmaa
open Go Go.RowKit
set_option linter.unusedVariables false

def meetQ (a b : Q3) : Bool := decide (a.f ≤ a.t ∧ a.f ≤ b.t ∧ b.f ≤ a.t ∧ b.f ≤ b.t)
theorem meetQ_comm (a b : Q3) : meetQ a b = meetQ b a := by unfold meetQ; rw [decide_eq_decide]; omega
def upI (n : Int) : Int := (n + 3) / 4 * 4
theorem upI_bd {n : Int} (h : 1 ≤ n) : n ≤ upI n ∧ upI n ≤ n + 3 ∧ upI n % 4 = 0 := by unfold upI; omega
def okQ (x : Q3) : Bool := decide (1 ≤ x.s ∧ x.s ≤ 1048576 ∧ x.f ≤ x.t)
def mayL (l : List Q3) : Bool := decide (l.length ≤ 100) && l.all okQ
def qAt (l : List Q3) (i : Int) : Q3 := l.getD i.toNat default
def wA (W : List Int) (i : Int) : Int := W.getD i.toNat 0
def gapS (size : Int) (l : List Rm) : Int := gapL size (l.mergeSort fun a b => decide (a.1 ≤ b.1))
theorem ms_mem (l : List Rm) (r : Rm) : r ∈ (l.mergeSort fun a b => decide (a.1 ≤ b.1)) ↔ r ∈ l := (List.mergeSort_perm l _).mem_iff
theorem ms_rising (l : List Rm) : Rising (l.mergeSort fun a b => decide (a.1 ≤ b.1)) := by
  have h := List.pairwise_mergeSort (le := fun (a b : Rm) => decide (a.1 ≤ b.1)) (by intro a b c h1 h2; simp at *; omega) (by intro a b; simp; omega) l
  exact h.imp fun h => by simpa using h
theorem gapS_best {size : Int} (hs : 0 < size) {l : List Rm} (hg : GoodR l) : Best l size (gapS size l) :=
  (gap_best hs (ms_rising l) (fun r h => hg r ((ms_mem l r).1 h))).perm (ms_mem l)
theorem gapS_eq {size : Int} (hs : 0 < size) {l m : List Rm} (hg : GoodR l) (hm : ∀ r, r ∈ m ↔ r ∈ l) (hr : Rising m) : gapL size m = gapS size l :=
  gap_unique hs hg hm hr (gapS_best hs hg)
theorem Best.nonneg {l : List Rm} {size b : Int} (hg : GoodR l) (h : Best l size b) : 0 ≤ b := by
  have e : Edge l b := by
    rcases h with ⟨t, h1, _⟩ | ⟨_, h1⟩
    · exact h1.1
    · exact h1.1
  rcases e.1 with rfl | ⟨r, hr, rfl⟩
  · omega
  · have := hg r hr; omega
/-- nothing lies where the place is taken -/
theorem Best.free {l : List Rm} {size b : Int} (h : Best l size b) : ∀ r ∈ l, ¬ (r.1 < b + size ∧ b < r.2) := by
  intro r hr ⟨h1, h2⟩
  rcases h with ⟨t, ⟨⟨_, g1⟩, g2, _, g3⟩, hs, _⟩ | ⟨_, ⟨⟨_, g1⟩, g2⟩⟩
  · have a := g1 r hr
    have c := g3 r hr
    omega
  · have a := g1 r hr
    have c := g2 r hr
    omega
/-- .. and it ends no farther than the rooms, or begins where they end -/
theorem Best.top {l : List Rm} {size b N : Int} (hg : GoodR l) (hN : 0 ≤ N) (ht : ∀ r ∈ l, r.2 ≤ N) (h : Best l size b) : b ≤ N ∧ (b + size ≤ N ∨ IsEnd l b) := by
  rcases h with ⟨t, ⟨⟨g0, g1⟩, g2, ⟨r, hr, rfl⟩, g3⟩, hs, _⟩ | ⟨_, h⟩
  · have := ht r hr
    have := hg r hr
    exact ⟨by omega, .inl (by omega)⟩
  · refine ⟨?_, .inr h⟩
    rcases h.1.1 with rfl | ⟨r, hr, rfl⟩
    · exact hN
    · exact ht r hr

/-- the rooms of those that are laid and needed at one time with block i -/
def roomsP (l : List Q3) (W laid : List Int) (i : Int) : List Rm := (laid.filter fun k => meetQ (qAt l i) (qAt l k)).map fun k => (wA W k, wA W k + upI (qAt l k).s)
abbrev FitS := List Int × Int × List Int
def placeP (l : List Q3) (S : FitS) (i : Int) : Int := gapS (upI (qAt l i).s) (roomsP l S.1 S.2.2 i)
def stepP (l : List Q3) (S : FitS) (i : Int) : FitS := (S.1.set i.toNat (placeP l S i), max S.2.1 (placeP l S i + upI (qAt l i).s), S.2.2 ++ [i])
def startP (l : List Q3) : FitS := (List.replicate l.length 0, 0, [])

/-! ### the order -/
def cmpI (x y : Int) : Int := if x < y then -1 else if y < x then 1 else 0
def fC (l : List Q3) (i k : Int) : Int := if cmpI (qAt l k).s (qAt l i).s ≠ 0 then cmpI (qAt l k).s (qAt l i).s else cmpI (qAt l i).f (qAt l k).f
def ltC (l : List Q3) (i k : Int) : Bool := decide (fC l i k < 0)
def aheadQ (l : List Q3) (i k : Int) : Bool := if (qAt l i).s ≠ (qAt l k).s then decide ((qAt l k).s < (qAt l i).s) else if (qAt l i).f ≠ (qAt l k).f then decide ((qAt l i).f < (qAt l k).f) else decide (i < k)
theorem ltC_iff {l : List Q3} {i k : Int} : ltC l i k = true ↔ (qAt l k).s < (qAt l i).s ∨ ((qAt l i).s = (qAt l k).s ∧ (qAt l i).f < (qAt l k).f) := by
  unfold ltC fC cmpI
  simp only [decide_eq_true_eq]
  split <;> (repeat' split) <;> omega
theorem ahead_iff {l : List Q3} {i k : Int} : aheadQ l i k = true ↔ (qAt l k).s < (qAt l i).s ∨ ((qAt l i).s = (qAt l k).s ∧ ((qAt l i).f < (qAt l k).f ∨ ((qAt l i).f = (qAt l k).f ∧ i < k))) := by
  unfold aheadQ
  repeat' split
  all_goals simp only [decide_eq_true_eq]
  all_goals omega
theorem ahead_trn (l : List Q3) : Trn (aheadQ l) := by
  intro x y z h1 h2
  rw [ahead_iff] at *
  omega
theorem ahead_asym {l : List Q3} {i k : Int} (h : aheadQ l i k = true) : ¬ aheadQ l k i = true := by
  rw [ahead_iff] at *
  omega
theorem ahead_tot {l : List Q3} {i k : Int} (h : i ≠ k) : aheadQ l i k = true ∨ aheadQ l k i = true := by
  rw [ahead_iff, ahead_iff]
  omega
theorem cross_risingC (l : List Q3) {o : List Int} (h : o.Pairwise (· < ·)) : CrossIn (ltC l) (aheadQ l) o := by
  refine h.imp ?_
  intro x y hxy
  constructor
  · intro h1
    rw [ltC_iff] at h1
    rw [ahead_iff]
    omega
  · intro h1
    have h1 : ¬ ltC l y x = true := by rw [h1]; simp
    rw [ltC_iff] at h1
    rw [ahead_iff]
    omega
def rangeI (n : Nat) : List Int := (List.range n).map fun k : Nat => (k : Int)
theorem rangeI_rising (n : Nat) : (rangeI n).Pairwise (· < ·) := by
  unfold rangeI
  rw [List.pairwise_map]
  exact List.pairwise_lt_range.imp fun h => by omega
theorem rangeI_mem {n : Nat} {k : Int} : k ∈ rangeI n ↔ 0 ≤ k ∧ k < n := by
  unfold rangeI
  simp only [List.mem_map, List.mem_range]
  constructor
  · rintro ⟨a, h, rfl⟩; omega
  · rintro ⟨h1, h2⟩; exact ⟨k.toNat, by omega, by omega⟩
def orderC (l : List Q3) : List Int := stableS (ltC l) (rangeI l.length)
theorem order_spec (l : List Q3) : (orderC l).Perm (rangeI l.length) ∧ Srt (aheadQ l) (orderC l) :=
  stable_spec (ahead_trn l) _ (cross_risingC l (rangeI_rising _))
theorem order_mem {l : List Q3} {k : Int} : k ∈ orderC l ↔ 0 ≤ k ∧ k < l.length := (order_spec l).1.mem_iff.trans rangeI_mem
theorem order_len (l : List Q3) : (orderC l).length = l.length := by rw [(order_spec l).1.length_eq]; simp [rangeI]
def fitP (l : List Q3) : FitS := (orderC l).foldl (stepP l) (startP l)

/-! ### the document -/
def roomsR (l : List Q3) (A : List Int) (i : Int) : List Rm := ((rangeI l.length).filter fun k => decide (0 ≤ wA A k) && meetQ (qAt l i) (qAt l k)).map fun k => (wA A k, wA A k + upI (qAt l k).s)
def bareR (R : List Rm) (e : Int) : Bool := R.all fun r => !(decide (r.1 < e + 1) && decide (e < r.2))
def toR (R : List Rm) (e : Int) : Int := R.foldl (fun to r => if e < r.1 ∧ (to < 0 ∨ r.1 < to) then r.1 else to) (-1)
def gapsR (R : List Rm) : List Rm := ((0 :: R.map fun r => r.2).filter (bareR R)).map fun e => (e, toR R e)
def pickT (size : Int) (s : Int × Int) (g : Rm) : Int × Int :=
  if g.2 < 0 ∨ g.2 - g.1 < size then s else if s.1 < 0 ∨ g.2 - g.1 < s.2 ∨ (g.2 - g.1 = s.2 ∧ g.1 < s.1) then (g.1, g.2 - g.1) else s
def pickE : List Rm → Int → Int
  | [], b => b
  | g :: l, b => if b < 0 then pickE l (if g.2 < 0 then g.1 else b) else b
def pickR (size : Int) (G : List Rm) : Int := pickE G (G.foldl (pickT size) (-1, 0)).1
theorem toR_fold {R : List Rm} {e : Int} (he : 0 ≤ e) : ∀ (Q : List Rm) (t : Int), (t = -1 ∨ e < t) →
    (Q.foldl (fun to r => if e < r.1 ∧ (to < 0 ∨ r.1 < to) then r.1 else to) t = t ∨ ∃ r ∈ Q, r.1 = Q.foldl (fun to r => if e < r.1 ∧ (to < 0 ∨ r.1 < to) then r.1 else to) t) ∧
    (Q.foldl (fun to r => if e < r.1 ∧ (to < 0 ∨ r.1 < to) then r.1 else to) t = -1 ∨ e < Q.foldl (fun to r => if e < r.1 ∧ (to < 0 ∨ r.1 < to) then r.1 else to) t) ∧
    (∀ r ∈ Q, e < r.1 → 0 ≤ Q.foldl (fun to r => if e < r.1 ∧ (to < 0 ∨ r.1 < to) then r.1 else to) t ∧ Q.foldl (fun to r => if e < r.1 ∧ (to < 0 ∨ r.1 < to) then r.1 else to) t ≤ r.1) ∧
    (0 ≤ t → 0 ≤ Q.foldl (fun to r => if e < r.1 ∧ (to < 0 ∨ r.1 < to) then r.1 else to) t ∧ Q.foldl (fun to r => if e < r.1 ∧ (to < 0 ∨ r.1 < to) then r.1 else to) t ≤ t)
  | [], t, h => by simp; omega
  | r :: Q, t, h => by
    simp only [List.foldl_cons]
    by_cases hc : e < r.1 ∧ (t < 0 ∨ r.1 < t)
    · rw [if_pos hc]
      obtain ⟨h1, h2, h3, h4⟩ := toR_fold (R := R) he Q r.1 (.inr hc.1)
      have h4 := h4 (by omega)
      refine ⟨?_, h2, ?_, fun h0 => ⟨h4.1, by omega⟩⟩
      · rcases h1 with h1 | ⟨x, hx, h1⟩
        · exact .inr ⟨r, by simp, h1.symm⟩
        · exact .inr ⟨x, by simp [hx], h1⟩
      · intro x hx hlt
        rcases List.mem_cons.mp hx with rfl | hx
        · exact h4
        · exact h3 x hx hlt
    · rw [if_neg hc]
      obtain ⟨h1, h2, h3, h4⟩ := toR_fold (R := R) he Q t h
      refine ⟨?_, h2, ?_, h4⟩
      · rcases h1 with h1 | ⟨x, hx, h1⟩
        · exact .inl h1
        · exact .inr ⟨x, by simp [hx], h1⟩
      · intro x hx hlt
        rcases List.mem_cons.mp hx with rfl | hx
        · have h4 := h4 (by omega)
          exact ⟨h4.1, by omega⟩
        · exact h3 x hx hlt
theorem toR_spec {R : List Rm} {e : Int} (he : 0 ≤ e) : (toR R e = -1 ∧ ∀ r ∈ R, r.1 ≤ e) ∨ (e < toR R e ∧ (∃ r ∈ R, r.1 = toR R e) ∧ ∀ r ∈ R, e < r.1 → toR R e ≤ r.1) := by
  obtain ⟨h1, h2, h3, _⟩ := toR_fold (R := R) he R (-1) (.inl rfl)
  unfold toR
  generalize R.foldl (fun to r => if e < r.1 ∧ (to < 0 ∨ r.1 < to) then r.1 else to) (-1) = T at h1 h2 h3
  rcases h2 with h2 | h2
  · left
    refine ⟨h2, fun r hr => ?_⟩
    rcases Int.lt_or_le e r.1 with h | h
    · have := h3 r hr h; omega
    · exact h
  · right
    refine ⟨h2, ?_, fun r hr h => (h3 r hr h).2⟩
    rcases h1 with h1 | h1
    · omega
    · exact h1
theorem bare_iff {R : List Rm} {e : Int} : bareR R e = true ↔ ∀ r ∈ R, ¬ (r.1 ≤ e ∧ e < r.2) := by
  unfold bareR
  rw [List.all_eq_true]
  constructor
  · intro h r hr
    have := h r hr
    simp at this
    omega
  · intro h r hr
    have := h r hr
    simp
    omega
theorem gapsR_mem {R : List Rm} (hg : GoodR R) {e t : Int} : (e, t) ∈ gapsR R ↔ (IsGap R e t ∨ (IsEnd R e ∧ t = -1)) := by
  unfold gapsR
  simp only [List.mem_map, List.mem_filter, List.mem_cons, bare_iff, Prod.mk.injEq]
  have pos : ∀ {e : Int}, (e = 0 ∨ ∃ r ∈ R, r.2 = e) → 0 ≤ e := by
    rintro e (rfl | ⟨r, hr, rfl⟩)
    · omega
    · have := hg r hr; omega
  constructor
  · rintro ⟨e', ⟨h1, h2⟩, rfl, rfl⟩
    rcases toR_spec (R := R) (pos h1) with ⟨h3, h4⟩ | ⟨h3, h4, h5⟩
    · exact .inr ⟨⟨⟨h1, h2⟩, h4⟩, h3⟩
    · exact .inl ⟨⟨h1, h2⟩, h3, h4, h5⟩
  · rintro (⟨⟨h1, h2⟩, h3, h4, h5⟩ | ⟨⟨⟨h1, h2⟩, h3⟩, rfl⟩)
    · refine ⟨e, ⟨h1, h2⟩, rfl, ?_⟩
      rcases toR_spec (R := R) (pos h1) with ⟨h6, h7⟩ | ⟨h6, h7, h8⟩
      · obtain ⟨r, hr, rfl⟩ := h4
        have := h7 r hr
        omega
      · exact IsGap.same ⟨⟨h1, h2⟩, h6, h7, h8⟩ ⟨⟨h1, h2⟩, h3, h4, h5⟩
    · refine ⟨e, ⟨h1, h2⟩, rfl, ?_⟩
      rcases toR_spec (R := R) (pos h1) with ⟨h6, h7⟩ | ⟨h6, ⟨r, hr, h7⟩, h8⟩
      · exact h6
      · have := h3 r hr
        omega
theorem pick_fold {size : Int} : ∀ (Q P : List Rm) (s : Int × Int), (∀ g ∈ P ++ Q, 0 ≤ g.1) →
    ((s.1 = -1 ∧ ∀ g ∈ P, g.2 < 0 ∨ g.2 - g.1 < size) ∨ ((∃ g ∈ P, s = (g.1, g.2 - g.1) ∧ 0 ≤ g.2 ∧ size ≤ g.2 - g.1) ∧ ∀ g ∈ P, 0 ≤ g.2 → size ≤ g.2 - g.1 → s.2 < g.2 - g.1 ∨ (s.2 = g.2 - g.1 ∧ s.1 ≤ g.1))) →
    (((Q.foldl (pickT size) s).1 = -1 ∧ ∀ g ∈ P ++ Q, g.2 < 0 ∨ g.2 - g.1 < size) ∨ ((∃ g ∈ P ++ Q, Q.foldl (pickT size) s = (g.1, g.2 - g.1) ∧ 0 ≤ g.2 ∧ size ≤ g.2 - g.1) ∧ ∀ g ∈ P ++ Q, 0 ≤ g.2 → size ≤ g.2 - g.1 → (Q.foldl (pickT size) s).2 < g.2 - g.1 ∨ ((Q.foldl (pickT size) s).2 = g.2 - g.1 ∧ (Q.foldl (pickT size) s).1 ≤ g.1)))
  | [], P, s, _, h => by simpa using h
  | g :: Q, P, s, hp, h => by
    have e : P ++ g :: Q = (P ++ [g]) ++ Q := by simp
    rw [e] at hp ⊢
    rw [List.foldl_cons]
    refine pick_fold Q (P ++ [g]) _ hp ?_
    have hg0 := hp g (by simp)
    unfold pickT
    by_cases h1 : g.2 < 0 ∨ g.2 - g.1 < size
    · rw [if_pos h1]
      rcases h with ⟨h2, h3⟩ | ⟨⟨x, hx, h2⟩, h3⟩
      · refine .inl ⟨h2, fun y hy => ?_⟩
        rcases List.mem_append.mp hy with hy | hy
        · exact h3 y hy
        · obtain rfl : y = g := by simpa using hy
          exact h1
      · refine .inr ⟨⟨x, by simp [hx], h2⟩, fun y hy h5 h6 => ?_⟩
        rcases List.mem_append.mp hy with hy | hy
        · exact h3 y hy h5 h6
        · obtain rfl : y = g := by simpa using hy
          omega
    · rw [if_neg h1]
      by_cases h2 : s.1 < 0 ∨ g.2 - g.1 < s.2 ∨ (g.2 - g.1 = s.2 ∧ g.1 < s.1)
      · rw [if_pos h2]
        refine .inr ⟨⟨g, by simp, rfl, by omega, by omega⟩, fun y hy h5 h6 => ?_⟩
        simp only
        rcases List.mem_append.mp hy with hy | hy
        · rcases h with ⟨h7, h8⟩ | ⟨⟨x, hx, h7, _, _⟩, h8⟩
          · have := h8 y hy; omega
          · have := h8 y hy h5 h6
            have hx0 := hp x (by simp [hx])
            rw [h7] at h2 this
            simp only at h2 this
            omega
        · obtain rfl : y = g := by simpa using hy
          omega
      · rw [if_neg h2]
        rcases h with ⟨h7, h8⟩ | ⟨⟨x, hx, h7⟩, h8⟩
        · omega
        · refine .inr ⟨⟨x, by simp [hx], h7⟩, fun y hy h5 h6 => ?_⟩
          rcases List.mem_append.mp hy with hy | hy
          · exact h8 y hy h5 h6
          · obtain rfl : y = g := by simpa using hy
            omega
theorem pickE_keep (l : List Rm) {b : Int} (h : 0 ≤ b) : pickE l b = b := by
  cases l with
  | nil => rfl
  | cons g l => rw [pickE, if_neg (by omega)]
theorem pickE_spec : ∀ (l : List Rm) (hp : ∀ g ∈ l, 0 ≤ g.1), (∃ g ∈ l, g.2 < 0) → ∃ g ∈ l, g.2 < 0 ∧ pickE l (-1) = g.1
  | [], _, h => by obtain ⟨g, hg, _⟩ := h; simp at hg
  | g :: l, hp, h => by
    rw [pickE, if_pos (by omega)]
    by_cases hg : g.2 < 0
    · rw [if_pos hg]
      exact ⟨g, by simp, hg, pickE_keep l (hp g (by simp))⟩
    · rw [if_neg hg]
      obtain ⟨x, hx, h1⟩ := h
      rcases List.mem_cons.mp hx with rfl | hx
      · exact absurd h1 hg
      · obtain ⟨y, hy, h2⟩ := pickE_spec l (fun g hg => hp g (by simp [hg])) ⟨x, hx, h1⟩
        exact ⟨y, by simp [hy], h2⟩
/-- the document's place is the best one -/
theorem pick_best {size : Int} (hs : 0 < size) {R : List Rm} (hg : GoodR R) : Best R size (pickR size (gapsR R)) := by
  have pos : ∀ {e : Int}, Edge R e → 0 ≤ e := by
    rintro e ⟨rfl | ⟨r, hr, rfl⟩, _⟩
    · omega
    · have := hg r hr; omega
  have hp : ∀ g ∈ gapsR R, 0 ≤ g.1 := by
    rintro ⟨e, t⟩ h
    rcases (gapsR_mem hg).1 h with h | ⟨h, _⟩
    · exact pos h.1
    · exact pos h.1
  have hf := pick_fold (size := size) (gapsR R) [] (-1, 0) (by simpa using hp) (.inl ⟨rfl, by simp⟩)
  simp only [List.nil_append] at hf
  unfold pickR
  generalize (gapsR R).foldl (pickT size) (-1, 0) = s at hf
  rcases hf with ⟨h1, h2⟩ | ⟨⟨⟨e, t⟩, hm, h1, h3, h4⟩, h2⟩
  · right
    have none_ : ∀ e t, IsGap R e t → ¬ size ≤ t - e := by
      intro e t h hh
      have := h2 (e, t) ((gapsR_mem hg).2 (.inl h))
      have p := pos h.1
      have q := h.2.1
      simp only at this
      omega
    refine ⟨none_, ?_⟩
    rw [h1]
    have hb := gapS_best hs hg
    have hE : IsEnd R (gapS size R) := by
      rcases hb with ⟨t, h3, h4, _⟩ | ⟨_, h3⟩
      · exact absurd h4 (none_ _ _ h3)
      · exact h3
    obtain ⟨⟨e, t⟩, hm, h3, h4⟩ := pickE_spec (gapsR R) hp ⟨(gapS size R, -1), (gapsR_mem hg).2 (.inr ⟨hE, rfl⟩), by simp⟩
    rw [h4]
    rcases (gapsR_mem hg).1 hm with h | ⟨h, _⟩
    · have := pos h.1
      have := h.2.1
      simp only at h3
      omega
    · exact h
  · left
    simp only at h1 h3 h4
    rw [h1] at h2 ⊢
    rw [pickE_keep _ (hp _ hm)]
    have g : IsGap R e t := by
      rcases (gapsR_mem hg).1 hm with h | ⟨h, h5⟩
      · exact h
      · omega
    refine ⟨t, g, h4, fun e' t' g' h5 => ?_⟩
    have := h2 (e', t') ((gapsR_mem hg).2 (.inl g')) (by have := pos g'.1; have := g'.2.1; simp only; omega) h5
    simpa using this
end Go.Proofs.Ytmmhoemddfncmaa
