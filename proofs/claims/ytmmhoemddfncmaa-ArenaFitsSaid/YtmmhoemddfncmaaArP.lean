/- Plain mathematics of blocks: gaps, and the one that is taken. -/
import Derived.Test.YtmmhoemddfncmaaBk
import Derived.Test.YtmmhoemddfncmaaStQ
import Derived.Sort.LotA
namespace Go.Proofs.Ytmmhoemddfncmaa
open Go Go.RowKit
set_option linter.unusedVariables false

abbrev Rm := Int × Int
/-- one step of looking for the least gap: where what is taken ends, the best one, and how large that is -/
def gapT (size : Int) (s : Int × Int × Int) (r : Rm) : Int × Int × Int :=
  (max s.1 r.2, if size ≤ r.1 - s.1 ∧ (s.2.2 = 0 ∨ r.1 - s.1 < s.2.2) then (s.1, r.1 - s.1) else s.2)
def gapO (s : Int × Int × Int) : Int := if s.2.2 = 0 then s.1 else s.2.1
def gapL (size : Int) (l : List Rm) : Int := gapO (l.foldl (gapT size) (0, 0, 0))

/-- rooms that can be -/
def GoodR (l : List Rm) : Prop := ∀ r ∈ l, 0 ≤ r.1 ∧ r.1 < r.2
def Edge (l : List Rm) (e : Int) : Prop := (e = 0 ∨ ∃ r ∈ l, r.2 = e) ∧ ∀ r ∈ l, ¬ (r.1 ≤ e ∧ e < r.2)
/-- a gap from e up to t -/
def IsGap (l : List Rm) (e t : Int) : Prop := Edge l e ∧ e < t ∧ (∃ r ∈ l, r.1 = t) ∧ ∀ r ∈ l, e < r.1 → t ≤ r.1
def IsEnd (l : List Rm) (e : Int) : Prop := Edge l e ∧ ∀ r ∈ l, r.1 ≤ e
/-- the place that is taken -/
def Best (l : List Rm) (size b : Int) : Prop :=
  (∃ t, IsGap l b t ∧ size ≤ t - b ∧ ∀ e t', IsGap l e t' → size ≤ t' - e → t - b < t' - e ∨ (t - b = t' - e ∧ b ≤ e)) ∨
  ((∀ e t, IsGap l e t → ¬ size ≤ t - e) ∧ IsEnd l b)
theorem IsGap.same {l : List Rm} {e t t' : Int} (h : IsGap l e t) (h' : IsGap l e t') : t = t' := by
  obtain ⟨_, h1, ⟨r, hr, rfl⟩, h2⟩ := h
  obtain ⟨_, h3, ⟨r', hr', rfl⟩, h4⟩ := h'
  have a := h2 r' hr' h3
  have b := h4 r hr h1
  omega
theorem IsEnd.same {l : List Rm} {e e' : Int} (hg : GoodR l) (h : IsEnd l e) (h' : IsEnd l e') : e = e' := by
  have key : ∀ {e e' : Int}, IsEnd l e → IsEnd l e' → e ≤ e' := by
    intro e e' h h'
    obtain ⟨⟨h1, h2⟩, h3⟩ := h
    obtain ⟨⟨h4, h5⟩, h6⟩ := h'
    rcases h1 with rfl | ⟨r, hr, rfl⟩
    · rcases h4 with rfl | ⟨r, hr, rfl⟩
      · omega
      · have := hg r hr; omega
    · have a := h5 r hr
      have b := h6 r hr
      omega
  have a := key h h'
  have b := key h' h
  omega
theorem Best.same {l : List Rm} {size b b' : Int} (hg : GoodR l) (h : Best l size b) (h' : Best l size b') : b = b' := by
  rcases h with ⟨t, h1, h2, h3⟩ | ⟨h1, h2⟩
  · rcases h' with ⟨t', h1', h2', h3'⟩ | ⟨h1', h2'⟩
    · have a := h3 _ _ h1' h2'
      have c := h3' _ _ h1 h2
      omega
    · exact absurd h2 (h1' _ _ h1)
  · rcases h' with ⟨t', h1', h2', h3'⟩ | ⟨h1', h2'⟩
    · exact absurd h2' (h1 _ _ h1')
    · exact h2.same hg h2'
theorem Edge.perm {l l' : List Rm} (h : ∀ r, r ∈ l ↔ r ∈ l') {e : Int} (he : Edge l e) : Edge l' e := by
  obtain ⟨h1, h2⟩ := he
  refine ⟨?_, fun r hr => h2 r ((h r).2 hr)⟩
  rcases h1 with h1 | ⟨r, hr, e⟩
  · exact .inl h1
  · exact .inr ⟨r, (h r).1 hr, e⟩
theorem IsGap.perm {l l' : List Rm} (h : ∀ r, r ∈ l ↔ r ∈ l') {e t : Int} (he : IsGap l e t) : IsGap l' e t := by
  obtain ⟨h1, h2, ⟨r, hr, e⟩, h3⟩ := he
  exact ⟨h1.perm h, h2, ⟨r, (h r).1 hr, e⟩, fun r hr => h3 r ((h r).2 hr)⟩
theorem Best.perm {l l' : List Rm} (h : ∀ r, r ∈ l ↔ r ∈ l') {size b : Int} (hb : Best l size b) : Best l' size b := by
  rcases hb with ⟨t, h1, h2, h3⟩ | ⟨h1, h2, h3⟩
  · exact .inl ⟨t, h1.perm h, h2, fun e t' g => h3 e t' (g.perm fun r => (h r).symm)⟩
  · exact .inr ⟨fun e t g => h1 e t (g.perm fun r => (h r).symm), h2.perm h, fun r hr => h3 r ((h r).2 hr)⟩

/-- what is known behind the rooms P -/
structure GapAt (size : Int) (P : List Rm) (s : Int × Int × Int) : Prop where
  pos : 0 ≤ s.1
  end_ : s.1 = 0 ∨ ∃ r ∈ P, r.2 = s.1
  top : ∀ r ∈ P, r.2 ≤ s.1
  none_ : s.2.2 = 0 → ∀ e t, IsGap P e t → ¬ size ≤ t - e
  some_ : s.2.2 ≠ 0 → IsGap P s.2.1 (s.2.1 + s.2.2) ∧ size ≤ s.2.2 ∧ ∀ e t', IsGap P e t' → size ≤ t' - e → s.2.2 < t' - e ∨ (s.2.2 = t' - e ∧ s.2.1 ≤ e)
def Rising (l : List Rm) : Prop := l.Pairwise fun a b => a.1 ≤ b.1
/-- a gap of more rooms is one of the former ones, or the one that the new room ends -/
theorem gap_more {P : List Rm} {r : Rm} {E : Int} (hr : ∀ q ∈ P, q.1 ≤ r.1) (hg : GoodR (P ++ [r])) (hE0 : 0 ≤ E) (hE : E = 0 ∨ ∃ q ∈ P, q.2 = E) (htop : ∀ q ∈ P, q.2 ≤ E) {e t : Int} :
    IsGap (P ++ [r]) e t ↔ IsGap P e t ∨ (e = E ∧ t = r.1 ∧ E < r.1) := by
  have gr := hg r (by simp)
  constructor
  · rintro ⟨⟨h1, h2⟩, h3, ⟨q, hq, rfl⟩, h4⟩
    by_cases hin : ∃ q' ∈ P, e < q'.1
    · left
      obtain ⟨q', hq', hlt⟩ := hin
      have a := h4 q' (by simp [hq']) hlt
      have he : e = 0 ∨ ∃ r ∈ P, r.2 = e := by
        rcases h1 with h1 | ⟨x, hx, h1⟩
        · exact .inl h1
        · rcases List.mem_append.mp hx with hx | hx
          · exact .inr ⟨x, hx, h1⟩
          · obtain rfl : x = r := by simpa using hx
            have := hr q' hq'
            omega
      refine ⟨⟨he, fun x hx => h2 x (by simp [hx])⟩, h3, ?_, fun x hx => h4 x (by simp [hx])⟩
      rcases List.mem_append.mp hq with hq | hq
      · exact ⟨q, hq, rfl⟩
      · obtain rfl : q = r := by simpa using hq
        have := hr q' hq'
        exact ⟨q', hq', by omega⟩
    · right
      have hno : ∀ x ∈ P, x.1 ≤ e := fun x hx => by
        rcases Int.lt_or_le e x.1 with h | h
        · exact absurd ⟨x, hx, h⟩ hin
        · exact h
      have hqr : q = r := by
        rcases List.mem_append.mp hq with hq | hq
        · have := hno q hq; omega
        · simpa using hq
      subst hqr
      have hto : ∀ x ∈ P, x.2 ≤ e := fun x hx => by
        have a := h2 x (by simp [hx])
        have b := hno x hx
        omega
      have hle : E ≤ e := by
        rcases hE with rfl | ⟨x, hx, rfl⟩
        · rcases h1 with rfl | ⟨x, hx, rfl⟩
          · omega
          · have := hg x hx; omega
        · exact hto x hx
      have hge : e ≤ E := by
        rcases h1 with rfl | ⟨x, hx, rfl⟩
        · omega
        · rcases List.mem_append.mp hx with hx | hx
          · exact htop x hx
          · obtain rfl : x = q := by simpa using hx
            omega
      exact ⟨by omega, rfl, by omega⟩
  · rintro (⟨⟨h1, h2⟩, h3, ⟨q, hq, rfl⟩, h4⟩ | ⟨rfl, rfl, h⟩)
    · have a := hr q hq
      refine ⟨⟨?_, ?_⟩, h3, ⟨q, by simp [hq], rfl⟩, ?_⟩
      · rcases h1 with h1 | ⟨x, hx, h1⟩
        · exact .inl h1
        · exact .inr ⟨x, by simp [hx], h1⟩
      · intro x hx
        rcases List.mem_append.mp hx with hx | hx
        · exact h2 x hx
        · obtain rfl : x = r := by simpa using hx
          omega
      · intro x hx hlt
        rcases List.mem_append.mp hx with hx | hx
        · exact h4 x hx hlt
        · obtain rfl : x = r := by simpa using hx
          exact a
    · refine ⟨⟨?_, ?_⟩, h, ⟨r, by simp, rfl⟩, ?_⟩
      · rcases hE with h1 | ⟨x, hx, h1⟩
        · exact .inl h1
        · exact .inr ⟨x, by simp [hx], h1⟩
      · intro x hx
        rcases List.mem_append.mp hx with hx | hx
        · have := htop x hx; omega
        · obtain rfl : x = r := by simpa using hx
          omega
      · intro x hx hlt
        rcases List.mem_append.mp hx with hx | hx
        · have a := htop x hx
          have b := hg x (by simp [hx])
          omega
        · obtain rfl : x = r := by simpa using hx
          omega
theorem GapAt.step {size : Int} (hs : 0 < size) {P : List Rm} {s : Int × Int × Int} (h : GapAt size P s) {r : Rm} (hr : ∀ q ∈ P, q.1 ≤ r.1) (hg : GoodR (P ++ [r])) : GapAt size (P ++ [r]) (gapT size s r) := by
  obtain ⟨E, B, L⟩ := s
  have GM := fun {e t : Int} => gap_more (e := e) (t := t) hr hg h.pos h.end_ h.top
  have gr := hg r (by simp)
  obtain ⟨h1, h2, h3, h4, h5⟩ := h
  simp only at h1 h2 h3 h4 h5 GM
  refine ⟨?_, ?_, ?_, ?_, ?_⟩
  · simp only [gapT]; omega
  · simp only [gapT]
    by_cases hm : E ≤ r.2
    · exact .inr ⟨r, by simp, by omega⟩
    · rcases h2 with h2 | ⟨x, hx, h2⟩
      · exact .inl (by omega)
      · exact .inr ⟨x, by simp [hx], by omega⟩
  · intro x hx
    simp only [gapT]
    rcases List.mem_append.mp hx with hx | hx
    · have := h3 x hx; omega
    · obtain rfl : x = r := by simpa using hx
      omega
  · intro hL e t hgap
    simp only [gapT] at hL
    by_cases hc : size ≤ r.1 - E ∧ (L = 0 ∨ r.1 - E < L)
    · rw [if_pos hc] at hL
      simp only at hL
      omega
    · rw [if_neg hc] at hL
      simp only at hL
      rcases GM.1 hgap with g | ⟨rfl, rfl, g⟩
      · exact h4 hL e t g
      · intro hh; exact hc ⟨hh, .inl hL⟩
  · intro hL
    simp only [gapT] at hL ⊢
    by_cases hc : size ≤ r.1 - E ∧ (L = 0 ∨ r.1 - E < L)
    · rw [if_pos hc]
      simp only
      refine ⟨?_, hc.1, ?_⟩
      · rw [show E + (r.1 - E) = r.1 by omega]
        exact GM.2 (.inr ⟨rfl, rfl, by omega⟩)
      · intro e t g hsz
        rcases GM.1 g with g | ⟨rfl, rfl, g⟩
        · rcases hc.2 with h0 | h0
          · exact absurd hsz (h4 h0 e t g)
          · have hL0 : L ≠ 0 := by
              intro hL0
              exact absurd hsz (h4 hL0 e t g)
            have := (h5 hL0).2.2 e t g hsz
            omega
        · exact .inr ⟨rfl, Int.le_refl _⟩
    · rw [if_neg hc] at hL ⊢
      simp only at hL ⊢
      obtain ⟨g1, g2, g3⟩ := h5 hL
      refine ⟨GM.2 (.inl g1), g2, ?_⟩
      intro e t g hsz
      rcases GM.1 g with g | ⟨rfl, rfl, g⟩
      · exact g3 e t g hsz
      · have hnl : ¬ r.1 - e < L := fun hh => hc ⟨hsz, .inr hh⟩
        have hBE : B ≤ e := by
          obtain ⟨⟨hb1, _⟩, _⟩ := g1
          rcases hb1 with rfl | ⟨x, hx, rfl⟩
          · exact h1
          · exact h3 x hx
        omega
theorem gap_fold {size : Int} (hs : 0 < size) : ∀ (Q P : List Rm) (s : Int × Int × Int), GapAt size P s → Rising (P ++ Q) → GoodR (P ++ Q) → GapAt size (P ++ Q) (Q.foldl (gapT size) s)
  | [], P, s, h, _, _ => by simpa using h
  | r :: Q, P, s, h, hr, hg => by
    have e : P ++ r :: Q = (P ++ [r]) ++ Q := by simp
    rw [e] at hr hg ⊢
    have hp := (List.pairwise_append.mp (List.pairwise_append.mp hr).1).2.2
    exact gap_fold hs Q (P ++ [r]) (gapT size s r) (h.step hs (fun q hq => hp q hq r (by simp)) (fun x hx => hg x (by simp at hx ⊢; rcases hx with hx | hx; exact .inl hx; exact .inr (.inl hx)))) hr hg
theorem gap_start (size : Int) : GapAt size [] (0, 0, 0) :=
  ⟨by simp, .inl rfl, by simp, fun _ e t h => by obtain ⟨_, _, ⟨r, hr, _⟩, _⟩ := h; simp at hr, fun h => absurd rfl h⟩
/-- what a sorted row's walk tells is the best place -/
theorem gap_best {size : Int} (hs : 0 < size) {l : List Rm} (hr : Rising l) (hg : GoodR l) : Best l size (gapL size l) := by
  have h := gap_fold hs l [] (0, 0, 0) (gap_start size) (by simpa using hr) (by simpa using hg)
  simp only [List.nil_append] at h
  unfold gapL gapO
  generalize l.foldl (gapT size) (0, 0, 0) = s at h
  obtain ⟨E, B, L⟩ := s
  by_cases h0 : L = 0
  · simp only [h0, if_true]
    refine .inr ⟨h.none_ h0, ⟨h.end_, fun r hr => ?_⟩, fun r hr => ?_⟩
    · have := h.top r hr
      simp only at this ⊢
      omega
    · have := h.top r hr
      have := hg r hr
      simp only at *
      omega
  · simp only [h0, if_false]
    obtain ⟨g1, g2, g3⟩ := h.some_ h0
    simp only at g1 g2 g3
    exact .inl ⟨B + L, g1, by omega, fun e t g hsz => by have := g3 e t g hsz; omega⟩
theorem gap_unique {size : Int} (hs : 0 < size) {l : List Rm} (hg : GoodR l) {b : Int} {m : List Rm} (hm : ∀ r, r ∈ m ↔ r ∈ l) (hr : Rising m) (hb : Best l size b) : gapL size m = b :=
  ((gap_best hs hr (fun r h => hg r ((hm r).1 h))).perm hm).same hg hb
end Go.Proofs.Ytmmhoemddfncmaa
