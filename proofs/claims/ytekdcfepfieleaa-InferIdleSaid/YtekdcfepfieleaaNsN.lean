/- Package infer: the judge's methods in one form; the specification's answer as the first that isn't 0. -/
import Derived.Test.YtekdcfepfieleaaNsP
namespace Go.Proofs.Ytekdcfepfieleaa
open Go Go.RowKit
set_option linter.unusedVariables false

def e1 (n : Nd) (a : Sh) : Int := if hWin n.op && !winG n a then 10 else 0
def e2 (n : Nd) : Int := if hC n.op && !decide (1 ≤ n.chans ∧ n.chans ≤ 64) then 10 else 0
def e3 (n : Nd) (a : Sh) : Int := if hS n.op then (if n.sh.fit ≠ 0 then n.sh.fit else if n.op = 11 ∧ sizeG n.sh ≠ sizeG a then 10 else 0) else 0
def e4 (n : Nd) (a b : Sh) : Int := if hB n.op = true ∧ ¬ a = (if n.op = 12 then ⟨b.x, b.y, a.z⟩ else b) then 10 else 0
def prL (C : List CnQ) (n : Nd) (a b : Sh) : Int × Sh :=
  if e1 n a ≠ 0 then (e1 n a, default) else if e2 n ≠ 0 then (e2 n, default) else if e3 n a ≠ 0 then (e3 n a, default) else if e4 n a b ≠ 0 then (e4 n a b, default)
  else if mkE n a b (rowX n a) (rowY n a) ≠ 0 then (mkE n a b (rowX n a) (rowY n a), default)
  else if wtE C n a ≠ 0 then (wtE C n a, default)
  else if bsE C n (mkO n a b (rowX n a) (rowY n a)) ≠ 0 then (bsE C n (mkO n a b (rowX n a) (rowY n a)), default)
  else if nmE C n ≠ 0 then (nmE C n, default)
  else (0, mkO n a b (rowX n a) (rowY n a))
theorem ite0 {α : Type} (x y : α) : (if (0 : Int) ≠ 0 then x else y) = y := rfl
theorem ite10 {α : Type} (x y : α) : (if (10 : Int) ≠ 0 then x else y) = x := rfl
theorem pr_eq (C : List CnQ) (n : Nd) (a b : Sh) : prE C n a b = prL C n a b := by
  unfold prE prL
  by_cases h1 : hWin n.op = true ∧ winG n a = false
  · have : e1 n a = 10 := by unfold e1; rw [h1.1, h1.2]; rfl
    rw [if_pos h1, this, ite10]
  · have : e1 n a = 0 := by
      unfold e1
      cases ha : hWin n.op
      · rfl
      · cases hb : winG n a
        · exact absurd ⟨ha, hb⟩ h1
        · rfl
    rw [if_neg h1, this, ite0]
    by_cases h2 : hC n.op = true ∧ ¬ (1 ≤ n.chans ∧ n.chans ≤ 64)
    · have : e2 n = 10 := by unfold e2; rw [h2.1, decide_eq_false h2.2]; rfl
      rw [if_pos h2, this, ite10]
    · have : e2 n = 0 := by
        unfold e2
        cases ha : hC n.op
        · rfl
        · rw [decide_eq_true (Decidable.of_not_not (fun g => h2 ⟨ha, g⟩))]; rfl
      rw [if_neg h2, this, ite0]
      by_cases h3 : hS n.op = true ∧ n.sh.fit ≠ 0
      · have : e3 n a = n.sh.fit := by unfold e3; rw [if_pos h3.1, if_pos h3.2]
        rw [if_pos h3, this, if_pos h3.2]
      · rw [if_neg h3]
        by_cases h4 : n.op = 11 ∧ sizeG n.sh ≠ sizeG a
        · have hs : hS n.op = true := by rw [h4.1]; rfl
          have : e3 n a = 10 := by unfold e3; rw [if_pos hs, if_neg (fun g => h3 ⟨hs, g⟩), if_pos h4]
          rw [if_pos h4, this, ite10]
        · have : e3 n a = 0 := by
            unfold e3
            by_cases hs : hS n.op = true
            · rw [if_pos hs, if_neg (fun g => h3 ⟨hs, g⟩), if_neg h4]
            · rw [if_neg hs]
          rw [if_neg h4, this, ite0]
          unfold e4
          by_cases h5 : hB n.op = true ∧ ¬ a = (if n.op = 12 then ⟨b.x, b.y, a.z⟩ else b)
          · rw [if_pos h5, if_pos h5, ite10]
          · rw [if_neg h5, if_neg h5, ite0]
/-- rows of a window matter only where there is one -/
theorem mkO_rows {n : Nd} {a b : Sh} {r0 r1 : Int} (h : hWin n.op = true → r0 = rowX n a ∧ r1 = rowY n a) : mkO n a b r0 r1 = mkO n a b (rowX n a) (rowY n a) := by
  cases hw : hWin n.op
  · have h2 : ¬ n.op = 2 := by intro g; rw [g] at hw; cases hw
    have h3 : ¬ (n.op = 3 ∨ n.op = 5 ∨ n.op = 6) := by rintro (g | g | g) <;> rw [g] at hw <;> cases hw
    unfold mkO
    simp only [h2, h3, if_false]
  · obtain ⟨rfl, rfl⟩ := h hw; rfl
theorem mkE_rows {n : Nd} {a b : Sh} {r0 r1 : Int} (h : hWin n.op = true → r0 = rowX n a ∧ r1 = rowY n a) : mkE n a b r0 r1 = mkE n a b (rowX n a) (rowY n a) := by
  unfold mkE; rw [mkO_rows h]
/-- one form for all -/
def MPost (J : Nat) (w : World) (R : Int → Jg → Prop) (e : Ending) (w' : World) : Prop := ∃ c j', e = .returned (.int .i64 c) ∧ w.grownBy w' (some J) ∧ JAt w' J j' ∧ R c j'
section
variable {J : Nat} {j : Jg} {w : World} {C : List CnQ} {cc : Nat} {ca : Option Addr}
theorem m1 (hJ : JAt w J j) (hj : JOk j) : Calls Try.prog 16 #[.pointer (some ⟨J, 0, none⟩)] w (MPost J w fun c j' => c = e1 j.n j.a ∧ ∃ r0 r1, j' = { j with r0 := r0, r1 := r1 } ∧ (hWin j.n.op = true → c = 0 → r0 = rowX j.n j.a ∧ r1 = rowY j.n j.a)) := by
  refine (jwin_any J j w hJ hj).mono ?_
  rintro e w' ⟨c, r0, r1, rfl, hc, hg, hJ', hr⟩
  exact ⟨c, _, rfl, hg, hJ', hc, r0, r1, rfl, hr⟩
theorem m2 (hJ : JAt w J j) (hj : JOk j) : Calls Try.prog 17 #[.pointer (some ⟨J, 0, none⟩)] w (MPost J w fun c j' => c = e2 j.n ∧ j' = j) := by
  refine (jchans J j w hJ hj).mono ?_
  rintro e w' ⟨rfl, rfl⟩
  exact ⟨_, j, rfl, below_grown (Below.refl _ _) _, hJ, rfl, rfl⟩
theorem m3 (hJ : JAt w J j) (hj : JOk j) : Calls Try.prog 18 #[.pointer (some ⟨J, 0, none⟩)] w (MPost J w fun c j' => c = e3 j.n j.a ∧ j' = j) := by
  refine (jsh_any J j w hJ hj).mono ?_
  rintro e w' ⟨rfl, hb⟩
  exact ⟨_, j, rfl, below_grown hb _, hJ.over hb, rfl, rfl⟩
theorem m4 (hJ : JAt w J j) (hj : JOk j) : Calls Try.prog 19 #[.pointer (some ⟨J, 0, none⟩)] w (MPost J w fun c j' => c = e4 j.n j.a j.b ∧ j' = j) := by
  refine (jal_any J j w hJ hj).mono ?_
  rintro e w' ⟨rfl, hb⟩
  exact ⟨_, j, rfl, below_grown hb _, hJ.over hb, rfl, rfl⟩
theorem m5 (hJ : JAt w J j) (hj : JOk j) (ha : hA j.n.op = true → j.a.good = true) (hb : hB j.n.op = true → j.b.good = true) : Calls Try.prog 20 #[.pointer (some ⟨J, 0, none⟩)] w (MPost J w fun c j' => c = mkE j.n j.a j.b j.r0 j.r1 ∧ ∃ o', j' = { j with o := o' } ∧ (c = 0 → o' = mkO j.n j.a j.b j.r0 j.r1)) := by
  refine (jmk_any J j w hJ hj.op ha hb).mono ?_
  rintro e w' ⟨o', rfl, hg, hJ', ho⟩
  exact ⟨_, _, rfl, hg, hJ', rfl, o', rfl, ho⟩
theorem m6 (hcs : j.cs = .slice ca C.length cc) (hJ : JAt w J j) (hC : CnsIn w ca C cc) (hj : JOk j) (ha : hA j.n.op = true → j.a.good = true) (h1 : e1 j.n j.a = 0) (h2 : e2 j.n = 0) : Calls Try.prog 21 #[.pointer (some ⟨J, 0, none⟩)] w (MPost J w fun c j' => c = wtE C j.n j.a ∧ j' = j) := by
  refine (jwt_any J j w C cc ca hcs hJ hC hj.op ha ?_ ?_).mono ?_
  · intro h
    unfold e1 at h1
    rw [h] at h1
    cases hg : winG j.n j.a
    · rw [hg] at h1; simp at h1
    · rfl
  · intro h
    unfold e2 at h2
    rw [h] at h2
    cases hg : decide (1 ≤ j.n.chans ∧ j.n.chans ≤ 64)
    · rw [hg] at h2; simp at h2
    · exact of_decide_eq_true hg
  · rintro e w' ⟨rfl, hb⟩
    exact ⟨_, j, rfl, below_grown hb _, hJ.over hb, rfl, rfl⟩
theorem m7 (hcs : j.cs = .slice ca C.length cc) (hJ : JAt w J j) (hC : CnsIn w ca C cc) (hj : JOk j) : Calls Try.prog 22 #[.pointer (some ⟨J, 0, none⟩)] w (MPost J w fun c j' => c = bsE C j.n j.o ∧ j' = j) := by
  refine (jbs_any J j w C cc ca hcs hJ hC hj).mono ?_
  rintro e w' ⟨rfl, hb⟩
  exact ⟨_, j, rfl, below_grown hb _, hJ.over hb, rfl, rfl⟩
theorem m8 (hcs : j.cs = .slice ca C.length cc) (hJ : JAt w J j) (hC : CnsIn w ca C cc) (hj : JOk j) (h6 : wtE C j.n j.a = 0) (h7 : bsE C j.n j.o = 0) : Calls Try.prog 23 #[.pointer (some ⟨J, 0, none⟩)] w (MPost J w fun c j' => c = nmE C j.n ∧ j' = j) := by
  refine (jnum_any J j w C cc ca hcs hJ hC hj ?_ ?_).mono ?_
  · intro h
    unfold bsE at h7
    rw [if_pos h] at h7
    obtain ⟨k, q, hk, hq, _⟩ := conQ_there h7
    exact ⟨k, q, hk, hq⟩
  · intro h
    unfold wtE at h6
    simp only [h] at h6
    obtain ⟨k, q, hk, hq, hl⟩ := conQ_there h6
    exact ⟨k, q, hk, hq, by omega⟩
  · rintro e w' ⟨rfl, hb⟩
    exact ⟨_, j, rfl, below_grown hb _, hJ.over hb, rfl, rfl⟩
end
end Go.Proofs.Ytekdcfepfieleaa
