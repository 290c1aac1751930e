/- How many steps are done hangs on the program alone: the mathematics. -/
import Derived.Test.YtghclbeoabkgcaaLrQ
namespace Go.Proofs.Ytghclbeoabkgcaa
open Go Go.RowKit Pl
set_option linter.unusedVariables false

theorem BalC.noW {l : List Q5} {a b : Nat} (h : BalC l a b) : ∀ i x e, a ≤ i → i < b → l[i]? = some x → x.o = 23 → mate l i = some e → NoW l (i + 1) e x.d := by
  induction h with
  | nil => intro i x e h1 h2; omega
  | plain a b x hx h23 h24 _ ih =>
    intro i y e h1 h2 hy hyo hm
    by_cases c : i = a
    · subst c; rw [hx] at hy; cases hy; exact absurd hyo h23
    · exact ih i y e (by omega) h2 hy hyo hm
  | loop a e b x y hx h23 hm hnw _ hy h24 hb i1 i2 =>
    intro i z e' h1 h2 hz hzo hme
    by_cases c1 : i = a
    · subst c1; rw [hx] at hz; cases hz; rw [hm] at hme; cases hme; exact hnw
    by_cases c2 : i < e
    · exact i1 i z e' (by omega) c2 hz hzo hme
    by_cases c3 : i = e
    · subst c3; rw [hy] at hz; cases hz; omega
    · exact i2 i z e' (by omega) h2 hz hzo hme
theorem Prog1.noW {l : List Q5} {E : List Int} (h : Prog1 l E) {i e : Nat} {x : Q5} (hx : l[i]? = some x) (h23 : x.o = 23) (hm : mate l i = some e) : NoW l (i + 1) e x.d := h.bal.noW i x e (Nat.zero_le _) (at_lt hx) hx h23 hm
/-- a loop's counter that is open at a place -/
def OpenC (l : List Q5) (p : Nat) (c : Nat) : Prop := ∃ i x e, l[i]? = some x ∧ x.o = 23 ∧ mate l i = some e ∧ i < p ∧ p ≤ e ∧ x.d = (c : Int)
def Eqv (l : List Q5) (s s' : LS) : Prop := s.p = s'.p ∧ ∀ c, OpenC l s.p c → s.f c = s'.f c
theorem writes_of {x : Q5} (h : canS x = true) (ho : x.o ≤ 20 ∨ x.o = 23) : writesS x = x.d := by
  have h1 := can_op h
  unfold writesS hasD
  rw [h, if_pos]
  simp only [Bool.true_and, decide_eq_true_eq]
  omega
theorem doR_other {K : Bk} {x : Q5} {f : Nat → Int} {b : List Nat} {c : Nat} (h : canS x = true) (hw : writesS x ≠ -1 → writesS x ≠ (c : Int)) : (doR K x f b).f c = f c := by
  have hd := can_d h
  have up : ∀ v, (x.o ≤ 20 ∨ x.o = 23) → upd f x.d.toNat v c = f c := fun v ho => by
    have e := writes_of h ho
    have := hw (by rw [e]; omega)
    unfold upd
    rw [if_neg]
    intro hc
    rw [e] at this
    omega
  unfold doR
  split
  · exact up _ (by omega)
  split
  · split
    · rfl
    · exact up _ (by omega)
  split
  · split <;> rfl
  · rfl
theorem step24 {K : Bk} {l : List Q5} {E : List Int} (hp : Prog1 l E) {s : LS} {x : Q5} (hx : l[s.p]? = some x) (h24 : x.o = 24) : ∃ (i D : Nat) (y : Q5), l[i]? = some y ∧ y.o = 23 ∧ mate l i = some s.p ∧ y.d = (D : Int) ∧ D < 64 ∧
    stepL K l E s = (0, ⟨if (s.f D - 1) % 4294967296 = 0 then s.p + 1 else i + 1, upd s.f D ((s.f D - 1) % 4294967296), s.b⟩) := by
  obtain ⟨_, g2, g3⟩ := ends_facts hp.E
  obtain ⟨i, y, hy, hyo, hmt⟩ := g3 s.p x hx h24
  obtain ⟨k, hk, hE1, hE2⟩ := g2 i y hy hyo
  rw [hmt] at hk
  have hk' : s.p = k := by injection hk
  rw [← hk'] at hE2
  have oky := (hp.ok y (List.mem_of_getElem? hy)).d
  obtain ⟨D, hD⟩ : ∃ D : Nat, y.d = D := ⟨y.d.toNat, by omega⟩
  have e1 : bgL E s.p = i := by unfold bgL; rw [List.getD, hE2]; rfl
  have e2 : cnL l E s.p = D := by unfold cnL dOf; rw [e1, hy]; simp [hD]
  refine ⟨i, D, y, hy, hyo, hmt, hD, by omega, ?_⟩
  rw [stepL_at hx]
  unfold stepX
  rw [if_pos h24, e1, e2]
theorem step_plain {K : Bk} {l : List Q5} {E : List Int} {s : LS} {x : Q5} (hx : l[s.p]? = some x) (h24 : x.o ≠ 24) : stepL K l E s = if (doR K x s.f s.b).t ≠ 0 then ((doR K x s.f s.b).t, s) else (0, ⟨s.p + 1, (doR K x s.f s.b).f, (doR K x s.f s.b).b⟩) := by
  rw [stepL_at hx]
  unfold stepX
  rw [if_neg h24]
theorem eqv_step {K : Bk} {l : List Q5} {E : List Int} (hp : Prog1 l E) {s s' : LS} (h : Eqv l s s') (hl : s.p < l.length) (h1 : (stepL K l E s).1 = 0) (h2 : (stepL K l E s').1 = 0) : Eqv l (stepL K l E s).2 (stepL K l E s').2 := by
  obtain ⟨hpp, hf⟩ := h
  obtain ⟨x, hx⟩ := lookup hl
  have hx' : l[s'.p]? = some x := by rw [← hpp]; exact hx
  have hcx := hp.cn x (List.mem_of_getElem? hx)
  by_cases h24 : x.o = 24
  · obtain ⟨i, D, y, hy, hyo, hm, hD, hD64, e1⟩ := step24 (K := K) hp hx h24
    obtain ⟨i', D', y', hy', hyo', hm', hD', _, e2⟩ := step24 (K := K) hp hx' h24
    have hi : i = i' := by
      obtain ⟨_, g2, _⟩ := ends_facts hp.E
      obtain ⟨k, hk, _, q1⟩ := g2 i y hy hyo
      obtain ⟨k', hk', _, q2⟩ := g2 i' y' hy' hyo'
      rw [hm] at hk
      rw [hm'] at hk'
      have a1 : s.p = k := by injection hk
      have a2 : s'.p = k' := by injection hk'
      rw [← a1] at q1
      rw [← a2, ← hpp, q1] at q2
      have := Option.some.inj q2
      omega
    subst hi
    rw [hy] at hy'
    cases hy'
    have hDD : D = D' := by rw [hD] at hD'; omega
    subst hDD
    have hip := (mate_ge hm).1
    have hv : s.f D = s'.f D := hf D ⟨i, y, s.p, hy, hyo, hm, hip, Nat.le_refl _, hD⟩
    rw [e1, e2, ← hpp, ← hv]
    refine ⟨rfl, ?_⟩
    intro c hc
    show upd s.f D _ c = upd s'.f D _ c
    unfold upd
    by_cases hcD : c = D
    · rw [if_pos hcD, if_pos hcD]
    · rw [if_neg hcD, if_neg hcD]
      obtain ⟨j, z, e, hz, hzo, hme, hj1, hj2, hzd⟩ := hc
      simp only at hj1 hj2
      refine hf c ⟨j, z, e, hz, hzo, hme, ?_, ?_, hzd⟩
      · split at hj1
        · by_cases q : j = s.p
          · subst q; rw [hx] at hz; cases hz; omega
          · omega
        · omega
      · split at hj2
        · omega
        · rename_i hne
          rw [if_neg hne] at hj1
          by_cases q : j = i
          · subst q; rw [hy] at hz; cases hz; rw [hD] at hzd; omega
          · obtain ⟨k, hk, hkb⟩ := (bal_mate hme).inner i y (by omega) (by omega) hy hyo
            rw [hm] at hk
            have : s.p = k := by injection hk
            omega
  · rw [step_plain hx h24] at h1 ⊢
    rw [step_plain hx' h24] at h2 ⊢
    have t1 : (doR K x s.f s.b).t = 0 := by
      by_cases q : (doR K x s.f s.b).t = 0
      · exact q
      · rw [if_pos q] at h1; exact absurd h1 q
    have t2 : (doR K x s'.f s'.b).t = 0 := by
      by_cases q : (doR K x s'.f s'.b).t = 0
      · exact q
      · rw [if_pos q] at h2; exact absurd h2 q
    rw [if_neg (by rw [t1]; simp), if_neg (by rw [t2]; simp)]
    refine ⟨by show s.p + 1 = s'.p + 1; omega, ?_⟩
    intro c hc
    obtain ⟨j, z, e, hz, hzo, hme, hj1, hj2, hzd⟩ := hc
    simp only at hj1 hj2
    show (doR K x s.f s.b).f c = (doR K x s'.f s'.b).f c
    by_cases q : j = s.p
    · subst q
      rw [hx] at hz
      cases hz
      have e1 : ∀ (f : Nat → Int) (b : List Nat), (doR K x f b).f c = x.i % 4294967296 := fun f b => by
        unfold doR
        rw [if_pos (.inr hzo)]
        show upd f x.d.toNat (valR x f) c = _
        unfold upd valR
        rw [if_pos (by omega), if_pos (.inr hzo)]
      rw [e1, e1]
    · have hnw := hp.noW hz hzo hme s.p x (by omega) (by omega) hx h24
      rw [doR_other hcx (by rw [← hzd]; exact hnw), doR_other hcx (by rw [← hzd]; exact hnw)]
      exact hf c ⟨j, z, e, hz, hzo, hme, by omega, by omega, hzd⟩
theorem many {K : Bk} {l : List Q5} {E : List Int} (hp : Prog1 l E) : ∀ (k : Nat) (s s' : LS), Eqv l s s' → (runL K l E k s).t = 0 → (runL K l E k s').t = 0 → (runL K l E k s).n = (runL K l E k s').n := by
  intro k
  induction k with
  | zero => intro s s' _ _ _; rfl
  | succ k ih =>
    intro s s' h h1 h2
    rw [runL_succ] at h1 h2 ⊢
    rw [runL_succ]
    have hpp := h.1
    by_cases hl : l.length ≤ s.p
    · rw [if_pos hl, if_pos (by omega)]
    · have hl' : ¬ l.length ≤ s'.p := by omega
      rw [if_neg hl] at h1 ⊢
      rw [if_neg hl'] at h2 ⊢
      by_cases t1 : (stepL K l E s).1 = 0
      · by_cases t2 : (stepL K l E s').1 = 0
        · rw [if_neg (by rw [t1]; simp)] at h1 ⊢
          rw [if_neg (by rw [t2]; simp)] at h2 ⊢
          show _ + 1 = _ + 1
          rw [ih _ _ (eqv_step hp h (by omega) t1 t2) h1 h2]
        · rw [if_pos t2] at h2; exact absurd h2 t2
      · rw [if_pos t1] at h1; exact absurd h1 t1
end Go.Proofs.Ytghclbeoabkgcaa
