/- How much variables weigh: the mathematics, with no program in sight. -/
import Derived.Test.YtlieapapmkbbgaaGB
namespace Go.Proofs.Ytlieapapmkbbgaa
set_option linter.unusedVariables false

def addW (W : List Int) (v : Int) (n : Nat) : List Int := W.set v.toNat (min 1000000000 (W.getD v.toNat 0 + (n : Int)))
def foldW (W : List Int) (vs : List Int) (n : Nat) : List Int := vs.foldl (fun W v => addW W v n) W
def varsAt (l : List Q5) (P : List Int) (i : Nat) (x : Q5) : List Int := readsS x ++ ((if writesS x = -1 then [] else [writesS x]) ++ (if x.o = 24 then [dOf l (P.getD i 0).toNat] else []))
def dIn (x : Q5) (d : Nat) : Nat := if x.o = 23 then d + 1 else d
def dNext (x : Q5) (d : Nat) : Nat := if x.o = 23 then d + 1 else if x.o = 24 then d - 1 else d
def weighR (l : List Q5) (P : List Int) : List Q5 → Nat → Nat → List Int → List Int
  | [], _, _, W => W
  | x :: xs, i, d, W => weighR l P xs (i + 1) (dNext x d) (foldW W (varsAt l P i x) (8 ^ dIn x d))
def weighS (l : List Q5) : List Int := if checkS l = 0 then (match endsS l with | some P => weighR l P l 0 0 (List.replicate 64 0) | none => List.replicate 64 0) else List.replicate 64 0
def GoodW (W : List Int) : Prop := W.length = 64 ∧ ∀ (i : Nat) (x : Int), W[i]? = some x → 0 ≤ x ∧ x ≤ 1000000000
theorem good_zero : GoodW (List.replicate 64 0) := by
  refine ⟨by simp, fun i x h => ?_⟩
  rw [List.getElem?_replicate] at h
  split at h
  · cases h; omega
  · cases h
theorem good_add {W : List Int} (h : GoodW W) (v : Int) (n : Nat) : GoodW (addW W v n) := by
  obtain ⟨h1, h2⟩ := h
  refine ⟨by simp [addW, h1], fun i x hx => ?_⟩
  unfold addW at hx
  by_cases e : v.toNat = i
  · subst e
    rw [List.getElem?_set] at hx
    simp only [if_true] at hx
    split at hx
    · rename_i hlt
      have : 0 ≤ W.getD v.toNat 0 := by
        rw [List.getD_eq_getElem?_getD, List.getElem?_eq_getElem hlt]
        exact (h2 v.toNat _ (List.getElem?_eq_getElem hlt)).1
      have hx' := Option.some.inj hx
      omega
    · cases hx
  · rw [List.getElem?_set_ne e] at hx
    exact h2 i x hx
theorem foldW_snoc (W : List Int) (vs : List Int) (v : Int) (n : Nat) : foldW W (vs ++ [v]) n = addW (foldW W vs n) v n := by simp [foldW]
theorem foldW_app (W : List Int) (vs us : List Int) (n : Nat) : foldW W (vs ++ us) n = foldW (foldW W vs n) us n := by simp [foldW]
theorem foldW_nil (W : List Int) (n : Nat) : foldW W [] n = W := rfl
theorem foldW_one (W : List Int) (v : Int) (n : Nat) : foldW W [v] n = addW W v n := rfl
theorem foldW_next {W : List Int} {vs : List Int} {m : Nat} {v : Int} (h : vs[m]? = some v) (n : Nat) : foldW W (vs.take (m + 1)) n = addW (foldW W (vs.take m) n) v n := by
  rw [List.take_add_one, h]; exact foldW_snoc _ _ _ _
theorem good_fold {W : List Int} (h : GoodW W) (vs : List Int) (n : Nat) : GoodW (foldW W vs n) := by
  induction vs generalizing W with
  | nil => exact h
  | cons v vs ih => exact ih (good_add h v n)
theorem weighR_next {l : List Q5} {P : List Int} {k d : Nat} {x : Q5} {W : List Int} (hx : l[k]? = some x) : weighR l P (l.drop k) k d W = weighR l P (l.drop (k + 1)) (k + 1) (dNext x d) (foldW W (varsAt l P k x) (8 ^ dIn x d)) := by
  have hk : k < l.length := by
    rcases Nat.lt_or_ge k l.length with g | g
    · exact g
    · rw [List.getElem?_eq_none g] at hx; cases hx
  have : l.drop k = x :: l.drop (k + 1) := by
    rw [List.drop_eq_getElem_cons hk]
    congr 1
    rw [List.getElem?_eq_getElem hk] at hx
    exact Option.some.inj hx
  rw [this]
  rfl
theorem weighR_end {l : List Q5} {P : List Int} {d : Nat} {W : List Int} : weighR l P (l.drop l.length) l.length d W = W := by rw [List.drop_length]; rfl
/-- where a weighing stands -/
def StW (l : List Q5) (P : List Int) (k d : Nat) : Prop := ∃ Pk O, InvM l P k Pk O ∧ O.length = d ∧ d ≤ 10 ∧ runC (l.drop k) (O.map (dOf l)) = runC l []
theorem stW_0 {l : List Q5} {P : List Int} (h : endsS l = some P) : StW l P 0 0 := ⟨_, [], inv_start h, rfl, by omega, rfl⟩
theorem dOf_at' {l : List Q5} {k : Nat} {y : Q5} (h : l[k]? = some y) : dOf l k = y.d := by unfold dOf; rw [h]; rfl
theorem stW_next {l : List Q5} {P : List Int} {k d : Nat} {x : Q5} (h : StW l P k d) (hx : l[k]? = some x) (hr : countedS l = true) : StW l P (k + 1) (dNext x d) ∧ dIn x d ≤ 10 ∧ (x.o = 24 → 0 < d) := by
  obtain ⟨Pk, O, hi, rfl, h10, hrun⟩ := h
  unfold countedS at hr
  have hrun0 := hrun
  rw [runC_step hx] at hrun
  by_cases h24 : x.o = 24
  · obtain ⟨hne, Pj', hi'⟩ := inv_24 hi hx h24
    have hpos : 0 < O.length := by cases O with | nil => exact absurd rfl hne | cons a b => simp
    refine ⟨⟨Pj', O.dropLast, hi', by rw [List.length_dropLast, dNext, if_neg (by omega), if_pos h24], by unfold dNext; split <;> omega, ?_⟩, by unfold dIn; rw [if_neg (by omega)]; exact h10, fun _ => hpos⟩
    rw [← hrun, stepC, if_pos h24, List.map_dropLast]
  · rw [stepC, if_neg h24] at hrun
    by_cases hw : writesS x ≠ -1 ∧ writesS x ∈ O.map (dOf l)
    · rw [if_pos hw] at hrun
      rw [← hrun] at hr
      cases hr
    · rw [if_neg hw] at hrun
      by_cases h23 : x.o = 23
      · rw [if_pos h23] at hrun
        by_cases hq : (O.map (dOf l)).length = 10
        · rw [if_pos hq] at hrun
          rw [← hrun] at hr
          cases hr
        · rw [if_neg hq] at hrun
          have hq' : O.length ≠ 10 := by simpa using hq
          refine ⟨⟨_, O ++ [k], inv_23 hi hx h23, by simp [dNext, h23], by simp [dNext, h23]; omega, ?_⟩, by simp [dIn, h23]; omega, fun h => absurd h h24⟩
          rw [← hrun]
          simp [dOf_at' hx]
      · rw [if_neg h23] at hrun
        exact ⟨⟨_, O, inv_other hi hx h23 h24, by simp [dNext, h23, h24], by simp [dNext, h23, h24]; omega, hrun⟩, by simp [dIn, h23]; omega, fun h => absurd h h24⟩
/-- the loop that an end ends -/
theorem end_at {l : List Q5} {P : List Int} (h : endsS l = some P) {i : Nat} {x : Q5} (hx : l[i]? = some x) (h24 : x.o = 24) : ∃ (k : Nat) (y : Q5), P[i]? = some (k : Int) ∧ l[k]? = some y := by
  have hb := ends_back h
  have hr : runE l 0 (List.replicate l.length 0, []) = some (P, []) := by
    unfold endsS at h
    split at h
    · rename_i p heq
      cases h
      exact heq
    · cases h
  obtain ⟨g0, _, g2, g3, g4, _⟩ := run_good l l 0 _ _ _ rfl (by simp) (by simp) (by simp) hr
  obtain ⟨k, hk, h1, h2⟩ := g3 i x (Nat.zero_le _) hx h24
  have hkl : k < l.length := by
    rcases Nat.lt_or_ge k P.length with g | g
    · omega
    · rw [List.getElem?_eq_none g] at h2; cases h2
  exact ⟨k, l[k], h1, List.getElem?_eq_getElem hkl⟩
theorem check_good {l : List Q5} (h : checkS l = 0) : l.length ≤ 20000 ∧ (∀ x ∈ l, canS x = true) ∧ countedS l = true ∧ ∃ P, endsS l = some P := by
  unfold checkS at h
  split at h
  · omega
  · rename_i h2
    split at h
    · omega
    · rename_i h1
      split at h
      · omega
      · rename_i h4
        simp only [Bool.or_eq_true, Option.isNone_iff_eq_none, Bool.not_eq_true', not_or, Bool.not_eq_false] at h4
        refine ⟨by omega, ?_, h4.2, Option.ne_none_iff_exists'.1 h4.1⟩
        intro x hx
        cases hc : canS x
        · exact absurd (List.any_eq_true.2 ⟨x, hx, by simp [hc]⟩) h1
        · rfl
theorem rd_bd {x : Q5} {d : Int} (h : d ∈ readsS x) : 0 ≤ d ∧ d < 64 := by
  unfold readsS at h
  cases hc : canS x
  · rw [hc] at h; simp at h
  · rw [hc] at h
    unfold canS at hc
    simp only [Bool.and_eq_true] at hc
    have ha := fits_bd hc.1.1.1.2
    have hb := fits_bd hc.1.1.2
    simp only [if_true, List.mem_append] at h
    rcases h with h | h
    · split at h
      · simp at h; omega
      · simp at h
    · split at h
      · simp at h; omega
      · simp at h
theorem rd_len (x : Q5) : (readsS x).length ≤ 3 := by
  unfold readsS
  split
  · split <;> split <;> simp
  · simp
theorem pow8_le {d : Nat} (h : d ≤ 10) : 8 ^ d ≤ 1073741824 := by
  have := Nat.pow_le_pow_right (n := 8) (by omega) h
  simpa using this
theorem pow8_pos (d : Nat) : 0 < 8 ^ d := Nat.pow_pos (by omega)
end Go.Proofs.Ytlieapapmkbbgaa
