/- Tidying loop programs: the mathematics, with no program in sight. -/
import Derived.Test.YtlieapapmkbbgaaGB
namespace Go.Proofs.Ytlieapapmkbbgaa
set_option linter.unusedVariables false

def idleP (x : Q5) : Bool := canS x && decide (x.d = x.a) && decide (x.i = 0) && decide (x.o = 2 ∨ (13 ≤ x.o ∧ x.o ≤ 16))
def wr32 (n : Int) : Int := (n + 2147483648) % 4294967296 - 2147483648
def joinP (y x : Q5) : Option Q5 :=
  if y.d ≠ x.d then none
  else if y.o = 1 ∧ x.o = 1 then some x
  else if (y.o = 13 ∧ y.a = y.d ∧ x.o = 13 ∧ x.a = x.d) ∨ (y.o = 1 ∧ x.o = 13 ∧ x.a = x.d) then some ⟨y.o, y.d, y.a, y.b, wr32 (y.i + x.i)⟩
  else none
/-- a step behind the others, the last one first -/
def putR : List Q5 → Q5 → List Q5
  | [], x => if idleP x then [] else [x]
  | y :: r, x => match joinP y x with
    | some z => putR r z
    | none => if idleP x then y :: r else x :: y :: r
def iOf (l : List Q5) (k : Nat) : Int := (l[k]?.map Q5.i).getD 0
def convS (l : List Q5) (P : List Int) (k : Nat) (x : Q5) : Q5 :=
  if x.o = 23 ∧ x.i = 1 then ⟨1, x.d, x.a, x.b, x.i⟩
  else if x.o = 24 ∧ iOf l (P.getD k 0).toNat = 1 then ⟨1, dOf l (P.getD k 0).toNat, 0, 0, 0⟩
  else x
def tidyR (l : List Q5) (P : List Int) : List Q5 → Nat → List Q5 → List Q5
  | [], _, r => r
  | x :: xs, k, r => tidyR l P xs (k + 1) (putR r (convS l P k x))
def tidyS (l : List Q5) (P : List Int) : List Q5 := (tidyR l P l 0 []).reverse

/-- the counters of open loops, and no step that may not be -/
def stepT (x : Q5) (cs : List Int) : Option (List Int) :=
  if x.o = 24 then (if cs = [] then none else some cs.dropLast)
  else if writesS x ≠ -1 ∧ writesS x ∈ cs then none
  else if x.o = 23 then (if cs.length = 10 then none else some (cs ++ [x.d]))
  else some cs
def scanX : List Q5 → List Int → Option (List Int)
  | [], cs => some cs
  | x :: l, cs => match stepT x cs with
    | none => none
    | some cs' => scanX l cs'
theorem scan_app (l m : List Q5) (cs : List Int) : scanX (l ++ m) cs = match scanX l cs with
    | none => none
    | some ds => scanX m ds := by
  induction l generalizing cs with
  | nil => rfl
  | cons x l ih =>
    simp only [List.cons_append, scanX]
    cases stepT x cs with
    | none => rfl
    | some ds => exact ih ds
theorem scan_snoc (l : List Q5) (x : Q5) (cs : List Int) : scanX (l ++ [x]) cs = match scanX l cs with
    | none => none
    | some ds => stepT x ds := by
  rw [scan_app]
  cases scanX l cs with
  | none => rfl
  | some ds =>
    simp only [scanX]
    cases stepT x ds <;> rfl
theorem scan_run : ∀ (xs : List Q5) (i : Nat) (P : List Int) (O : List Nat) (cs ds : List Int), O.length = cs.length → scanX xs cs = some ds → runC xs cs = some ds ∧ ∃ P' O', runE xs i (P, O) = some (P', O') ∧ O'.length = ds.length
  | [], i, P, O, cs, ds, hO, h => by
    simp only [scanX, Option.some.injEq] at h
    subst h
    exact ⟨rfl, P, O, rfl, hO⟩
  | x :: xs, i, P, O, cs, ds, hO, h => by
    simp only [scanX] at h
    cases hs : stepT x cs with
    | none => rw [hs] at h; cases h
    | some es =>
      rw [hs] at h
      simp only at h
      unfold stepT at hs
      by_cases h24 : x.o = 24
      · rw [if_pos h24] at hs
        by_cases hc : cs = []
        · rw [if_pos hc] at hs; cases hs
        · rw [if_neg hc] at hs
          obtain rfl := Option.some.inj hs
          have hne : O ≠ [] := by
            rintro rfl
            exact hc (List.eq_nil_of_length_eq_zero hO.symm)
          obtain ⟨b, hb⟩ : ∃ b, O.getLast? = some b := by
            cases hg : O.getLast? with
            | none => rw [List.getLast?_eq_none_iff] at hg; exact absurd hg hne
            | some b => exact ⟨b, rfl⟩
          obtain ⟨h1, P', O', h2, h3⟩ := scan_run xs (i + 1) (((P.set i (-1)).set i b).set b i) O.dropLast cs.dropLast ds (by rw [List.length_dropLast, List.length_dropLast, hO]) h
          refine ⟨by simp only [runC, stepC, if_pos h24]; exact h1, P', O', ?_, h3⟩
          simp only [runE, stepE]
          rw [if_neg (by omega), if_pos h24, hb]
          exact h2
      · rw [if_neg h24] at hs
        by_cases hw : writesS x ≠ -1 ∧ writesS x ∈ cs
        · rw [if_pos hw] at hs; cases hs
        · rw [if_neg hw] at hs
          by_cases h23 : x.o = 23
          · rw [if_pos h23] at hs
            by_cases hl : cs.length = 10
            · rw [if_pos hl] at hs; cases hs
            · rw [if_neg hl] at hs
              obtain rfl := Option.some.inj hs
              obtain ⟨h1, P', O', h2, h3⟩ := scan_run xs (i + 1) (P.set i (-1)) (O ++ [i]) (cs ++ [x.d]) ds (by simp [hO]) h
              refine ⟨by simp only [runC, stepC]; rw [if_neg h24, if_neg hw, if_pos h23, if_neg hl]; exact h1, P', O', ?_, h3⟩
              simp only [runE, stepE]
              rw [if_pos h23]
              exact h2
          · rw [if_neg h23] at hs
            obtain rfl := Option.some.inj hs
            obtain ⟨h1, P', O', h2, h3⟩ := scan_run xs (i + 1) (P.set i (-1)) O cs ds hO h
            refine ⟨by simp only [runC, stepC]; rw [if_neg h24, if_neg hw, if_neg h23]; exact h1, P', O', ?_, h3⟩
            simp only [runE, stepE]
            rw [if_neg h23, if_neg h24]
            exact h2
theorem scan_check {l : List Q5} (hl : l.length ≤ 20000) (hc : ∀ x ∈ l, canS x = true) (h : scanX l [] = some []) : checkS l = 0 := by
  obtain ⟨h1, P', O', h2, h3⟩ := scan_run l 0 (List.replicate l.length 0) [] [] [] rfl h
  have hO : O' = [] := List.eq_nil_of_length_eq_zero h3
  subst hO
  have he : endsS l = some P' := by unfold endsS; rw [h2]
  unfold checkS
  rw [if_neg (by omega), if_neg (by simpa using hc), he]
  simp [countedS, h1]

/-- nothing more can be done -/
def okX (x : Q5) : Prop := idleP x = false ∧ ¬ (x.o = 23 ∧ x.i = 1)
def Irr : List Q5 → Prop
  | [] => True
  | x :: r => okX x ∧ Irr r ∧ ∀ y, r.head? = some y → joinP y x = none
theorem wr32_bd (n : Int) : -2147483648 ≤ wr32 n ∧ wr32 n ≤ 2147483647 := by unfold wr32; omega
theorem join_some {y x z : Q5} (h : joinP y x = some z) (hy : canS y = true) (hx : canS x = true) : (y.o = 1 ∨ y.o = 13) ∧ (z.o = 1 ∨ z.o = 13) ∧ y.d = x.d ∧ z.d = x.d ∧ canS z = true ∧ (x.o = 1 ∨ x.o = 13) := by
  unfold joinP at h
  by_cases hd : y.d ≠ x.d
  · rw [if_pos hd] at h; cases h
  · rw [if_neg hd] at h
    have hd' : y.d = x.d := by omega
    by_cases h1 : y.o = 1 ∧ x.o = 1
    · rw [if_pos h1] at h
      obtain rfl := Option.some.inj h
      exact ⟨Or.inl h1.1, Or.inl h1.2, hd', rfl, hx, Or.inl h1.2⟩
    · rw [if_neg h1] at h
      split at h
      · rename_i h2
        obtain rfl := Option.some.inj h
        have hyo : y.o = 1 ∨ y.o = 13 := by rcases h2 with g | g <;> omega
        refine ⟨hyo, hyo, hd', hd', ?_, by rcases h2 with g | g <;> omega⟩
        have hw := wr32_bd (y.i + x.i)
        unfold canS at hy ⊢
        simp only [Bool.and_eq_true, decide_eq_true_eq] at hy ⊢
        refine ⟨⟨hy.1.1, ?_⟩, ?_⟩
        · rcases hyo with e | e <;> rw [e] <;> simpa [leastS] using hw.1
        · rcases hyo with e | e <;> rw [e] <;> simpa [mostS] using hw.2
      · cases h
theorem writes_same {x : Q5} (hc : canS x = true) (ho : x.o = 1 ∨ x.o = 13) : writesS x = x.d := by
  unfold writesS
  have : hasD x.o = true := by unfold hasD; rcases ho with e | e <;> rw [e] <;> decide
  rw [hc, this]; rfl
theorem step_plainT {x : Q5} {cs : List Int} (h3 : x.o ≠ 23) (h4 : x.o ≠ 24) (hw : ¬ (writesS x ≠ -1 ∧ writesS x ∈ cs)) : stepT x cs = some cs := by
  unfold stepT
  rw [if_neg h4, if_neg hw, if_neg h3]
theorem step_plain_invT {x : Q5} {cs ds : List Int} (h3 : x.o ≠ 23) (h4 : x.o ≠ 24) (h : stepT x cs = some ds) : ds = cs := by
  unfold stepT at h
  rw [if_neg h4, if_neg h3] at h
  split at h
  · cases h
  · exact (Option.some.inj h).symm
/-- what is put keeps the counters, and nothing more can be done -/
theorem put_keeps : ∀ (r : List Q5) (x : Q5) (cs : List Int), (∀ y ∈ r, canS y = true) → canS x = true → x.o ≠ 23 → x.o ≠ 24 → ¬ (writesS x ≠ -1 ∧ writesS x ∈ cs) → Irr r → scanX r.reverse [] = some cs →
    (∀ y ∈ putR r x, canS y = true) ∧ Irr (putR r x) ∧ scanX (putR r x).reverse [] = some cs ∧ (putR r x).length ≤ r.length + 1
  | [], x, cs, hr, hx, h3, h4, hw, hi, hs => by
    unfold putR
    by_cases hq : idleP x = true
    · rw [if_pos hq]; exact ⟨hr, hi, hs, by simp⟩
    · rw [if_neg hq]
      refine ⟨by simpa using hx, ⟨⟨by simpa using hq, fun g => h3 g.1⟩, trivial, by simp⟩, ?_, by simp⟩
      have : cs = [] := by simpa [scanX] using hs.symm
      subst this
      simp only [List.reverse_singleton, scanX]
      rw [step_plainT h3 h4 hw]
  | y :: r, x, cs, hr, hx, h3, h4, hw, hi, hs => by
    have hcy := hr y (by simp)
    unfold putR
    cases hj : joinP y x with
    | none =>
      by_cases hq : idleP x = true
      · simp only [if_pos hq]; exact ⟨hr, hi, hs, by simp⟩
      · simp only [if_neg hq]
        refine ⟨?_, ⟨⟨by simpa using hq, fun g => h3 g.1⟩, hi, ?_⟩, ?_, by simp⟩
        · intro z hz
          rcases List.mem_cons.1 hz with rfl | hz
          · exact hx
          · exact hr z hz
        · intro z hz
          simp at hz
          subst hz
          exact hj
        · rw [List.reverse_cons, scan_snoc, hs]
          exact step_plainT h3 h4 hw
    | some z =>
      simp only
      obtain ⟨j1, j2, j3, j4, j5, j6⟩ := join_some hj hcy hx
      have hs' : scanX r.reverse [] = some cs := by
        rw [List.reverse_cons, scan_snoc] at hs
        cases hq : scanX r.reverse [] with
        | none => rw [hq] at hs; cases hs
        | some ds =>
          rw [hq] at hs
          rw [step_plain_invT (by omega) (by omega) hs]
      have hwz : ¬ (writesS z ≠ -1 ∧ writesS z ∈ cs) := by
        rw [writes_same j5 j2, j4, ← writes_same hx j6]
        exact hw
      obtain ⟨g1, g2, g3, g4⟩ := put_keeps r z cs (fun y hy => hr y (List.mem_cons_of_mem _ hy)) j5 (by omega) (by omega) hwz hi.2.1 hs'
      exact ⟨g1, g2, g3, by simp; omega⟩
/-- a step that can't go together with the one ahead, and isn't idle, goes behind it -/
theorem put_stays {r : List Q5} {x : Q5} (h : Irr (x :: r)) : putR r x = x :: r := by
  obtain ⟨⟨h1, _⟩, h2, h3⟩ := h
  cases r with
  | nil => unfold putR; rw [h1]; rfl
  | cons y r => unfold putR; rw [h3 y rfl]; simp [h1]
theorem irr_tail {x : Q5} {r : List Q5} (h : Irr (x :: r)) : Irr r := h.2.1
theorem irr_drop : ∀ (k : Nat) {r : List Q5}, Irr r → Irr (r.drop k)
  | 0, r, h => by simpa using h
  | k + 1, [], h => by simpa using h
  | k + 1, x :: r, h => by simpa using irr_drop k h.2.1
theorem join_loop {y x : Q5} (h : x.o = 23 ∨ x.o = 24) : joinP y x = none := by
  unfold joinP
  split
  · rfl
  · rw [if_neg (by omega), if_neg (by omega)]
theorem idle_loop {x : Q5} (h : x.o = 23 ∨ x.o = 24) : idleP x = false := by
  unfold idleP
  have : decide (x.o = 2 ∨ (13 ≤ x.o ∧ x.o ≤ 16)) = false := by simp; omega
  rw [this, Bool.and_false]
theorem put_loop {r : List Q5} {x : Q5} (h : x.o = 23 ∨ x.o = 24) : putR r x = x :: r := by
  cases r with
  | nil => unfold putR; rw [idle_loop h]; rfl
  | cons y r => unfold putR; rw [join_loop h]; simp [idle_loop h]
end Go.Proofs.Ytlieapapmkbbgaa

namespace Go.Proofs.Ytlieapapmkbbgaa
set_option linter.unusedVariables false

theorem iOf_at {l : List Q5} {k : Nat} {y : Q5} (h : l[k]? = some y) : iOf l k = y.i := by unfold iOf; rw [h]; rfl
theorem dOf_atT {l : List Q5} {k : Nat} {y : Q5} (h : l[k]? = some y) : dOf l k = y.d := by unfold dOf; rw [h]; rfl
/-- the loop that an end ends is the last one that is open -/
theorem inv_mate {l : List Q5} {P Pj : List Int} {j : Nat} {O : List Nat} {x : Q5} (h : InvM l P j Pj O) (hx : l[j]? = some x) (h24 : x.o = 24) : ∃ (O' : List Nat) (b : Nat) (Pj' : List Int), O = O' ++ [b] ∧ P[j]? = some (b : Int) ∧ InvM l P (j + 1) Pj' O' := by
  obtain ⟨hne, Pj', hi'⟩ := inv_24 h hx h24
  obtain ⟨i1, i2, i3, i4, i5⟩ := h
  have hjl : j < l.length := by
    rcases Nat.lt_or_ge j l.length with g | g
    · exact g
    · rw [List.getElem?_eq_none g] at hx; cases hx
  rw [runE_step hx, stepE, if_neg (by omega), if_pos h24] at i4
  rcases List.eq_nil_or_concat O with hO | ⟨O', b, hO⟩
  · exact absurd hO hne
  · rw [List.concat_eq_append] at hO
    subst hO
    simp only [List.getLast?_append, List.getLast?_singleton, Option.some_or, List.dropLast_concat] at i4 hi'
    refine ⟨O', b, Pj', rfl, ?_, hi'⟩
    have hbj := (i2 b (by simp)).1
    rw [List.nodup_append] at i3
    obtain ⟨g0, g1, g2, g3, g4, g5⟩ := run_good l (l.drop (j + 1)) (j + 1) _ P O' rfl (by simpa using i1) (fun c hc => by have := (i2 c (List.mem_append_left _ hc)).1; omega) i3.1 i4
    rw [g5 j (by omega) (fun hm => by have := (i2 j (List.mem_append_left _ hm)).1; omega)]
    rw [List.getElem?_set_ne (by omega), List.getElem?_set_self (by simp; omega)]
def keepB (l : List Q5) (b : Nat) : Bool := decide (iOf l b ≠ 1)
def openT (l : List Q5) (O : List Nat) : List Int := (O.filter (keepB l)).map (dOf l)
def TdInv (l : List Q5) (P : List Int) (k : Nat) (r : List Q5) : Prop :=
  ∃ Pk O, InvM l P k Pk O ∧ O.length ≤ 10 ∧ runC (l.drop k) (O.map (dOf l)) = runC l [] ∧ (O.map (dOf l)).Nodup ∧ (∀ y ∈ r, canS y = true) ∧ Irr r ∧ scanX r.reverse [] = some (openT l O) ∧ r.length ≤ k
theorem openT_mem {l : List Q5} {O : List Nat} {d : Int} (h : d ∈ openT l O) : d ∈ O.map (dOf l) := by
  unfold openT at h
  obtain ⟨b, hb, e⟩ := List.mem_map.1 h
  exact List.mem_map.2 ⟨b, (List.mem_filter.1 hb).1, e⟩
theorem openT_len (l : List Q5) (O : List Nat) : (openT l O).length ≤ O.length := by
  unfold openT
  rw [List.length_map]
  exact List.length_filter_le _ _
theorem openT_app (l : List Q5) (O : List Nat) (b : Nat) : openT l (O ++ [b]) = openT l O ++ (if iOf l b = 1 then [] else [dOf l b]) := by
  unfold openT keepB
  rw [List.filter_append, List.map_append]
  congr 1
  by_cases h : iOf l b = 1
  · simp [h]
  · simp [h]
theorem set_can {d i : Int} (h : 0 ≤ d ∧ d < 64) (hi : -2147483648 ≤ i ∧ i ≤ 2147483647) : canS ⟨1, d, 0, 0, i⟩ = true := by
  unfold canS
  simp only [Bool.and_eq_true, decide_eq_true_eq]
  refine ⟨⟨⟨⟨⟨by decide, ?_⟩, by decide⟩, by decide⟩, by simpa [leastS] using hi.1⟩, by simpa [mostS] using hi.2⟩
  have : hasD 1 = true := by decide
  rw [this]
  simp [fitsS, h.1, h.2]
theorem td_0 {l : List Q5} {P : List Int} (h : endsS l = some P) : TdInv l P 0 [] :=
  ⟨_, [], inv_start h, by simp, rfl, by simp, by simp, trivial, by simp [openT, scanX], by simp⟩
theorem td_next {l : List Q5} {P : List Int} {k : Nat} {r : List Q5} {x : Q5} (h : TdInv l P k r) (hx : l[k]? = some x) (hall : ∀ x ∈ l, canS x = true) (hr : countedS l = true) : TdInv l P (k + 1) (putR r (convS l P k x)) := by
  obtain ⟨Pk, O, hi, h10, hrun, hnd, hcan, hirr, hscan, hlen⟩ := h
  have hc := hall x (List.mem_of_getElem? hx)
  unfold countedS at hr
  rw [runC_step hx] at hrun
  have hOd : ∀ b ∈ O, b < k := fun b hb => (hi.2.1 b hb).1
  by_cases h24 : x.o = 24
  · obtain ⟨O', b, Pj', rfl, hPb, hi'⟩ := inv_mate hi hx h24
    have hd0 : (P.getD k 0).toNat = b := by rw [List.getD_eq_getElem?_getD, hPb]; rfl
    rw [stepC, if_pos h24] at hrun
    simp only [List.map_append, List.map_cons, List.map_nil, List.dropLast_concat] at hrun hnd
    rw [List.nodup_append] at hnd
    obtain ⟨_, y, hy, hyo⟩ := hi.2.1 b (by simp)
    have hyd := can_d (hall y (List.mem_of_getElem? hy))
    by_cases hone : iOf l b = 1
    · have hcv : convS l P k x = ⟨1, dOf l b, 0, 0, 0⟩ := by
        unfold convS
        rw [if_neg (by omega), if_pos ⟨h24, by rw [hd0]; exact hone⟩, hd0]
      rw [hcv]
      have hcs : canS ⟨1, dOf l b, 0, 0, 0⟩ = true := set_can (by rw [dOf_atT hy]; exact hyd) (by omega)
      rw [openT_app, if_pos hone, List.append_nil] at hscan
      obtain ⟨g1, g2, g3, g4⟩ := put_keeps r ⟨1, dOf l b, 0, 0, 0⟩ (openT l O') hcan hcs (by simp) (by simp) (by
        rintro ⟨_, hm⟩
        rw [writes_same hcs (Or.inl rfl)] at hm
        exact hnd.2.2 _ (openT_mem hm) (dOf l b) (by simp) rfl) hirr hscan
      exact ⟨Pj', O', hi', by simp at h10; omega, hrun, hnd.1, g1, g2, g3, by omega⟩
    · have hcv : convS l P k x = x := by
        unfold convS
        rw [if_neg (by omega), if_neg (fun g => hone (by rw [← hd0]; exact g.2))]
      rw [hcv, put_loop (Or.inr h24)]
      refine ⟨Pj', O', hi', by simp at h10; omega, hrun, hnd.1, ?_, ⟨⟨idle_loop (Or.inr h24), fun g => by omega⟩, hirr, fun y _ => join_loop (Or.inr h24)⟩, ?_, by simp; omega⟩
      · intro z hz
        rcases List.mem_cons.1 hz with rfl | hz
        · exact hc
        · exact hcan z hz
      · rw [List.reverse_cons, scan_snoc, hscan, openT_app, if_neg hone]
        simp only
        unfold stepT
        rw [if_pos h24, if_neg (by simp), List.dropLast_concat]
  · rw [stepC, if_neg h24] at hrun
    by_cases hw : writesS x ≠ -1 ∧ writesS x ∈ O.map (dOf l)
    · rw [if_pos hw] at hrun
      rw [← hrun] at hr
      cases hr
    · rw [if_neg hw] at hrun
      by_cases h23 : x.o = 23
      · rw [if_pos h23] at hrun
        by_cases hq : (O.map (dOf l)).length = 10
        · rw [if_pos hq] at hrun
          rw [← hrun] at hr
          cases hr
        · rw [if_neg hq] at hrun
          have hq' : O.length ≠ 10 := by simpa using hq
          have hwd : writesS x = x.d := by
            unfold writesS
            have : hasD x.o = true := by rw [h23]; decide
            rw [hc, this]; rfl
          have hdb := can_d hc
          have hnot : x.d ∉ O.map (dOf l) := fun hm => hw ⟨by rw [hwd]; omega, by rw [hwd]; exact hm⟩
          have hnd2 : ((O ++ [k]).map (dOf l)).Nodup := by
            rw [List.map_append, List.nodup_append]
            refine ⟨hnd, by simp, fun a ha b hb e => ?_⟩
            simp at hb
            subst hb
            subst e
            rw [dOf_atT hx] at ha
            exact hnot ha
          have hrun2 : runC (l.drop (k + 1)) ((O ++ [k]).map (dOf l)) = runC l [] := by
            rw [← hrun]
            simp [dOf_atT hx]
          by_cases hone : x.i = 1
          · have hcv : convS l P k x = ⟨1, x.d, x.a, x.b, x.i⟩ := by
              unfold convS
              rw [if_pos ⟨h23, hone⟩]
            have hab : x.a = 0 ∧ x.b = 0 := by
              have hc' := hc
              unfold canS at hc'
              simp only [Bool.and_eq_true] at hc'
              have ha := hc'.1.1.1.2
              have hb := hc'.1.1.2
              rw [h23] at ha hb
              have e1 : hasA 23 = false := by decide
              have e2 : hasB 23 = false := by decide
              rw [e1] at ha
              rw [e2] at hb
              simp [fitsS] at ha hb
              exact ⟨ha, hb⟩
            rw [hcv, hab.1, hab.2, hone]
            have hcs : canS ⟨1, x.d, 0, 0, 1⟩ = true := set_can hdb (by omega)
            obtain ⟨g1, g2, g3, g4⟩ := put_keeps r ⟨1, x.d, 0, 0, 1⟩ (openT l O) hcan hcs (by simp) (by simp) (by
              rintro ⟨_, hm⟩
              rw [writes_same hcs (Or.inl rfl)] at hm
              exact hnot (openT_mem hm)) hirr hscan
            refine ⟨_, O ++ [k], inv_23 hi hx h23, by simp; omega, hrun2, hnd2, g1, g2, ?_, by omega⟩
            rw [g3, openT_app, iOf_at hx, if_pos hone, List.append_nil]
          · have hcv : convS l P k x = x := by
              unfold convS
              rw [if_neg (fun g => hone g.2), if_neg (fun g => h24 g.1)]
            rw [hcv, put_loop (Or.inl h23)]
            refine ⟨_, O ++ [k], inv_23 hi hx h23, by simp; omega, hrun2, hnd2, ?_, ⟨⟨idle_loop (Or.inl h23), fun g => hone g.2⟩, hirr, fun y _ => join_loop (Or.inl h23)⟩, ?_, by simp; omega⟩
            · intro z hz
              rcases List.mem_cons.1 hz with rfl | hz
              · exact hc
              · exact hcan z hz
            · have hol := openT_len l O
              rw [List.reverse_cons, scan_snoc, hscan, openT_app, iOf_at hx, if_neg hone, dOf_atT hx]
              simp only
              unfold stepT
              rw [if_neg h24, if_neg (fun g => hnot (by rw [← hwd]; exact openT_mem g.2)), if_pos h23, if_neg (by omega)]
      · rw [if_neg h23] at hrun
        have hcv : convS l P k x = x := by
          unfold convS
          rw [if_neg (fun g => h23 g.1), if_neg (fun g => h24 g.1)]
        rw [hcv]
        obtain ⟨g1, g2, g3, g4⟩ := put_keeps r x (openT l O) hcan hc h23 h24 (fun g => hw ⟨g.1, openT_mem g.2⟩) hirr hscan
        exact ⟨_, O, inv_other hi hx h23 h24, h10, hrun, hnd, g1, g2, g3, by omega⟩
theorem tidyR_next {l : List Q5} {P : List Int} {k : Nat} {x : Q5} {r : List Q5} (hx : l[k]? = some x) : tidyR l P (l.drop k) k r = tidyR l P (l.drop (k + 1)) (k + 1) (putR r (convS l P k x)) := by
  have hk : k < l.length := by
    rcases Nat.lt_or_ge k l.length with g | g
    · exact g
    · rw [List.getElem?_eq_none g] at hx; cases hx
  have : l.drop k = x :: l.drop (k + 1) := by
    rw [List.drop_eq_getElem_cons hk]
    congr 1
    rw [List.getElem?_eq_getElem hk] at hx
    exact Option.some.inj hx
  rw [this]
  rfl
theorem td_all {l : List Q5} {P : List Int} (hall : ∀ x ∈ l, canS x = true) (hr : countedS l = true) : ∀ (n k : Nat) (r : List Q5), n + k = l.length → TdInv l P k r → TdInv l P l.length (tidyR l P (l.drop k) k r)
  | 0, k, r, hk, h => by
    obtain rfl : k = l.length := by omega
    rw [List.drop_length]
    exact h
  | n + 1, k, r, hk, h => by
    obtain ⟨x, hx⟩ := lookup (l := l) (k := k) (by omega)
    rw [tidyR_next hx]
    exact td_all hall hr n (k + 1) _ (by omega) (td_next h hx hall hr)
/-- what is left may be, and nothing more can be done -/
theorem tidy_may {l : List Q5} {P : List Int} (hl : l.length ≤ 20000) (hall : ∀ x ∈ l, canS x = true) (hr : countedS l = true) (he : endsS l = some P) :
    checkS (tidyS l P) = 0 ∧ Irr (tidyS l P).reverse ∧ (tidyS l P).length ≤ l.length ∧ (∀ x ∈ tidyS l P, canS x = true) := by
  have h := td_all hall hr l.length 0 [] rfl (td_0 he)
  obtain ⟨Pk, O, hi, h10, hrun, hnd, hcan, hirr, hscan, hlen⟩ := h
  have hO : O = [] := by
    have := hi.2.2.2.1
    rw [List.drop_length] at this
    simp only [runE, Option.some.injEq, Prod.mk.injEq] at this
    exact this.2
  subst hO
  have hc2 : ∀ x ∈ tidyS l P, canS x = true := fun x hx => hcan x (by unfold tidyS at hx; exact List.mem_reverse.1 hx)
  refine ⟨scan_check (by unfold tidyS; rw [List.length_reverse]; exact Nat.le_trans hlen hl) hc2 hscan, by unfold tidyS; rw [List.reverse_reverse]; exact hirr, by unfold tidyS; rw [List.length_reverse]; exact hlen, hc2⟩
theorem irr_ok : ∀ {r : List Q5}, Irr r → ∀ x ∈ r, okX x
  | x :: r, h, y, hy => by
    rcases List.mem_cons.1 hy with rfl | hy
    · exact h.1
    · exact irr_ok h.2.1 y hy
/-- where nothing can be done, nothing is done -/
theorem tidy_still {l : List Q5} {P : List Int} (he : endsS l = some P) (hirr : Irr l.reverse) : tidyS l P = l := by
  have key : ∀ (n k : Nat), n + k = l.length → tidyR l P (l.drop k) k (l.take k).reverse = l.reverse := by
    intro n
    induction n with
    | zero =>
      intro k hk
      obtain rfl : k = l.length := by omega
      rw [List.drop_length, List.take_length]
      rfl
    | succ n ih =>
      intro k hk
      obtain ⟨x, hx⟩ := lookup (l := l) (k := k) (by omega)
      rw [tidyR_next hx]
      have hok : ∀ {j : Nat} {y : Q5}, l[j]? = some y → ¬ (y.o = 23 ∧ y.i = 1) := fun hy => (irr_ok hirr _ (List.mem_reverse.2 (List.mem_of_getElem? hy))).2
      have hcv : convS l P k x = x := by
        unfold convS
        rw [if_neg (hok hx)]
        by_cases h24 : x.o = 24
        · have hr : runE l 0 (List.replicate l.length 0, []) = some (P, []) := by
            unfold endsS at he
            split at he
            · rename_i p heq
              cases he
              exact heq
            · cases he
          obtain ⟨g0, _, g2, g3, g4, _⟩ := run_good l l 0 _ _ _ rfl (by simp) (by simp) (by simp) hr
          obtain ⟨q, hq, h1, h2⟩ := g3 k x (Nat.zero_le _) hx h24
          rcases hq with hq | ⟨y, _, hy, hyo⟩
          · simp at hq
          · rw [if_neg]
            rintro ⟨_, hi⟩
            rw [List.getD_eq_getElem?_getD, h1, Option.getD_some, Int.toNat_natCast, iOf_at hy] at hi
            exact hok hy ⟨hyo, hi⟩
        · rw [if_neg (fun g => h24 g.1)]
      rw [hcv]
      have ht : (l.take (k + 1)).reverse = x :: (l.take k).reverse := by
        rw [List.take_add_one, hx]
        simp
      have hi2 : Irr (x :: (l.take k).reverse) := by
        rw [← ht]
        have := irr_drop (l.length - (k + 1)) hirr
        rw [List.drop_reverse, show l.length - (l.length - (k + 1)) = k + 1 by omega] at this
        exact this
      rw [put_stays hi2, ← ht]
      exact ih (k + 1) (by omega)
  have := key l.length 0 rfl
  unfold tidyS
  rw [show tidyR l P l 0 [] = l.reverse from this, List.reverse_reverse]
end Go.Proofs.Ytlieapapmkbbgaa
