/- Plain mathematics of AllocMany's program: n variables that are set, one of which is moved. -/
import Derived.Test.YtolohbegdjnjnaaAhP
import Derived.Test.YtolohbegdjnjnaaAwP
import Derived.Test.YtolohbegdjnjnaaVars
namespace Go.Proofs.Ytolohbegdjnjnaa
open Go Go.RowKit
set_option linter.unusedVariables false

def setQ (k : Nat) : Q5 := ⟨1, k, 0, 0, 0⟩
def movQ (k : Nat) : Q5 := ⟨2, k, k, 0, 0⟩
def setsQ : Nat → Nat → List Q5
  | _, 0 => []
  | k, m + 1 => setQ k :: setsQ (k + 1) m
def amQ (n big : Nat) : List Q5 := setsQ 0 n ++ [movQ big]
theorem setsQ_snoc (k m : Nat) : setsQ k (m + 1) = setsQ k m ++ [setQ (k + m)] := by
  induction m generalizing k with
  | zero => rfl
  | succ m ih =>
    rw [setsQ, ih (k + 1)]
    rw [show k + 1 + m = k + (m + 1) by omega]
    rfl
theorem setsQ_len (k m : Nat) : (setsQ k m).length = m := by
  induction m generalizing k with
  | zero => rfl
  | succ m ih => simp [setsQ, ih]
theorem setsQ_mem {k m : Nat} {x : Q5} (h : x ∈ setsQ k m) : ∃ j, k ≤ j ∧ j < k + m ∧ x = setQ j := by
  induction m generalizing k with
  | zero => simp [setsQ] at h
  | succ m ih =>
    rw [setsQ] at h
    rcases List.mem_cons.mp h with rfl | h
    · exact ⟨k, Nat.le_refl _, by omega, rfl⟩
    · obtain ⟨j, h1, h2, h3⟩ := ih h
      exact ⟨j, by omega, by omega, h3⟩
theorem setsQ_has {k m j : Nat} (h1 : k ≤ j) (h2 : j < k + m) : setQ j ∈ setsQ k m := by
  induction m generalizing k with
  | zero => omega
  | succ m ih =>
    rw [setsQ]
    by_cases e : k = j
    · subst e; simp
    · exact List.mem_cons_of_mem _ (ih (by omega) (by omega))
theorem setQ_can {k : Nat} (h : k < 64) : canS (setQ k) = true := by
  have h' : (k : Int) < 64 := by omega
  simp [canS, setQ, isOp, fitsS, hasD, hasA, hasB, leastS, mostS, h']
theorem movQ_can {k : Nat} (h : k < 64) : canS (movQ k) = true := by
  have h' : (k : Int) < 64 := by omega
  simp [canS, movQ, isOp, fitsS, hasD, hasA, hasB, leastS, mostS, h']
theorem setQ_reads {k : Nat} (h : k < 64) : readsS (setQ k) = [] := by
  unfold readsS; rw [setQ_can h]; simp [setQ, hasA, hasB]
theorem setQ_writes {k : Nat} (h : k < 64) : writesS (setQ k) = k := by
  unfold writesS; rw [setQ_can h]; simp [setQ, hasD]
theorem movQ_reads {k : Nat} (h : k < 64) : readsS (movQ k) = [(k : Int)] := by
  unfold readsS; rw [movQ_can h]; simp [movQ, hasA, hasB]
theorem movQ_writes {k : Nat} (h : k < 64) : writesS (movQ k) = k := by
  unfold writesS; rw [movQ_can h]; simp [movQ, hasD]

theorem runE_plain (l : List Q5) (h : ∀ x ∈ l, x.o ≠ 23 ∧ x.o ≠ 24) : ∀ (i : Nat) (P : List Int), ∃ P', runE l i (P, []) = some (P', []) := by
  induction l with
  | nil => intro i P; exact ⟨P, rfl⟩
  | cons x l ih =>
    intro i P
    obtain ⟨P', hp⟩ := ih (fun y hy => h y (by simp [hy])) (i + 1) (P.set i (-1))
    obtain ⟨h1, h2⟩ := h x (by simp)
    refine ⟨P', ?_⟩
    rw [runE, stepE, if_neg h1, if_neg h2]
    exact hp
theorem runC_plain (l : List Q5) (h : ∀ x ∈ l, x.o ≠ 23 ∧ x.o ≠ 24) : runC l [] = some [] := by
  induction l with
  | nil => rfl
  | cons x l ih =>
    obtain ⟨h1, h2⟩ := h x (by simp)
    rw [runC, stepC, if_neg h2, if_neg (by simp), if_neg h1]
    exact ih (fun y hy => h y (by simp [hy]))
theorem check_plain {l : List Q5} (hl : l.length ≤ 20000) (hc : ∀ x ∈ l, canS x = true) (h : ∀ x ∈ l, x.o ≠ 23 ∧ x.o ≠ 24) : checkS l = 0 ∧ ∃ P, endsS l = some P := by
  obtain ⟨P', hp⟩ := runE_plain l h 0 (List.replicate l.length 0)
  have he : endsS l = some P' := by unfold endsS; rw [hp]
  refine ⟨?_, P', he⟩
  unfold checkS
  rw [if_neg (by omega), if_neg (by simp; exact hc), he]
  unfold countedS
  rw [runC_plain l h]
  rfl
theorem am_check {n big : Nat} (hn : n ≤ 64) (hb : big < 64) : checkS (amQ n big) = 0 ∧ ∃ P, endsS (amQ n big) = some P := by
  have key : ∀ x ∈ amQ n big, (∃ j, j < 64 ∧ x = setQ j) ∨ x = movQ big := by
    intro x hx
    rcases List.mem_append.mp hx with hx | hx
    · obtain ⟨j, _, h2, h3⟩ := setsQ_mem hx
      exact .inl ⟨j, by omega, h3⟩
    · exact .inr (by simpa using hx)
  refine check_plain (by simp [amQ, setsQ_len]; omega) ?_ ?_
  · intro x hx
    rcases key x hx with ⟨j, hj, rfl⟩ | rfl
    · exact setQ_can hj
    · exact movQ_can hb
  · intro x hx
    rcases key x hx with ⟨j, hj, rfl⟩ | rfl <;> simp [setQ, movQ]

def OnesTo (k : Nat) (W : List Int) : Prop := W.length = 64 ∧ ∀ v, v < 64 → W.getD v 0 = if v < k then 1 else 0
theorem ones_next {k : Nat} {W : List Int} (h : OnesTo k W) (hk : k < 64) : OnesTo (k + 1) (addW W (k : Int) 1) := by
  obtain ⟨h1, h2⟩ := h
  refine ⟨by simp [addW, h1], fun v hv => ?_⟩
  unfold addW
  rw [Int.toNat_natCast, h2 k hk, if_neg (by omega)]
  by_cases e : k = v
  · subst e
    rw [List.getD_eq_getElem?_getD, List.getElem?_set_self (by omega), if_pos (by omega)]
    simp
    omega
  · rw [List.getD_eq_getElem?_getD, List.getElem?_set_ne e, ← List.getD_eq_getElem?_getD, h2 v hv]
    by_cases h : v < k
    · rw [if_pos h, if_pos (by omega)]
    · rw [if_neg h, if_neg (by omega)]
theorem weigh_sets (l : List Q5) (P : List Int) (rest : List Q5) : ∀ (m k i : Nat) (W : List Int), k + m ≤ 64 → OnesTo k W → ∃ W', OnesTo (k + m) W' ∧ weighR l P (setsQ k m ++ rest) i 0 W = weighR l P rest (i + m) 0 W' := by
  intro m
  induction m with
  | zero => intro k i W _ h; exact ⟨W, h, rfl⟩
  | succ m ih =>
    intro k i W hk h
    have hk64 : k < 64 := by omega
    obtain ⟨W', h1, h2⟩ := ih (k + 1) (i + 1) _ (by omega) (ones_next h hk64)
    refine ⟨W', by rw [show k + (m + 1) = k + 1 + m by omega]; exact h1, ?_⟩
    rw [setsQ, List.cons_append, weighR, show i + (m + 1) = i + 1 + m by omega, ← h2]
    have e1 : dNext (setQ k) 0 = 0 := by simp [dNext, setQ]
    have e2 : dIn (setQ k) 0 = 0 := by simp [dIn, setQ]
    have e3 : varsAt l P i (setQ k) = [(k : Int)] := by
      unfold varsAt
      rw [setQ_reads hk64, setQ_writes hk64, if_neg (by omega), if_neg (by simp [setQ])]
      rfl
    rw [e1, e2, e3]
    rfl
/-- the moved variable weighs more than each other one -/
theorem am_heavy {n big : Nat} (hn : n ≤ 64) (hb : big < 64) : ∀ v, v < 64 → v ≠ big → wAt (weighS (amQ n big)) (v : Int) < wAt (weighS (amQ n big)) (big : Int) := by
  obtain ⟨hc, P, hP⟩ := am_check hn hb
  have e : weighS (amQ n big) = weighR (amQ n big) P (amQ n big) 0 0 (List.replicate 64 0) := by
    unfold weighS; rw [if_pos hc, hP]
  have h0 : OnesTo 0 (List.replicate 64 0) := ⟨by simp, fun v hv => by rw [List.getD_eq_getElem?_getD, List.getElem?_replicate, if_pos hv]; rfl⟩
  obtain ⟨W', h1, h2⟩ := weigh_sets (amQ n big) P [movQ big] n 0 0 _ (by omega) h0
  rw [Nat.zero_add] at h1 h2
  have e2 : weighS (amQ n big) = addW (addW W' (big : Int) 1) (big : Int) 1 := by
    rw [e]
    show weighR (amQ n big) P (setsQ 0 n ++ [movQ big]) 0 0 (List.replicate 64 0) = _
    rw [h2, weighR, weighR]
    have e1 : dIn (movQ big) 0 = 0 := by simp [dIn, movQ]
    have e3 : varsAt (amQ n big) P n (movQ big) = [(big : Int), (big : Int)] := by
      unfold varsAt
      rw [movQ_reads hb, movQ_writes hb, if_neg (by omega), if_neg (by simp [movQ])]
      rfl
    rw [e1, e3]
    rfl
  intro v hv hne
  obtain ⟨hl, hW⟩ := h1
  have a1 : wAt (weighS (amQ n big)) (v : Int) = W'.getD v 0 := by
    rw [e2]
    unfold wAt addW
    simp only [Int.toNat_natCast, List.getD_eq_getElem?_getD]
    rw [List.getElem?_set_ne (by omega), List.getElem?_set_ne (by omega)]
  have a2 : wAt (weighS (amQ n big)) (big : Int) = min 1000000000 (min 1000000000 (W'.getD big 0 + 1) + 1) := by
    rw [e2]
    unfold wAt addW
    simp only [Int.toNat_natCast, List.getD_eq_getElem?_getD]
    rw [List.getElem?_set_self (by simp; omega), List.getElem?_set_self (by omega)]
    rfl
  rw [a1, a2, hW v hv, hW big hb]
  split <;> split <;> omega
theorem am_used {n big : Nat} (hn : n ≤ 64) (hb : big < 64) (v : Nat) (hv : v < 64) : usedT (amQ n big) v = (decide (v < n) || v == big) := by
  have key : usedT (amQ n big) v = true ↔ (v < n ∨ v = big) := by
    unfold usedT amQ
    rw [List.any_append, Bool.or_eq_true, List.any_eq_true]
    have h2 : [movQ big].any (fun x => usedQ x v) = true ↔ v = big := by
      simp only [List.any_cons, List.any_nil, Bool.or_false, usedQ, movQ_reads hb, movQ_writes hb]
      simp
      omega
    rw [h2]
    constructor
    · rintro (⟨x, hx, hu⟩ | h)
      · obtain ⟨j, _, h3, rfl⟩ := setsQ_mem hx
        unfold usedQ at hu
        rw [setQ_reads (by omega), setQ_writes (by omega)] at hu
        simp at hu
        left; omega
      · exact .inr h
    · rintro (h | h)
      · refine .inl ⟨setQ v, setsQ_has (by omega) (by omega), ?_⟩
        unfold usedQ
        rw [setQ_writes hv]
        simp
      · exact .inr h
  cases h : usedT (amQ n big) v with
  | true => have := key.mp h; simp; omega
  | false =>
    have : ¬ (v < n ∨ v = big) := fun h' => by rw [key.mpr h'] at h; cases h
    simp; omega
theorem count_used (n big : Nat) (m : Nat) : (List.range m).countP (fun v => decide (v < n) || v == big) = min m n + (if big < m ∧ n ≤ big then 1 else 0) := by
  induction m with
  | zero => simp
  | succ m ih =>
    have e : (if (decide (m < n) || m == big) = true then 1 else 0) = (if m < n ∨ m = big then 1 else 0 : Nat) := by
      by_cases hp : m < n ∨ m = big
      · rw [if_pos (show (decide (m < n) || m == big) = true by simpa using hp), if_pos hp]
      · rw [if_neg (show ¬ (decide (m < n) || m == big) = true by simpa using hp), if_neg hp]
    rw [List.range_succ, List.countP_append, ih, List.countP_singleton, e]
    by_cases h1 : m < n ∨ m = big <;> by_cases h2 : big < m ∧ n ≤ big <;> by_cases h3 : big < m + 1 ∧ n ≤ big <;> (first | rw [if_pos h1] | rw [if_neg h1]) <;> (first | rw [if_pos h2] | rw [if_neg h2]) <;> (first | rw [if_pos h3] | rw [if_neg h3]) <;> omega
theorem am_many {n big : Nat} (hn : n ≤ 64) (hb : big < 64) : (varsS (amQ n big)).length = n + (if n ≤ big then 1 else 0) := by
  unfold varsS
  rw [List.length_map, ← List.countP_eq_length_filter]
  have e : (List.range 64).countP (usedT (amQ n big)) = (List.range 64).countP (fun v => decide (v < n) || v == big) := by
    refine List.countP_congr fun v hv => ?_
    rw [am_used hn hb v (List.mem_range.mp hv)]
  rw [e, count_used]
  split <;> split <;> omega
theorem am_in {n big : Nat} (hn : n ≤ 64) (hb : big < 64) : (big : Int) ∈ varsS (amQ n big) := by
  unfold varsS
  refine List.mem_map.mpr ⟨big, List.mem_filter.mpr ⟨List.mem_range.mpr hb, ?_⟩, rfl⟩
  rw [am_used hn hb big hb]
  simp
theorem am_first {n big : Nat} (hn : n ≤ 64) (hb : big < 64) (hin : ∀ v ∈ varsS (amQ n big), 0 ≤ v ∧ v < 64) : aheadW (weighS (amQ n big)) (varsS (amQ n big)) (big : Int) = 0 := by
  unfold aheadW
  refine List.countP_eq_zero.mpr fun k hk => ?_
  obtain ⟨h0, h1⟩ := hin k hk
  obtain ⟨j, rfl⟩ : ∃ j : Nat, k = (j : Int) := ⟨k.toNat, by omega⟩
  by_cases e : j = big
  · subst e; rw [lt2_irr]; simp
  · have := am_heavy hn hb j (by omega) e
    rw [show lt2W (weighS (amQ n big)) (j : Int) (big : Int) = false from lt2_asym (lt2_iff.mpr (.inl this))]
    simp
end Go.Proofs.Ytolohbegdjnjnaa
