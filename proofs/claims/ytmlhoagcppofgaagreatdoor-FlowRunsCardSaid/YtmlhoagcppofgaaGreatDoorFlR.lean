/- Runs of words that are told where they may go: plain. -/
import Derived.Test.YtmlhoagcppofgaaGreatDoorHB
import Derived.Test.YtmlhoagcppofgaaGreatDoorGX
import Derived.Test.YtmlhoagcppofgaaGreatDoorGV
namespace Go.Proofs.YtmlhoagcppofgaaGreatDoor
open Go Go.RowKit Pl
set_option linter.unusedVariables false

theorem wordsB_cell (l : List Nat) (k j : Nat) (hk : k < l.length) (hj : j < 4) : (wordsB l).getD (4 * k + j) 0 = (wordB (l.getD k 0)).getD j 0 := by
  induction l generalizing k with
  | nil => simp at hk
  | cons x l ih =>
    have e : wordsB (x :: l) = wordB x ++ wordsB l := rfl
    cases k with
    | zero =>
      rw [e, List.getD_eq_getElem?_getD, List.getElem?_append_left (by simp [wordB]; omega)]
      simp
    | succ k =>
      have h2 := ih k (by simpa using hk)
      rw [List.getD_eq_getElem?_getD] at h2
      rw [e, List.getD_eq_getElem?_getD, List.getElem?_append_right (by simp [wordB]; omega), show 4 * (k + 1) + j - (wordB x).length = 4 * k + j by simp [wordB]; omega, h2]
      simp
theorem begF_cell (l : List Nat) (hl : l.length ≤ 60) (i : Nat) (hi : i < 256) : (begF l).getD i 0 = if i < 4 * l.length then (wordsB l).getD i 0 else 0 := by
  have e : l.take 60 = l := List.take_of_length_le hl
  unfold begF
  rw [e, setB_getD _ _ _ (by rw [noughts_len, wordsB_len]; omega), wordsB_len]
  by_cases h : i < 4 * l.length
  · rw [if_pos (by omega), if_pos h, Nat.sub_zero]
  · rw [if_neg (by omega), if_neg h]
    unfold noughts
    rw [List.getD_eq_getElem?_getD, List.getElem?_replicate, if_pos hi]
    rfl
theorem begF_len (l : List Nat) : (begF l).length = 256 := by
  unfold begF
  rw [setB_length _ _ _ (by rw [noughts_len, wordsB_len, List.length_take]; omega)]
  exact noughts_len 256
theorem begF_word (l : List Nat) (hl : l.length ≤ 60) (h32 : ∀ x ∈ l, x < 4294967296) (k : Nat) (hk : k < 64) : bytesAt (begF l) (4 * k) 4 = if k < l.length then l.getD k 0 else 0 := by
  have L := begF_len l
  rw [bytes_step 3 (by omega), bytes_step 2 (by omega), bytes_step 1 (by omega), bytes_step 0 (by omega), bytes0]
  have c := fun i hi => begF_cell l hl i hi
  rw [c _ (by omega), c _ (by omega), c _ (by omega), c _ (by omega)]
  by_cases h : k < l.length
  · have w0 := wordsB_cell l k 0 h (by omega)
    have w1 := wordsB_cell l k 1 h (by omega)
    have w2 := wordsB_cell l k 2 h (by omega)
    have w3 := wordsB_cell l k 3 h (by omega)
    have hx := getD_lt32 h32 k
    rw [if_pos (by omega), if_pos (by omega), if_pos (by omega), if_pos (by omega), if_pos h, show 4 * k = 4 * k + 0 from rfl, w0, show 4 * k + 0 + 1 = 4 * k + 1 from rfl, w1, show 4 * k + 1 + 1 = 4 * k + 2 from rfl, w2, show 4 * k + 2 + 1 = 4 * k + 3 from rfl, w3]
    simp [wordB]
    omega
  · rw [if_neg (by omega), if_neg (by omega), if_neg (by omega), if_neg (by omega), if_neg h]
/-- a branch's and a jump's numbers are small -/
theorem aim_small {w : Int} (h0 : 0 ≤ w) (h1 : w < 4294967296) (h : aimO (decI w).o = true) : -1048576 ≤ (decI w).i ∧ (decI w).i ≤ 1048575 := by
  unfold decI at h ⊢
  by_cases g : opI w = 0
  · rw [if_pos g]; exact ⟨by decide, by decide⟩
  · rw [if_neg g] at h ⊢
    have ho : (36 ≤ opI w ∧ opI w ≤ 41) ∨ opI w = 44 := of_decide_eq_true h
    have hf : formI (opI w) = 3 ∨ formI (opI w) = 5 := by
      unfold formI
      rcases ho with ho | ho
      · left
        rw [if_neg (by omega), if_neg (by omega), if_neg (by omega), if_neg (by omega), if_neg (by omega), if_pos (by omega)]
      · right
        rw [ho]; rfl
    unfold recI
    rcases hf with hf | hf
    · simp only [hf]
      rw [if_neg (by decide), if_neg (by decide)]
      have := get3 w
      rw [this]
      omega
    · simp only [hf]
      rw [if_neg (by decide), if_neg (by decide)]
      have := get5 w
      rw [this]
      omega
theorem ite_ev {c : Prop} [Decidable c] {a b : MOut} {p w : Nat} (ha : a.e.p = p ∧ a.e.w = w) (hb : b.e.p = p ∧ b.e.w = w) : (if c then a else b).e.p = p ∧ (if c then a else b).e.w = w := by
  split
  · exact ha
  · exact hb
theorem doM_ev (f rr : Nat) (Fb : List Nat) (s : MSt) (q : Q5) (p w : Nat) : (doM f rr Fb s q p w).e.p = p ∧ (doM f rr Fb s q p w).e.w = w := by
  unfold doM
  repeat' (first | exact ⟨rfl, rfl⟩ | refine ite_ev ?_ ?_)
theorem doM_pc {f rr : Nat} {Fb : List Nat} {s : MSt} {q : Q5} {p w : Nat} (hb : 1 ≤ q.o ∧ q.o ≤ 48) (h : (doM f rr Fb s q p w).t = 0) (h45 : q.o ≠ 45) :
    ((doM f rr Fb s q p w).s.pc = (s.pc + 4) % 4294967296 ∧ onO q.o = true) ∨ ((doM f rr Fb s q p w).s.pc = (s.pc + nC q.i) % 4294967296 ∧ aimO q.o = true) := by
  have on : q.o ≠ 44 → q.o ≠ 47 → q.o ≠ 48 → onO q.o = true := fun a b c => decide_eq_true ⟨a, b, c⟩
  unfold doM at h ⊢
  by_cases c1 : q.o ≤ 18
  · rw [if_pos c1]; exact .inl ⟨rfl, on (by omega) (by omega) (by omega)⟩
  rw [if_neg c1] at h ⊢
  by_cases c2 : q.o ≤ 27
  · rw [if_pos c2]; exact .inl ⟨rfl, on (by omega) (by omega) (by omega)⟩
  rw [if_neg c2] at h ⊢
  by_cases c3 : q.o ≤ 32
  · rw [if_pos c3] at h ⊢
    split at h
    · rename_i g; exact absurd h g
    · rename_i g; rw [if_neg g]; exact .inl ⟨rfl, on (by omega) (by omega) (by omega)⟩
  rw [if_neg c3] at h ⊢
  by_cases c4 : q.o ≤ 35
  · rw [if_pos c4] at h ⊢
    split at h
    · rename_i g; exact absurd h g
    · rename_i g; rw [if_neg g]; exact .inl ⟨rfl, on (by omega) (by omega) (by omega)⟩
  rw [if_neg c4] at h ⊢
  by_cases c5 : q.o ≤ 41
  · rw [if_pos c5] at h ⊢
    split at h
    · rename_i g
      rw [if_pos g]
      have e : (s.pc + nC q.i) % 4294967296 % 4 = 0 := by
        have h' : ifA ((s.pc + nC q.i) % 4294967296) (0 : Int) 1 = 0 := h
        unfold ifA at h'
        split at h'
        · assumption
        · cases h'
      refine .inr ⟨?_, decide_eq_true (.inl ⟨by omega, c5⟩)⟩
      show ifA ((s.pc + nC q.i) % 4294967296) ((s.pc + nC q.i) % 4294967296) s.pc = _
      unfold ifA
      rw [if_pos e]
    · rename_i g; rw [if_neg g]; exact .inl ⟨rfl, on (by omega) (by omega) (by omega)⟩
  rw [if_neg c5] at h ⊢
  by_cases c6 : q.o = 42
  · rw [if_pos c6]; exact .inl ⟨rfl, on (by omega) (by omega) (by omega)⟩
  rw [if_neg c6] at h ⊢
  by_cases c7 : q.o = 43
  · rw [if_pos c7]; exact .inl ⟨rfl, on (by omega) (by omega) (by omega)⟩
  rw [if_neg c7] at h ⊢
  by_cases c8 : q.o = 44
  · rw [if_pos c8] at h ⊢
    have e : (s.pc + nC q.i) % 4294967296 % 4 = 0 := by
      have h' : ifA ((s.pc + nC q.i) % 4294967296) (0 : Int) 1 = 0 := h
      unfold ifA at h'
      split at h'
      · assumption
      · cases h'
    refine .inr ⟨?_, decide_eq_true (.inr c8)⟩
    show ifA ((s.pc + nC q.i) % 4294967296) ((s.pc + nC q.i) % 4294967296) s.pc = _
    unfold ifA
    rw [if_pos e]
  rw [if_neg c8, if_neg h45] at h ⊢
  by_cases c9 : q.o = 46
  · rw [if_pos c9]; exact .inl ⟨rfl, on (by omega) (by omega) (by omega)⟩
  rw [if_neg c9] at h ⊢
  by_cases c10 : q.o = 47
  · rw [if_pos c10] at h; cases h
  · rw [if_neg c10] at h; cases h
/-- the pc is at no word that is not told, and far from RAM -/
structure PcOk (l : List Nat) (R : Nat → Bool) (s : MSt) : Prop where
  bl : s.b.length = 128
  far : s.pc < 2097152 ∨ (4293918720 ≤ s.pc ∧ s.pc < 4294967296)
  rch : ∀ k, k < l.length → s.pc = 4096 + 4 * k → R k = true
theorem step_good {l : List Nat} {R : Nat → Bool} (hl : l.length ≤ 30) (h32 : ∀ x ∈ l, x < 4294967296) (hcl : closedS (gQ l) l.length R) {s : MSt} (h : PcOk l R s) (ht : (stepM 4096 2147483648 (begF l) s).t = 0) :
    (∃ k, k < l.length ∧ (stepM 4096 2147483648 (begF l) s).e.p = 4096 + 4 * k ∧ (stepM 4096 2147483648 (begF l) s).e.w = l.getD k 0 ∧ R k = true) ∧ ((decI ((stepM 4096 2147483648 (begF l) s).e.w : Nat)).o = 45 ∨ PcOk l R (stepM 4096 2147483648 (begF l) s).s) := by
  have hbl : (stepM 4096 2147483648 (begF l) s).s.b.length = s.b.length := stepM_len _ _ _ _
  have L := begF_len l
  obtain ⟨k, hk, hpc, hF⟩ : ∃ k, k < 64 ∧ s.pc = 4096 + 4 * k ∧ fetchS 4096 (begF l).length 2147483648 s.b.length (begF l) s.b s.pc = (bytesAt (begF l) (4 * k) 4, 0) := by
    have hf : (fetchS 4096 (begF l).length 2147483648 s.b.length (begF l) s.b s.pc).2 = 0 := by
      unfold stepM at ht
      split at ht
      · rename_i g; exact absurd ht g
      · rename_i g; simpa using g
    unfold fetchS at hf ⊢
    by_cases h4 : s.pc % 4 ≠ 0
    · rw [if_pos h4] at hf; cases hf
    · rw [if_neg h4] at hf ⊢
      cases hi : inB 4096 (begF l).length s.pc 4
      · rw [hi] at hf
        cases hr : inB 2147483648 s.b.length s.pc 4
        · rw [hr] at hf; cases hf
        · have := of_decide_eq_true hr
          have := h.far
          have := h.bl
          omega
      · have hb := of_decide_eq_true hi
        rw [L] at hb
        refine ⟨(s.pc - 4096) / 4, by omega, by omega, ?_⟩
        rw [if_pos rfl, show 4 * ((s.pc - 4096) / 4) = s.pc - 4096 by omega]
  have hw := begF_word l (by omega) h32 k hk
  have hop : opI ((fetchS 4096 (begF l).length 2147483648 s.b.length (begF l) s.b s.pc).1 : Nat) ≠ 0 := by
    intro e
    unfold stepM at ht
    rw [if_neg (by rw [hF]; simp), if_pos e] at ht
    cases ht
  have hs : stepM 4096 2147483648 (begF l) s = doM 4096 2147483648 (begF l) s (decI ((bytesAt (begF l) (4 * k) 4 : Nat) : Int)) s.pc (bytesAt (begF l) (4 * k) 4) := by
    unfold stepM
    rw [if_neg (by rw [hF]; simp), if_neg hop, hF]
  rw [hF] at hop
  have hkl : k < l.length := by
    rcases Nat.lt_or_ge k l.length with g | g
    · exact g
    · rw [hw, if_neg (by omega)] at hop
      exact absurd (by decide) hop
  rw [hw, if_pos hkl] at hs hop
  have hx := getD_lt32 h32 k
  rw [hs] at ht hbl ⊢
  obtain ⟨ep, ew⟩ := doM_ev 4096 2147483648 (begF l) s (decI ((l.getD k 0 : Nat) : Int)) s.pc (l.getD k 0)
  refine ⟨⟨k, hkl, by rw [ep]; exact hpc, ew, h.rch k hkl hpc⟩, ?_⟩
  rw [ew]
  by_cases h45 : (decI ((l.getD k 0 : Nat) : Int)).o = 45
  · exact .inl h45
  · right
    have bd := dec_bd (w := ((l.getD k 0 : Nat) : Int)) (by omega) (by omega) hop
    have RK := h.rch k hkl hpc
    rcases doM_pc bd.o ht h45 with ⟨hp, hon⟩ | ⟨hp, ha⟩
    · refine ⟨by rw [hbl]; exact h.bl, by rw [hp]; omega, fun j hj hj2 => ?_⟩
      rw [hp] at hj2
      have hj3 : j = k + 1 := by omega
      subst hj3
      refine hcl k (k + 1) hkl hj RK ?_
      unfold gQ goesQ comeQ
      rw [show onO (qAt l k).o = true from hon, decide_eq_true (show (qAt l k).o ≠ 0 from fun e => by have := bd.o.1; have e' : (decI ((l.getD k 0 : Nat) : Int)).o = 0 := e; omega)]
      simp
    · have sm := aim_small (w := ((l.getD k 0 : Nat) : Int)) (by omega) (by omega) ha
      have hn : (nC (decI ((l.getD k 0 : Nat) : Int)).i : Int) = (decI ((l.getD k 0 : Nat) : Int)).i % 4294967296 := by unfold nC; omega
      refine ⟨by rw [hbl]; exact h.bl, by rw [hp]; omega, fun j hj hj2 => ?_⟩
      rw [hp] at hj2
      refine hcl k j hkl hj RK ?_
      unfold gQ goesQ aimQ
      have ha' : aimO (qAt l k).o = true := ha
      have hi : (qAt l k).i = 4 * ((j : Int) - (k : Int)) := by
        show (decI ((l.getD k 0 : Nat) : Int)).i = _
        omega
      rw [ha', decide_eq_true hi]
      rfl
/-- events of a run that is told -/
def GoodE (l : List Nat) (R : Nat → Bool) : List MEv → Prop
  | [] => True
  | e :: es => (∃ k, k < l.length ∧ e.p = 4096 + 4 * k ∧ e.w = l.getD k 0 ∧ R k = true) ∧ ((decI (e.w : Nat)).o = 45 ∨ GoodE l R es)
theorem run_good {l : List Nat} {R : Nat → Bool} (hl : l.length ≤ 30) (h32 : ∀ x ∈ l, x < 4294967296) (hcl : closedS (gQ l) l.length R) (n : Nat) {s : MSt} (h : PcOk l R s) : GoodE l R (runE (begF l) n s).1 := by
  induction n generalizing s with
  | zero => trivial
  | succ n ih =>
    by_cases g : (stepM 4096 2147483648 (begF l) s).t = 0
    · rw [runE_go n g]
      have := step_good hl h32 hcl h g
      exact ⟨this.1, this.2.imp id fun p => ih p⟩
    · rw [runE_trap1 n g]; trivial
theorem begS_ok {l regs : List Nat} {R : Nat → Bool} (h : 0 < l.length → R 0 = true) : PcOk l R (begS regs) :=
  ⟨noughts_len 128, .inl (by show 4096 < 2097152; decide), fun k hk e => by
    have e' : 4096 = 4096 + 4 * k := e
    have : k = 0 := by omega
    subst this
    exact h hk⟩
end Go.Proofs.YtmlhoagcppofgaaGreatDoor
