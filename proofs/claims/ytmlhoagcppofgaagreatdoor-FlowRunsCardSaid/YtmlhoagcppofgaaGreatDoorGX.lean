/- What a step of layer 6's machine leaves as it is. -/
import Derived.Test.YtmlhoagcppofgaaGreatDoorGW
namespace Go.Proofs.YtmlhoagcppofgaaGreatDoor
open Go Go.RowKit Pl
set_option linter.unusedVariables false

/-- how many of the first registers differ -/
def cntR (r r' : Nat → Nat) : Nat → Nat
  | 0 => 0
  | m + 1 => cntR r r' m + if r' m = r m then 0 else 1
theorem cntR_same (r : Nat → Nat) (m : Nat) : cntR r r m = 0 := by
  induction m with
  | zero => rfl
  | succ m ih => simp [cntR, ih]
theorem cntR_set (r : Nat → Nat) (d x m : Nat) : cntR r (setR r d x) m ≤ if d < m then 1 else 0 := by
  induction m with
  | zero => simp [cntR]
  | succ m ih =>
    unfold cntR
    by_cases e : d = m
    · subst e
      rw [if_neg (Nat.lt_irrefl d)] at ih
      rw [if_pos (Nat.lt_succ_self d)]
      split <;> omega
    · have g : setR r d x m = r m := by unfold setR; rw [if_neg (fun h => e h.1.symm)]
      rw [g, if_pos rfl]
      by_cases h : d < m
      · rw [if_pos h] at ih
        rw [if_pos (by omega)]
        omega
      · rw [if_neg h] at ih
        rw [if_neg (by omega)]
        omega
def NfA (s : MSt) (o : MOut) : Prop := ∃ d x, o.s.r = setR s.r d x
def NfB (s : MSt) (o : MOut) : Prop := o.t ≠ 0 → o.s = s ∧ o.e.k = 0
def NfC (s : MSt) (o : MOut) : Prop := ∀ i, i < 128 → o.s.b.getD i 0 ≠ s.b.getD i 0 → o.e.k = 2 ∧ 2147483648 ≤ o.e.a ∧ o.e.a - 2147483648 ≤ i ∧ ∃ sz : Nat, o.e.s = sz ∧ i < o.e.a - 2147483648 + sz ∧ o.e.a - 2147483648 + sz ≤ 128
theorem nfA_keep {s : MSt} {e : MEv} {t : Int} {pc : Nat} {b : List Nat} : NfA s ⟨e, t, ⟨pc, s.r, b⟩⟩ := ⟨0, 0, (setR_zero _ _).symm⟩
theorem nfA_if {s : MSt} {e : MEv} {t : Int} {pc : Nat} {b : List Nat} {to d x : Nat} : NfA s ⟨e, t, ⟨pc, ifA to (setR s.r d x) s.r, b⟩⟩ := by
  unfold ifA
  split
  · exact ⟨d, x, rfl⟩
  · exact ⟨0, 0, (setR_zero _ _).symm⟩
theorem stepM_A (f rr : Nat) (Fb : List Nat) (s : MSt) : NfA s (stepM f rr Fb s) := by
  have ite : ∀ (c : Prop) [Decidable c] (a b : MOut), NfA s a → NfA s b → NfA s (if c then a else b) := fun c _ a b h g => by split; exact h; exact g
  unfold stepM
  refine ite _ _ _ nfA_keep (ite _ _ _ nfA_keep ?_)
  unfold doM
  repeat' first | exact nfA_keep | exact nfA_if | exact ⟨_, _, rfl⟩ | apply ite
theorem nfB_none {s s' : MSt} {e : MEv} : NfB s ⟨e, 0, s'⟩ := fun h => absurd rfl h
theorem nfB_trap {s : MSt} {p w a : Nat} {z t : Int} : NfB s ⟨⟨p, w, 0, a, z⟩, t, s⟩ := fun _ => ⟨rfl, rfl⟩
theorem nfB_if {s : MSt} {p w a to : Nat} {z : Int} {r' : Nat → Nat} : NfB s ⟨⟨p, w, 0, a, z⟩, ifA to 0 1, ⟨ifA to to s.pc, ifA to r' s.r, s.b⟩⟩ := by
  unfold ifA
  split
  · exact fun h => absurd rfl h
  · exact fun _ => ⟨rfl, rfl⟩
theorem nfB_jump {s : MSt} {p w a to : Nat} {z : Int} : NfB s ⟨⟨p, w, 0, a, z⟩, ifA to 0 1, ⟨ifA to to s.pc, s.r, s.b⟩⟩ := by
  unfold ifA
  split
  · exact fun h => absurd rfl h
  · exact fun _ => ⟨rfl, rfl⟩
theorem stepM_B (f rr : Nat) (Fb : List Nat) (s : MSt) : NfB s (stepM f rr Fb s) := by
  have ite : ∀ (c : Prop) [Decidable c] (a b : MOut), NfB s a → NfB s b → NfB s (if c then a else b) := fun c _ a b h g => by split; exact h; exact g
  unfold stepM
  refine ite _ _ _ nfB_trap (ite _ _ _ nfB_trap ?_)
  unfold doM
  repeat' first | exact nfB_none | exact nfB_trap | exact nfB_if | exact nfB_jump | apply ite
theorem nfC_keep {s : MSt} {e : MEv} {t : Int} {pc : Nat} {r : Nat → Nat} : NfC s ⟨e, t, ⟨pc, r, s.b⟩⟩ := fun i _ h => absurd rfl h
theorem lowB_len (k v : Nat) : (lowB k v).length = k := lowB_length k v
theorem stepM_C (Fb : List Nat) (s : MSt) (hl : s.b.length = 128) : NfC s (stepM 4096 2147483648 Fb s) := by
  have ite : ∀ (c : Prop) [Decidable c] (a b : MOut), (c → NfC s a) → (¬ c → NfC s b) → NfC s (if c then a else b) := fun c _ a b h g => by split; exact h ‹_›; exact g ‹_›
  unfold stepM
  refine ite _ _ _ (fun _ => nfC_keep) fun _ => (ite _ _ _ (fun _ => nfC_keep) fun _ => ?_)
  generalize decI _ = q
  unfold doM
  refine ite _ _ _ (fun _ => nfC_keep) fun _ => (ite _ _ _ (fun _ => nfC_keep) fun _ => (ite _ _ _ (fun _ => ite _ _ _ (fun _ => nfC_keep) fun _ => nfC_keep) fun _ => (ite _ _ _ (fun _ => ite _ _ _ (fun _ => nfC_keep) fun hst => ?_) fun _ => ?_)))
  · intro i hi hne
    simp only at hne ⊢
    have hs0 : storeS 2147483648 s.b.length (atC s.r q.a.toNat q.i) (sizeC q.o) = 0 := by omega
    unfold ramS at hne
    rw [if_pos hs0] at hne
    unfold storeS at hs0
    generalize atC s.r q.a.toNat q.i = at_ at *
    generalize sizeC q.o = k at *
    split at hs0
    · cases hs0
    split at hs0
    · rename_i hin
      have g := inB_out hin
      rw [setB_getD _ _ _ (by rw [lowB_len]; omega), lowB_len] at hne
      by_cases hr : at_ - 2147483648 ≤ i ∧ i < at_ - 2147483648 + k
      · exact ⟨trivial, by omega, hr.1, k, rfl, hr.2, by omega⟩
      · rw [if_neg hr] at hne
        exact absurd rfl hne
    · cases hs0
  · repeat' first | exact fun _ => nfC_keep | exact nfC_keep | apply ite | intro _
end Go.Proofs.YtmlhoagcppofgaaGreatDoor

namespace Go.Proofs.YtmlhoagcppofgaaGreatDoor
open Go Go.RowKit Pl
set_option linter.unusedVariables false

/-- so many steps: the events of those that don't trap, the trap, the machine -/
def runE (Fb : List Nat) : Nat → MSt → List MEv × Int × MSt
  | 0, s => ([], 0, s)
  | n + 1, s => if (stepM 4096 2147483648 Fb s).t ≠ 0 then ([], (stepM 4096 2147483648 Fb s).t, (stepM 4096 2147483648 Fb s).s)
    else ((stepM 4096 2147483648 Fb s).e :: (runE Fb n (stepM 4096 2147483648 Fb s).s).1, (runE Fb n (stepM 4096 2147483648 Fb s).s).2.1, (runE Fb n (stepM 4096 2147483648 Fb s).s).2.2)
theorem runE_trap1 {Fb : List Nat} {s : MSt} (n : Nat) (h : (stepM 4096 2147483648 Fb s).t ≠ 0) : runE Fb (n + 1) s = ([], (stepM 4096 2147483648 Fb s).t, (stepM 4096 2147483648 Fb s).s) := by
  show (if _ then _ else _) = _
  rw [if_pos h]
theorem runE_go {Fb : List Nat} {s : MSt} (n : Nat) (h : (stepM 4096 2147483648 Fb s).t = 0) : runE Fb (n + 1) s = ((stepM 4096 2147483648 Fb s).e :: (runE Fb n (stepM 4096 2147483648 Fb s).s).1, (runE Fb n (stepM 4096 2147483648 Fb s).s).2.1, (runE Fb n (stepM 4096 2147483648 Fb s).s).2.2) := by
  show (if _ then _ else _) = _
  rw [if_neg (by omega)]
theorem runE_len (Fb : List Nat) (n : Nat) (s : MSt) : (runE Fb n s).1.length ≤ n := by
  induction n generalizing s with
  | zero => simp [runE]
  | succ n ih =>
    by_cases h : (stepM 4096 2147483648 Fb s).t = 0
    · rw [runE_go n h]
      have := ih (stepM 4096 2147483648 Fb s).s
      simp only [List.length_cons]
      omega
    · rw [runE_trap1 n h]; simp
theorem runE_full (Fb : List Nat) (n : Nat) (s : MSt) (h : (runE Fb n s).2.1 = 0) : (runE Fb n s).1.length = n := by
  induction n generalizing s with
  | zero => simp [runE]
  | succ n ih =>
    by_cases g : (stepM 4096 2147483648 Fb s).t = 0
    · rw [runE_go n g] at h ⊢
      have := ih _ h
      simp only [List.length_cons]
      omega
    · rw [runE_trap1 n g] at h
      exact absurd h g
theorem runE_blen (Fb : List Nat) (n : Nat) (s : MSt) : (runE Fb n s).2.2.b.length = s.b.length := by
  induction n generalizing s with
  | zero => rfl
  | succ n ih =>
    by_cases g : (stepM 4096 2147483648 Fb s).t = 0
    · rw [runE_go n g]
      exact (ih _).trans (stepM_len _ _ _ _)
    · rw [runE_trap1 n g]
      exact stepM_len _ _ _ _
theorem runE_add (Fb : List Nat) (p q : Nat) (s : MSt) (h : (runE Fb p s).2.1 = 0) : runE Fb (p + q) s = ((runE Fb p s).1 ++ (runE Fb q (runE Fb p s).2.2).1, (runE Fb q (runE Fb p s).2.2).2.1, (runE Fb q (runE Fb p s).2.2).2.2) := by
  induction p generalizing s with
  | zero => simp [runE]
  | succ p ih =>
    by_cases g : (stepM 4096 2147483648 Fb s).t = 0
    · rw [runE_go p g] at h ⊢
      rw [show p + 1 + q = (p + q) + 1 by omega, runE_go (p + q) g, ih _ h]
      rfl
    · rw [runE_trap1 p g] at h
      exact absurd h g
/-- a machine that trapped traps alike -/
theorem runE_again (Fb : List Nat) (n m : Nat) (s : MSt) (h : (runE Fb n s).2.1 ≠ 0) : runE Fb (m + 1) (runE Fb n s).2.2 = ([], (runE Fb n s).2.1, (runE Fb n s).2.2) := by
  induction n generalizing s with
  | zero => exact absurd rfl h
  | succ n ih =>
    by_cases g : (stepM 4096 2147483648 Fb s).t = 0
    · rw [runE_go n g] at h ⊢
      exact ih _ h
    · rw [runE_trap1 n g]
      have e := (stepM_B 4096 2147483648 Fb s g).1
      show runE Fb (m + 1) (stepM 4096 2147483648 Fb s).s = _
      rw [e, runE_trap1 m g, e]
/-- a loop that has come as far as i: what is behind, and what is to come -/
structure RunAt (Fb : List Nat) (n : Nat) (s : MSt) (i : Nat) (pre : List MEv) (si : MSt) : Prop where
  le : i ≤ n
  len : pre.length = i
  eq : runE Fb n s = (pre ++ (runE Fb (n - i) si).1, (runE Fb (n - i) si).2.1, (runE Fb (n - i) si).2.2)
theorem RunAt.start (Fb : List Nat) (n : Nat) (s : MSt) : RunAt Fb n s 0 [] s := ⟨Nat.zero_le _, rfl, by simp⟩
theorem RunAt.next {Fb : List Nat} {n : Nat} {s si : MSt} {i : Nat} {pre : List MEv} (h : RunAt Fb n s i pre si) (hi : i < n) (g : (stepM 4096 2147483648 Fb si).t = 0) : RunAt Fb n s (i + 1) (pre ++ [(stepM 4096 2147483648 Fb si).e]) (stepM 4096 2147483648 Fb si).s := by
  refine ⟨by omega, by simp [h.len], ?_⟩
  rw [h.eq, show n - i = (n - (i + 1)) + 1 by omega, runE_go _ g]
  simp
theorem RunAt.trap {Fb : List Nat} {n : Nat} {s si : MSt} {i : Nat} {pre : List MEv} (h : RunAt Fb n s i pre si) (hi : i < n) (g : (stepM 4096 2147483648 Fb si).t ≠ 0) : runE Fb n s = (pre, (stepM 4096 2147483648 Fb si).t, (stepM 4096 2147483648 Fb si).s) := by
  rw [h.eq, show n - i = (n - (i + 1)) + 1 by omega, runE_trap1 _ g]
  simp
theorem RunAt.done {Fb : List Nat} {n : Nat} {s si : MSt} {pre : List MEv} (h : RunAt Fb n s n pre si) : runE Fb n s = (pre, 0, si) := by
  rw [h.eq, Nat.sub_self]
  simp [runE]
end Go.Proofs.YtmlhoagcppofgaaGreatDoor
