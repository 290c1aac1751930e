/- Plain facts: what the steps that bring a number within bounds, and those that scale it, come to. -/
import Derived.Test.YtghclbeoabkgcaaFive
import Derived.Test.YtghclbeoabkgcaaPlainA
namespace Go.Proofs.Ytghclbeoabkgcaa
open Go Go.RowKit Pl
set_option linter.unusedVariables false

def upd (f : Nat → Int) (d : Nat) (x : Int) : Nat → Int := fun k => if k = d then x else f k
/-- words -/
def WordsF (f : Nat → Int) : Prop := ∀ k, 0 ≤ f k ∧ f k < 4294967296
theorem wordsF_upd {f : Nat → Int} (h : WordsF f) (d : Nat) {x : Int} (hx : 0 ≤ x ∧ x < 4294967296) : WordsF (upd f d x) := by
  intro k
  unfold upd
  split
  · exact hx
  · exact h k
/-- the number of the operation that the document's machine does -/
def aluOf (o : Int) : Int := if o = 3 then 1 else if o = 4 then 2 else if o = 5 then 11 else if o = 6 then 12 else if o = 7 then 10 else if o = 13 then 1 else if o = 14 then 3 else if o = 15 then 7 else 8
/-- what a plain step's variable is behind it -/
def valF (x : Q5) (f : Nat → Int) : Int :=
  if x.o = 1 then x.i % 4294967296 else if x.o = 2 then f x.a.toNat
  else aluS (aluOf x.o) (f x.a.toNat) (if 13 ≤ x.o then x.i % 4294967296 else f x.b.toNat)
def stepF (x : Q5) (f : Nat → Int) : Nat → Int := upd f x.d.toNat (valF x f)
def runF : List Q5 → (Nat → Int) → Nat → Int
  | [], f => f
  | x :: l, f => runF l (stepF x f)
/-- a step that the contracts speak of -/
def OkF (x : Q5) : Prop := (x.o = 1 ∨ x.o = 2 ∨ x.o = 3 ∨ x.o = 4 ∨ x.o = 5 ∨ x.o = 6 ∨ x.o = 7 ∨ x.o = 13 ∨ x.o = 14 ∨ x.o = 15 ∨ x.o = 16) ∧ (0 ≤ x.d ∧ x.d < 64) ∧ (0 ≤ x.a ∧ x.a < 64) ∧ (0 ≤ x.b ∧ x.b < 64)
theorem words_step {x : Q5} {f : Nat → Int} (hf : WordsF f) : WordsF (stepF x f) := by
  refine wordsF_upd hf _ ?_
  unfold valF
  split
  · exact ⟨Int.emod_nonneg _ (by omega), Int.emod_lt_of_pos _ (by omega)⟩
  split
  · exact hf _
  · have h1 := hf x.a.toNat
    split
    · exact aluS_bd h1.1 h1.2 (Int.emod_nonneg _ (by omega)) (Int.emod_lt_of_pos _ (by omega))
    · have h2 := hf x.b.toNat
      exact aluS_bd h1.1 h1.2 h2.1 h2.2
theorem words_run : ∀ (l : List Q5) (f : Nat → Int), WordsF f → WordsF (runF l f)
  | [], f, h => h
  | x :: l, f, h => words_run l _ (words_step h)
theorem run_snoc : ∀ (l : List Q5) (x : Q5) (f : Nat → Int), runF (l ++ [x]) f = stepF x (runF l f)
  | [], x, f => rfl
  | y :: l, x, f => run_snoc l x (stepF y f)
theorem run_app : ∀ (l m : List Q5) (f : Nat → Int), runF (l ++ m) f = runF m (runF l f)
  | [], m, f => rfl
  | y :: l, m, f => run_app l m (stepF y f)
theorem run_other {k : Nat} : ∀ (l : List Q5) (f : Nat → Int), (∀ x ∈ l, x.d.toNat ≠ k) → runF l f k = f k
  | [], f, h => rfl
  | x :: l, f, h => by
    have e : runF (x :: l) f k = runF l (stepF x f) k := rfl
    rw [e, run_other l _ (fun y hy => h y (List.mem_cons_of_mem _ hy))]
    unfold stepF upd
    rw [if_neg (fun g => h x (List.mem_cons_self ..) g.symm)]

def clampS (n lo hi : Int) : Int := if n < lo then lo else if hi < n then hi else n
/-- steps that bring D within bounds, by help of T -/
def clampsQ (D T : Nat) (lo hi : Int) : List Q5 := [⟨13, D, D, 0, -lo⟩, ⟨16, T, D, 0, 31⟩, ⟨7, T, T, D, 0⟩, ⟨4, D, D, T, 0⟩, ⟨13, D, D, 0, lo - hi⟩, ⟨16, T, D, 0, 31⟩, ⟨7, D, D, T, 0⟩, ⟨13, D, D, 0, hi⟩]
theorem sgW (x : Int) : sg (x % 4294967296) = wrap32 x := by
  unfold sg wrap32; split <;> omega
theorem alu1 (a b : Int) : aluS 1 (a % 4294967296) (b % 4294967296) = (a + b) % 4294967296 := by
  show (a % 4294967296 + b % 4294967296) % 4294967296 = _; omega
theorem alu2 (a b : Int) : aluS 2 (a % 4294967296) (b % 4294967296) = (a - b) % 4294967296 := by
  show (a % 4294967296 - b % 4294967296) % 4294967296 = _; omega
theorem sign31 {x : Int} (h : -2147483648 ≤ x ∧ x ≤ 2147483647) : aluS 8 (x % 4294967296) 31 = (if x < 0 then -1 else 0) % 4294967296 := by
  show sg (x % 4294967296) / 2 ^ ((31 : Int) % 32).toNat % 4294967296 = _
  rw [sgW, show ((31 : Int) % 32).toNat = 31 by decide, show (2 : Int) ^ 31 = 2147483648 by decide]
  unfold wrap32
  split <;> omega
theorem and_mask (y : Int) (c : Prop) [Decidable c] : aluS 10 ((if c then -1 else 0) % 4294967296) (y % 4294967296) = (if c then y else 0) % 4294967296 := by
  show (((((if c then (-1 : Int) else 0) % 4294967296).toNat &&& (y % 4294967296).toNat : Nat)) : Int) = _
  by_cases h : c
  · rw [if_pos h, if_pos h, show ((-1 : Int) % 4294967296).toNat = 2 ^ 32 - 1 by decide, Nat.and_comm, Nat.and_two_pow_sub_one_eq_mod]
    omega
  · rw [if_neg h, if_neg h, show ((0 : Int) % 4294967296).toNat = 0 by decide, Nat.zero_and]
    rfl
theorem and_comm10 (a b : Int) : aluS 10 a b = aluS 10 b a := by
  show (((a.toNat &&& b.toNat : Nat)) : Int) = (((b.toNat &&& a.toNat : Nat)) : Int)
  rw [Nat.and_comm]
theorem and_mask' (y : Int) (c : Prop) [Decidable c] : aluS 10 (y % 4294967296) ((if c then -1 else 0) % 4294967296) = (if c then y else 0) % 4294967296 :=
  (and_comm10 _ _).trans (and_mask y c)
theorem clamps_val {f : Nat → Int} {D T : Nat} {n lo hi : Int} (hDT : D ≠ T) (hn : -536870912 ≤ n ∧ n ≤ 536870912) (hlo : -536870912 ≤ lo) (hlh : lo ≤ hi) (hhi : hi ≤ 536870912) (hf : f D = n % 4294967296) :
    runF (clampsQ D T lo hi) f D = clampS n lo hi % 4294967296 := by
  have e : runF (clampsQ D T lo hi) f D = aluS 1 (aluS 10 (aluS 1 (aluS 2 (aluS 1 (f D) (-lo % 4294967296)) (aluS 10 (aluS 8 (aluS 1 (f D) (-lo % 4294967296)) 31) (aluS 1 (f D) (-lo % 4294967296)))) ((lo - hi) % 4294967296))
      (aluS 8 (aluS 1 (aluS 2 (aluS 1 (f D) (-lo % 4294967296)) (aluS 10 (aluS 8 (aluS 1 (f D) (-lo % 4294967296)) 31) (aluS 1 (f D) (-lo % 4294967296)))) ((lo - hi) % 4294967296)) 31)) (hi % 4294967296) := by
    simp [clampsQ, runF, stepF, valF, upd, aluOf, hDT]
  rw [e, hf, alu1, sign31 (by omega), and_mask, alu2, alu1, sign31 (by split <;> omega), and_mask', alu1]
  unfold clampS
  (repeat' split) <;> omega

def sc1 (n m : Int) : Int := wrap32 ((n * m + 1073741824) / 2147483648)
def scaleS (n m s : Int) : Int := if s < 0 ∨ 31 < s then 0 else if s = 0 then sc1 n m else wrap32 (sc1 n m + 2 ^ (s - 1).toNat) / 2 ^ s.toNat
/-- steps that let D be A, scaled, by help of T and the variable behind it -/
def stepsQ8 (D A T : Nat) (m : Int) : List Q5 := [⟨1, T, 0, 0, m⟩, ⟨6, (T + 1 : Nat), A, T, 0⟩, ⟨5, T, A, T, 0⟩, ⟨15, T, T, 0, 30⟩, ⟨13, T, T, 0, 1⟩, ⟨15, T, T, 0, 1⟩, ⟨14, (T + 1 : Nat), (T + 1 : Nat), 0, 1⟩, ⟨3, D, (T + 1 : Nat), T, 0⟩]
def stepsQ2 (D : Nat) (s : Int) : List Q5 := if s = 0 then [] else [⟨13, D, D, 0, 2 ^ (s - 1).toNat⟩, ⟨16, D, D, 0, s⟩]
def stepsQ (D A T : Nat) (m s : Int) : List Q5 := stepsQ8 D A T m ++ stepsQ2 D s
theorem sg_nm {n : Int} (h : -2147483648 ≤ n ∧ n ≤ 2147483647) : sg (n % 4294967296) = n := by rw [sgW]; unfold wrap32; omega
theorem steps8_val {f : Nat → Int} {D A T : Nat} {n m : Int} (hAT : A ≠ T) (hAU : A ≠ T + 1) (hn : -2147483648 ≤ n ∧ n ≤ 2147483647) (hm : -2147483648 ≤ m ∧ m ≤ 2147483647) (hf : f A = n % 4294967296) :
    runF (stepsQ8 D A T m) f D = sc1 n m % 4294967296 := by
  have e : runF (stepsQ8 D A T m) f D = aluS 1 (aluS 3 (aluS 12 (f A) (m % 4294967296)) 1) (aluS 7 (aluS 1 (aluS 7 (aluS 11 (f A) (m % 4294967296)) 30) 1) 1) := by
    simp [stepsQ8, runF, stepF, valF, upd, aluOf, hAT, hAU]
  rw [e, hf]
  have a12 : aluS 12 (n % 4294967296) (m % 4294967296) = n * m / 4294967296 % 4294967296 := by
    show sg (n % 4294967296) * sg (m % 4294967296) / 4294967296 % 4294967296 = _
    rw [sg_nm hn, sg_nm hm]
  have a11 : aluS 11 (n % 4294967296) (m % 4294967296) = n * m % 4294967296 := by
    show n % 4294967296 * (m % 4294967296) % 4294967296 = _
    rw [← Int.mul_emod]
  rw [a12, a11]
  show (n * m / 4294967296 % 4294967296 * 2 ^ ((1 : Int) % 32).toNat % 4294967296 + (n * m % 4294967296 / 2 ^ ((30 : Int) % 32).toNat + 1) % 4294967296 / 2 ^ ((1 : Int) % 32).toNat) % 4294967296 = _
  rw [show ((1 : Int) % 32).toNat = 1 by decide, show ((30 : Int) % 32).toNat = 30 by decide, show (2 : Int) ^ 1 = 2 by decide, show (2 : Int) ^ 30 = 1073741824 by decide]
  unfold sc1 wrap32
  generalize n * m = p
  omega
theorem steps_val {f : Nat → Int} {D A T : Nat} {n m s : Int} (hAT : A ≠ T) (hAU : A ≠ T + 1) (hn : -2147483648 ≤ n ∧ n ≤ 2147483647) (hm : -2147483648 ≤ m ∧ m ≤ 2147483647) (hs : 0 ≤ s ∧ s ≤ 31) (hf : f A = n % 4294967296) :
    runF (stepsQ D A T m s) f D = scaleS n m s % 4294967296 := by
  unfold stepsQ
  rw [run_app]
  have h8 := steps8_val (f := f) (D := D) hAT hAU hn hm hf
  generalize runF (stepsQ8 D A T m) f = g at h8
  have hsc : scaleS n m s = if s = 0 then sc1 n m else wrap32 (sc1 n m + 2 ^ (s - 1).toNat) / 2 ^ s.toNat := by
    unfold scaleS; rw [if_neg (by omega)]
  rw [hsc]
  unfold stepsQ2
  by_cases h0 : s = 0
  · rw [if_pos h0, if_pos h0]; exact h8
  · rw [if_neg h0, if_neg h0]
    have e : runF [⟨13, D, D, 0, 2 ^ (s - 1).toNat⟩, ⟨16, D, D, 0, s⟩] g D = aluS 8 (aluS 1 (g D) (2 ^ (s - 1).toNat % 4294967296)) (s % 4294967296) := by
      simp [runF, stepF, valF, upd, aluOf]
    rw [e, h8, alu1]
    show sg ((sc1 n m + 2 ^ (s - 1).toNat) % 4294967296) / 2 ^ (s % 4294967296 % 32).toNat % 4294967296 = _
    rw [sgW, show s % 4294967296 % 32 = s by omega]
end Go.Proofs.Ytghclbeoabkgcaa
