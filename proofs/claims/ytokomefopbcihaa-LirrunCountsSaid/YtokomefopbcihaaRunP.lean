/- Plain facts: a program that is one loop of plain steps: where its walk stands. -/
import Derived.Test.YtokomefopbcihaaQuantP
namespace Go.Proofs.Ytokomefopbcihaa
open Go Go.RowKit Pl
set_option linter.unusedVariables false

/-- a step that the program's machine does by the contracts here -/
def DoOk (x : Q5) : Prop := (x.o = 13 ∨ x.o = 3) ∧ (0 ≤ x.d ∧ x.d < 64) ∧ (0 ≤ x.a ∧ x.a < 64) ∧ (0 ≤ x.b ∧ x.b < 64)
/-- the program -/
def progL (c : Nat) (N : Int) (body : List Q5) : List Q5 := ⟨23, c, 0, 0, N⟩ :: (body ++ [⟨24, 0, 0, 0, 0⟩])
/-- variables behind so many rounds -/
def rounds (c : Nat) (N : Int) (body : List Q5) : Nat → Nat → Int
  | 0 => upd (fun _ => 0) c (N % 4294967296)
  | r + 1 => upd (runF body (rounds c N body r)) c ((runF body (rounds c N body r) c - 1) % 4294967296)
theorem rounds_words (c : Nat) (N : Int) (body : List Q5) : ∀ r, WordsF (rounds c N body r)
  | 0 => wordsF_upd (fun _ => by omega) _ (by omega)
  | r + 1 => wordsF_upd (words_run _ _ (rounds_words c N body r)) _ (by omega)
theorem rounds_c {c : Nat} {N : Int} {body : List Q5} (hN : 1 ≤ N ∧ N ≤ 100000) (hb : ∀ x ∈ body, x.d.toNat ≠ c) : ∀ r : Nat, (r : Int) ≤ N → rounds c N body r c = N - r
  | 0, _ => by show upd (fun _ => 0) c (N % 4294967296) c = _; unfold upd; rw [if_pos rfl]; omega
  | r + 1, h => by
    have ih := rounds_c hN hb r (by omega)
    show upd (runF body (rounds c N body r)) c ((runF body (rounds c N body r) c - 1) % 4294967296) c = _
    unfold upd
    rw [if_pos rfl, run_other body _ hb, ih]
    omega
theorem progL_len (c : Nat) (N : Int) (body : List Q5) : (progL c N body).length = body.length + 2 := by simp [progL]
theorem progL_0 (c : Nat) (N : Int) (body : List Q5) : (progL c N body)[0]? = some ⟨23, c, 0, 0, N⟩ := rfl
theorem progL_body (c : Nat) (N : Int) (body : List Q5) {i : Nat} (h : i < body.length) : (progL c N body)[1 + i]? = body[i]? := by
  unfold progL
  rw [Nat.add_comm, List.getElem?_cons_succ, List.getElem?_append_left h]
theorem progL_end (c : Nat) (N : Int) (body : List Q5) : (progL c N body)[1 + body.length]? = some ⟨24, 0, 0, 0, 0⟩ := by
  unfold progL
  rw [Nat.add_comm, List.getElem?_cons_succ, List.getElem?_append_right (Nat.le_refl _), Nat.sub_self]; rfl
/-- where the walk of the program stands: the next step, how many are done, the variables -/
def At (c : Nat) (N : Int) (body : List Q5) (at' n : Nat) (f : Nat → Int) : Prop :=
  (at' = 0 ∧ n = 0 ∧ f = fun _ => 0) ∨
  (∃ r i : Nat, (r : Int) < N ∧ i ≤ body.length ∧ at' = 1 + i ∧ n = 1 + r * (body.length + 1) + i ∧ f = runF (body.take i) (rounds c N body r)) ∨
  (at' = body.length + 2 ∧ n = 1 + N.toNat * (body.length + 1) ∧ f = rounds c N body N.toNat)
/-- what a plain step leaves, a loop's own among them -/
def stepG (x : Q5) (f : Nat → Int) : Nat → Int := if x.o = 23 then upd f x.d.toNat (x.i % 4294967296) else stepF x f
def DoOkG (x : Q5) : Prop := x.o = 23 ∧ (0 ≤ x.d ∧ x.d < 64) ∧ x.a = 0 ∧ x.b = 0 ∨ DoOk x
theorem at_words {c : Nat} {N : Int} {body : List Q5} {t n : Nat} {f : Nat → Int} (h : At c N body t n f) : WordsF f := by
  rcases h with ⟨_, _, rfl⟩ | ⟨r, i, _, _, _, _, rfl⟩ | ⟨_, _, rfl⟩
  · exact fun _ => ⟨Int.le_refl 0, by show (0 : Int) < 4294967296; decide⟩
  · exact words_run _ _ (rounds_words c N body r)
  · exact rounds_words c N body _
theorem at_le {c : Nat} {N : Int} {body : List Q5} {t n : Nat} {f : Nat → Int} (hN : 1 ≤ N ∧ N ≤ 100000) (h : At c N body t n f) : t ≤ body.length + 2 ∧ (n : Int) ≤ 1 + N * ((body.length : Int) + 1) := by
  have hp : 0 ≤ N * ((body.length : Int) + 1) := Int.mul_nonneg (by omega) (by omega)
  rcases h with ⟨rfl, rfl, _⟩ | ⟨r, i, hr, hi, rfl, rfl, _⟩ | ⟨rfl, rfl, _⟩
  · exact ⟨by omega, by omega⟩
  · refine ⟨by omega, ?_⟩
    have h1 : ((r : Int) + 1) * ((body.length : Int) + 1) ≤ N * ((body.length : Int) + 1) := Int.mul_le_mul_of_nonneg_right (by omega) (by omega)
    rw [Int.add_mul, Int.one_mul] at h1
    push_cast
    omega
  · refine ⟨by omega, ?_⟩
    push_cast
    rw [Int.toNat_of_nonneg (by omega)]
    omega
theorem at_step {c : Nat} {N : Int} {body : List Q5} {t n : Nat} {f : Nat → Int} (hc : c < 64) (hN : 1 ≤ N ∧ N ≤ 100000) (hb : ∀ x ∈ body, DoOk x) (hbc : ∀ x ∈ body, x.d.toNat ≠ c) (h : At c N body t n f) (ht : t < body.length + 2) :
    (∃ x, (progL c N body)[t]? = some x ∧ (x.o == 24) = false ∧ DoOkG x ∧ At c N body (t + 1) (n + 1) (stepG x f)) ∨
    (t = 1 + body.length ∧ ((f c - 1) % 4294967296 == 0) = false ∧ At c N body 1 (n + 1) (upd f c ((f c - 1) % 4294967296))) ∨
    (t = 1 + body.length ∧ ((f c - 1) % 4294967296 == 0) = true ∧ At c N body (t + 1) (n + 1) (upd f c ((f c - 1) % 4294967296))) := by
  rcases h with ⟨rfl, rfl, rfl⟩ | ⟨r, i, hr, hi, rfl, rfl, rfl⟩ | ⟨rfl, _, _⟩
  · refine .inl ⟨_, progL_0 c N body, rfl, .inl ⟨rfl, ⟨by show (0 : Int) ≤ (c : Int); omega, by show (c : Int) < 64; omega⟩, rfl, rfl⟩, .inr (.inl ⟨0, 0, by omega, by omega, rfl, by omega, ?_⟩)⟩
    simp [stepG, rounds, runF]
  · by_cases hlt : i < body.length
    · obtain ⟨x, hx⟩ : ∃ x, body[i]? = some x := ⟨_, List.getElem?_eq_getElem hlt⟩
      have hd := hb x (List.mem_of_getElem? hx)
      have ho := hd.1
      refine .inl ⟨x, by rw [progL_body c N body hlt]; exact hx, by simp; omega, .inr hd, .inr (.inl ⟨r, i + 1, hr, by omega, by omega, by omega, ?_⟩)⟩
      rw [List.take_add_one, hx, Option.toList_some, run_snoc]
      unfold stepG
      rw [if_neg (by omega)]
    · obtain rfl : i = body.length := by omega
      rw [List.take_length]
      have hv : runF body (rounds c N body r) c = N - r := by rw [run_other body _ hbc, rounds_c hN hbc r (by omega)]
      have hr1 : upd (runF body (rounds c N body r)) c ((runF body (rounds c N body r) c - 1) % 4294967296) = rounds c N body (r + 1) := rfl
      rw [hr1, hv]
      by_cases hl : (r : Int) + 1 = N
      · refine .inr (.inr ⟨rfl, by simp; omega, .inr (.inr ⟨by omega, ?_, ?_⟩)⟩)
        · have : N.toNat = r + 1 := by omega
          rw [this, Nat.add_mul]; omega
        · have : N.toNat = r + 1 := by omega
          rw [this]
      · refine .inr (.inl ⟨rfl, by simp; omega, .inr (.inl ⟨r + 1, 0, by omega, by omega, rfl, by rw [Nat.add_mul]; omega, ?_⟩)⟩)
        simp [runF]
  · omega
theorem at_end {c : Nat} {N : Int} {body : List Q5} {n : Nat} {f : Nat → Int} (hN : 1 ≤ N ∧ N ≤ 100000) (h : At c N body (body.length + 2) n f) : (n : Int) = 1 + N * ((body.length : Int) + 1) ∧ f = rounds c N body N.toNat := by
  rcases h with ⟨h0, _, _⟩ | ⟨r, i, hr, hi, h0, rfl, _⟩ | ⟨_, rfl, rfl⟩
  · omega
  · omega
  · refine ⟨?_, rfl⟩
    push_cast
    rw [Int.toNat_of_nonneg (by omega)]
end Go.Proofs.Ytokomefopbcihaa
