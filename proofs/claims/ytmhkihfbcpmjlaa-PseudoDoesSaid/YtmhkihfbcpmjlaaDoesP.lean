/- Registers behind instructions that need no memory: plain functions. -/
import Derived.Test.YtmhkihfbcpmjlaaInstP
namespace Go.Proofs.Ytmhkihfbcpmjlaa
open Go Go.RowKit Pl
set_option linter.unusedVariables false

def updF (f : Int → Int) (d v : Int) : Int → Int := fun k => if k = d then v else f k
def valD (f : Int → Int) (x : Q5) : Int := if x.o = 42 then x.i % 4294967296 else if x.o = 19 then (f x.a + x.i) % 4294967296 else (f x.a + f x.b) % 4294967296
def stepD (f : Int → Int) (x : Q5) : Int → Int := updF (updF f x.d (valD f x)) 0 0
def doesD (f : Int → Int) (l : List Q5) : Int → Int := l.foldl stepD f
theorem doesD_nil (f : Int → Int) : doesD f [] = f := rfl
theorem doesD_cons (f : Int → Int) (x : Q5) (l : List Q5) : doesD f (x :: l) = doesD (stepD f x) l := rfl
theorem doesD_app (f : Int → Int) (l m : List Q5) : doesD f (l ++ m) = doesD (doesD f l) m := by simp [doesD]
theorem doesD_take (f : Int → Int) (l : List Q5) (k : Nat) (x : Q5) (h : l[k]? = some x) : doesD f (l.take (k + 1)) = stepD (doesD f (l.take k)) x := by
  rw [List.take_add_one, h, doesD_app]; rfl
theorem step_at {f : Int → Int} {x : Q5} (h0 : f 0 = 0) (hd : x.d ≠ 0) : stepD f x = updF f x.d (valD f x) := by
  funext k
  unfold stepD updF
  by_cases k0 : k = 0
  · subst k0; rw [if_pos rfl, if_neg (fun e => hd e.symm), h0]
  · rw [if_neg k0]
theorem upd_0 {f : Int → Int} {d v : Int} (h0 : f 0 = 0) (hd : d ≠ 0) : updF f d v 0 = 0 := by unfold updF; rw [if_neg (fun e => hd e.symm), h0]
/-- all registers are words -/
def Words (f : Int → Int) : Prop := ∀ k, 0 ≤ f k ∧ f k < 4294967296
theorem val_bd {f : Int → Int} (h : Words f) (x : Q5) : 0 ≤ valD f x ∧ valD f x < 4294967296 := by
  unfold valD; split
  · omega
  · split <;> omega
theorem upd_words {f : Int → Int} {d v : Int} (h : Words f) (hv : 0 ≤ v ∧ v < 4294967296) : Words (updF f d v) := by
  intro k; unfold updF; split
  · exact hv
  · exact h k
theorem step_words {f : Int → Int} (h : Words f) (x : Q5) : Words (stepD f x) := upd_words (upd_words h (val_bd h x)) (by omega)
theorem does_words {f : Int → Int} (h : Words f) : ∀ l : List Q5, Words (doesD f l)
  | [] => h
  | x :: l => does_words (step_words h x) l

theorem upd_get {f : Int → Int} {d v k : Int} : updF f d v k = if k = d then v else f k := rfl
/-- one instruction that sets -/
theorem does_one {f : Int → Int} (x : Q5) (h0 : f 0 = 0) (hd : x.d ≠ 0) (k : Int) : doesD f [x] k = if k = x.d then valD f x else f k := by
  rw [doesD_cons, doesD_nil, step_at h0 hd, upd_get]
/-- two that set one register, the second by help of the first -/
theorem does_two {f : Int → Int} (rd u low k : Int) (h0 : f 0 = 0) (hd : rd ≠ 0) :
    doesD f [⟨42, rd, 0, 0, u⟩, ⟨19, rd, rd, 0, low⟩] k = if k = rd then (u + low) % 4294967296 else f k := by
  have e1 := step_at (x := ⟨42, rd, 0, 0, u⟩) h0 hd
  have z := upd_0 (v := valD f ⟨42, rd, 0, 0, u⟩) h0 hd
  have e2 := step_at (f := updF f rd (valD f ⟨42, rd, 0, 0, u⟩)) (x := ⟨19, rd, rd, 0, low⟩) z hd
  rw [doesD_cons, doesD_cons, doesD_nil, e1]
  dsimp only
  rw [e2, upd_get]
  dsimp only
  by_cases hk : k = rd
  · rw [if_pos hk, if_pos hk]
    show (updF f rd (valD f ⟨42, rd, 0, 0, u⟩) rd + low) % 4294967296 = _
    rw [upd_get, if_pos rfl]
    show (u % 4294967296 + low) % 4294967296 = _
    omega
  · rw [if_neg hk, if_neg hk, upd_get, if_neg hk]
/-- a last one that adds two registers -/
theorem does_last {f g : Int → Int} (l : List Q5) (hg : doesD f l = g) (rd rs b k : Int) (h0 : g 0 = 0) (hd : rd ≠ 0) :
    doesD f (l ++ [⟨1, rd, rs, b, 0⟩]) k = if k = rd then (g rs + g b) % 4294967296 else g k := by
  rw [doesD_app, hg, does_one ⟨1, rd, rs, b, 0⟩ h0 hd]
  rfl
theorem can_addi {rd rs n : Int} (h : 0 ≤ rd ∧ rd < 32) (hs : 0 ≤ rs ∧ rs < 32) (hn : -2048 ≤ n ∧ n ≤ 2047) : canI ⟨19, rd, rs, 0, n⟩ = true := by
  have p : putOk 1 n = true := decide_eq_true ⟨by omega, by omega, (has_iff (by omega) (by omega) (by omega) (by omega)).2 hn⟩
  show (true && regOk rd true && regOk rs true && regOk 0 false && putOk 1 n) = true
  rw [p]
  simp [regOk, h, hs]
theorem can_lui {rd n : Int} (h : 0 ≤ rd ∧ rd < 32) (hn : n % 4096 = 0) (h0 : -2147483648 ≤ n) (h1 : n ≤ 2147483647) : canI ⟨42, rd, 0, 0, n⟩ = true := by
  have p : putOk 4 n = true := decide_eq_true ⟨by omega, by omega, (has_iff (by omega) (by omega) h0 h1).2 hn⟩
  show (true && regOk rd true && regOk 0 false && regOk 0 false && putOk 4 n) = true
  rw [p]
  simp [regOk, h]
theorem can_add {rd rs b : Int} (h : 0 ≤ rd ∧ rd < 32) (hs : 0 ≤ rs ∧ rs < 32) (hb : 0 ≤ b ∧ b < 32) : canI ⟨1, rd, rs, b, 0⟩ = true := by
  show (true && regOk rd true && regOk rs true && regOk b true && true) = true
  simp [regOk, h, hs, hb]
/-- such instructions as there are here: those that the machine of these knows -/
def Okd (x : Q5) : Prop := (x.o = 42 ∨ x.o = 19 ∨ x.o = 1) ∧ (0 ≤ x.d ∧ x.d < 32) ∧ (0 ≤ x.a ∧ x.a < 32) ∧ (0 ≤ x.b ∧ x.b < 32) ∧ -2147483648 ≤ x.i ∧ x.i ≤ 2147483647 ∧ canI x = true
end Go.Proofs.Ytmhkihfbcpmjlaa
