/- What instructions have: the document's table as functions, with no program in sight. -/
import Derived.Test.YtipecnofjdhobaaDoorFive
import Derived.Test.YtipecnofjdhobaaDoorPlainC
namespace Go.Proofs.YtipecnofjdhobaaDoor
open Go Go.RowKit Pl
set_option linter.unusedVariables false

def isOpI (o : Int) : Bool := decide (1 ≤ o ∧ o ≤ 48)
def rD (o : Int) : Bool := decide (1 ≤ o ∧ o ≤ 32 ∨ 42 ≤ o ∧ o ≤ 45)
def rA (o : Int) : Bool := decide (1 ≤ o ∧ o ≤ 41 ∨ o = 45)
def rB (o : Int) : Bool := decide (1 ≤ o ∧ o ≤ 18 ∨ 33 ≤ o ∧ o ≤ 41)
/-- the number's form; 0: none; 6: a shift's -/
def formI (o : Int) : Int := if o ≤ 18 then 0 else if o ≤ 24 then 1 else if o ≤ 27 then 6 else if o ≤ 32 then 1 else if o ≤ 35 then 2 else if o ≤ 41 then 3 else if o ≤ 43 then 4 else if o = 44 then 5 else if o ≤ 46 then 1 else 0
/-- the number's form as the layouts have it -/
def formL (o : Int) : Int := if formI o = 6 then 1 else formI o
def lowI (o : Int) : Int := if o ≤ 18 then 51 else if o ≤ 27 then 19 else if o ≤ 32 then 3 else if o ≤ 35 then 35 else if o ≤ 41 then 99 else if o = 42 then 55 else if o = 43 then 23 else if o = 44 then 111 else if o = 45 then 103 else if o = 46 then 15 else if o = 47 then 115 else 1048691
def threeL : List Int := [0, 0, 0, 1, 2, 3, 4, 5, 5, 6, 7, 0, 1, 2, 3, 4, 5, 6, 7, 0, 2, 3, 4, 6, 7, 1, 5, 5, 0, 1, 2, 4, 5, 0, 1, 2, 0, 1, 4, 5, 6, 7, 0, 0, 0, 0, 0, 0, 0]
def threeI (o : Int) : Int := threeL.getD o.toNat 0
def sevenI (o : Int) : Int := if o = 2 ∨ o = 8 ∨ o = 27 then 32 else if 11 ≤ o ∧ o ≤ 18 then 1 else 0
def regOk (n : Int) (has : Bool) : Bool := if has then decide (0 ≤ n ∧ n < 32) else decide (n = 0)
/-- whether a number has a word -/
def putOk (form n : Int) : Bool := decide (1 ≤ form ∧ form ≤ 5 ∧ getS form (putW form (n % 4294967296)) = n)
def putR (form n : Int) : Int := if putOk form n then putW form (n % 4294967296) else 0
def numOk (form n : Int) : Bool := if form = 0 then decide (n = 0) else if form = 6 then decide (0 ≤ n ∧ n < 32) else putOk form n
def numW (form n : Int) : Int := if form = 0 then 0 else if form = 6 then n * 1048576 else putW form (n % 4294967296)
def canI (x : Q5) : Bool := isOpI x.o && regOk x.d (rD x.o) && regOk x.a (rA x.o) && regOk x.b (rB x.o) && numOk (formI x.o) x.i
/-- the word, where there is one -/
def wordI (x : Q5) : Int := lowI x.o + threeI x.o * 4096 + sevenI x.o * 33554432 + x.d * 128 + x.a * 32768 + x.b * 1048576 + numW (formI x.o) x.i
def encI (x : Q5) : Int := if canI x then wordI x else 0
def readsI (x : Q5) : List Int := if canI x then (if rA x.o then [x.a] else []) ++ (if rB x.o then [x.b] else []) else []
def writesI (x : Q5) : Int := if canI x then x.d else 0

/-- the instruction that a word would be, were it of this operation -/
def recI (o w : Int) : Q5 := ⟨o, if rD o then w / 128 % 32 else 0, if rA o then w / 32768 % 32 else 0, if rB o then w / 1048576 % 32 else 0,
  if formI o = 0 then 0 else if formI o = 6 then w / 1048576 % 32 else getS (formI o) w⟩

/-- which operation's word it is; 0: none's -/
def findI (t : Int) (l : List Int) : Int := match l with
  | [] => 0
  | o :: l => if threeI o = t then o else findI t l
def opI (w : Int) : Int :=
  if w % 128 = 51 then (if w / 33554432 = 1 then 11 + w / 4096 % 8 else if w / 33554432 = 0 then findI (w / 4096 % 8) [1, 2, 3, 4, 5, 6, 7, 8, 9, 10] else if w / 33554432 = 32 ∧ w / 4096 % 8 = 0 then 2 else if w / 33554432 = 32 ∧ w / 4096 % 8 = 5 then 8 else 0)
  else if w % 128 = 19 then (if w / 4096 % 8 = 1 ∧ w / 33554432 = 0 then 25 else if w / 4096 % 8 = 5 ∧ w / 33554432 = 0 then 26 else if w / 4096 % 8 = 5 ∧ w / 33554432 = 32 then 27 else findI (w / 4096 % 8) [19, 20, 21, 22, 23, 24])
  else if w % 128 = 3 then findI (w / 4096 % 8) [28, 29, 30, 31, 32]
  else if w % 128 = 35 then findI (w / 4096 % 8) [33, 34, 35]
  else if w % 128 = 99 then findI (w / 4096 % 8) [36, 37, 38, 39, 40, 41]
  else if w % 128 = 55 then 42
  else if w % 128 = 23 then 43
  else if w % 128 = 111 then 44
  else if w % 128 = 103 then findI (w / 4096 % 8) [45]
  else if w % 128 = 15 then (if w % 1048576 = 15 then 46 else 0)
  else if w = 115 then 47
  else if w = 1048691 then 48
  else 0
theorem op48 {o : Int} (h : 1 ≤ o ∧ o ≤ 48) : o = 1 ∨ o = 2 ∨ o = 3 ∨ o = 4 ∨ o = 5 ∨ o = 6 ∨ o = 7 ∨ o = 8 ∨ o = 9 ∨ o = 10 ∨ o = 11 ∨ o = 12 ∨ o = 13 ∨ o = 14 ∨ o = 15 ∨ o = 16 ∨ o = 17 ∨ o = 18 ∨ o = 19 ∨ o = 20 ∨ o = 21 ∨ o = 22 ∨ o = 23 ∨ o = 24 ∨ o = 25 ∨ o = 26 ∨ o = 27 ∨ o = 28 ∨ o = 29 ∨ o = 30 ∨ o = 31 ∨ o = 32 ∨ o = 33 ∨ o = 34 ∨ o = 35 ∨ o = 36 ∨ o = 37 ∨ o = 38 ∨ o = 39 ∨ o = 40 ∨ o = 41 ∨ o = 42 ∨ o = 43 ∨ o = 44 ∨ o = 45 ∨ o = 46 ∨ o = 47 ∨ o = 48 := by omega
theorem findI_cases (t : Int) : ∀ l : List Int, findI t l = 0 ∨ findI t l ∈ l
  | [] => Or.inl rfl
  | o :: l => by
    unfold findI
    split
    · right; simp
    · rcases findI_cases t l with h | h
      · exact Or.inl h
      · right; simp [h]

/-- when the instruction that a word would be has just this word -/
def fitI (o w : Int) : Prop := canI (recI o w) = true ∧ wordI (recI o w) = w
def condI (o w : Int) : Prop := if o ≤ 18 then w % 128 = 51 ∧ w / 4096 % 8 = threeI o ∧ w / 33554432 = sevenI o
  else if o ≤ 24 then w % 128 = 19 ∧ w / 4096 % 8 = threeI o
  else if o ≤ 27 then w % 128 = 19 ∧ w / 4096 % 8 = threeI o ∧ w / 33554432 = sevenI o
  else if o ≤ 41 then w % 128 = lowI o ∧ w / 4096 % 8 = threeI o
  else if o ≤ 44 then w % 128 = lowI o
  else if o = 45 then w % 128 = 103 ∧ w / 4096 % 8 = 0
  else if o = 46 then w % 1048576 = 15
  else w = lowI o
theorem three_bd {o : Int} (h : 1 ≤ o ∧ o ≤ 48) : 0 ≤ threeI o ∧ threeI o < 8 := by
  rcases op48 h with h | h | h | h | h | h | h | h | h | h | h | h | h | h | h | h | h | h | h | h | h | h | h | h | h | h | h | h | h | h | h | h | h | h | h | h | h | h | h | h | h | h | h | h | h | h | h | h <;> subst h <;> decide
theorem reg_mod (x : Int) (b : Bool) : regOk (if b then x % 32 else 0) b = true := by
  cases b <;> simp [regOk]; omega
theorem put_get {form w : Int} (f0 : 1 ≤ form) (f1 : form ≤ 5) (h0 : 0 ≤ w) (h1 : w < 4294967296) : putOk form (getS form w) = true := by
  unfold putOk
  rw [back f0 f1 h0 h1, get_named f0 f1]
  simp [f0, f1]
theorem form_cases (o : Int) : formI o = 0 ∨ formI o = 6 ∨ (1 ≤ formI o ∧ formI o ≤ 5) := by
  unfold formI; (repeat' split) <;> simp
theorem can_rec {o w : Int} (h0 : 0 ≤ w) (h1 : w < 4294967296) (ho : 1 ≤ o ∧ o ≤ 48) : canI (recI o w) = true := by
  have e1 : isOpI o = true := by unfold isOpI; simp; omega
  have e2 : numOk (formI o) (if formI o = 0 then 0 else if formI o = 6 then w / 1048576 % 32 else getS (formI o) w) = true := by
    unfold numOk
    rcases form_cases o with h | h | h
    · rw [h]; simp
    · rw [h]; simp; omega
    · rw [if_neg (by omega), if_neg (by omega), if_neg (by omega), if_neg (by omega)]
      exact put_get h.1 h.2 h0 h1
  unfold canI recI
  simp only [e1, e2, reg_mod, Bool.and_self]
theorem dig_lin {w c A d B t C a D b s : Int} (e1 : c + 128 * A = w) (e2 : d + 32 * B = A) (e3 : t + 8 * C = B) (e4 : a + 32 * D = C) (e5 : b + 32 * s = D) :
    w = c + 128 * d + 4096 * t + 32768 * a + 1048576 * b + 33554432 * s ∧ D = b + 32 * s ∧ B = t + 8 * a + 256 * b + 8192 * s ∧ w - D * 1048576 = c + 128 * d + 4096 * t + 32768 * a := by
  subst e5 e4 e3 e2 e1; refine ⟨?_, rfl, ?_, ?_⟩ <;> omega
/-- a word's parts -/
structure Digs (w c d t a b s : Int) : Prop where
  hc : 0 ≤ c ∧ c < 128
  hd : 0 ≤ d ∧ d < 32
  ht : 0 ≤ t ∧ t < 8
  ha : 0 ≤ a ∧ a < 32
  hb : 0 ≤ b ∧ b < 32
  hs : 0 ≤ s ∧ s < 128
  e : w = c + 128 * d + 4096 * t + 32768 * a + 1048576 * b + 33554432 * s
  ec : w % 128 = c
  ed : w / 128 % 32 = d
  et : w / 4096 % 8 = t
  ea : w / 32768 % 32 = a
  eb : w / 1048576 % 32 = b
  es : w / 33554432 = s
  e20 : w / 1048576 = b + 32 * s
  e12 : w / 4096 = t + 8 * a + 256 * b + 8192 * s
  em : w % 1048576 = c + 128 * d + 4096 * t + 32768 * a
theorem digits {w : Int} (h0 : 0 ≤ w) (h1 : w < 4294967296) : ∃ c d t a b s : Int, Digs w c d t a b s := by
  have e1 := Int.emod_add_mul_ediv w 128
  have e2 := Int.emod_add_mul_ediv (w / 128) 32
  have e3 := Int.emod_add_mul_ediv (w / 4096) 8
  have e4 := Int.emod_add_mul_ediv (w / 32768) 32
  have e5 := Int.emod_add_mul_ediv (w / 1048576) 32
  have f2 : w / 128 / 32 = w / 4096 := by omega
  have f3 : w / 4096 / 8 = w / 32768 := by omega
  have f4 : w / 32768 / 32 = w / 1048576 := by omega
  have f5 : w / 1048576 / 32 = w / 33554432 := by omega
  rw [f2] at e2
  rw [f3] at e3
  rw [f4] at e4
  rw [f5] at e5
  obtain ⟨k1, k2, k3, k4⟩ := dig_lin e1 e2 e3 e4 e5
  have e6 : w % 1048576 = w - w / 1048576 * 1048576 := by omega
  exact ⟨_, _, _, _, _, _, by omega, by omega, by omega, by omega, by omega, by omega, k1, rfl, rfl, rfl, rfl, rfl, rfl, k2, k3, by rw [e6]; exact k4⟩

theorem fit_0 {o w c d t a b s : Int} (h0 : 0 ≤ w) (h1 : w < 4294967296) (hT : 0 ≤ threeI o ∧ threeI o < 8) (D : Digs w c d t a b s) (h : 1 ≤ o ∧ o ≤ 18) : wordI (recI o w) = w ↔ condI o w := by
  have r1 : rD o = true := by unfold rD; simp; omega
  have r2 : rA o = true := by unfold rA; simp; omega
  have r3 : rB o = true := by unfold rB; simp; omega
  have f : formI o = 0 := by unfold formI; rw [if_pos (by omega)]
  have l : lowI o = 51 := by unfold lowI; rw [if_pos (by omega)]
  have s0 : 0 ≤ sevenI o ∧ sevenI o < 128 := by unfold sevenI; (repeat' split) <;> omega
  have k : condI o w ↔ (w % 128 = 51 ∧ w / 4096 % 8 = threeI o ∧ w / 33554432 = sevenI o) := by unfold condI; rw [if_pos (by omega)]
  rw [k]
  unfold wordI recI numW
  simp only [r1, r2, r3, f, l, if_true, if_false, Int.reduceEq, D.ec, D.ed, D.ea, D.es, D.e20, D.e12]
  obtain ⟨q1, q2, q3, q4, q5, q6, e, _, _, _, _, _, _, _, _, _⟩ := D
  clear k r1 r2 r3 f l
  omega
theorem fit_1 {o w c d t a b s : Int} (h0 : 0 ≤ w) (h1 : w < 4294967296) (hT : 0 ≤ threeI o ∧ threeI o < 8) (D : Digs w c d t a b s) (h : 19 ≤ o ∧ o ≤ 24) : wordI (recI o w) = w ↔ condI o w := by
  have r1 : rD o = true := by unfold rD; simp; omega
  have r2 : rA o = true := by unfold rA; simp; omega
  have r3 : rB o = false := by unfold rB; simp; omega
  have f : formI o = 1 := by unfold formI; rw [if_neg (by omega), if_pos (by omega)]
  have l : lowI o = 19 := by unfold lowI; rw [if_neg (by omega), if_pos (by omega)]
  have s0 : sevenI o = 0 := by unfold sevenI; rw [if_neg (by omega), if_neg (by omega)]
  have k : condI o w ↔ (w % 128 = 19 ∧ w / 4096 % 8 = threeI o) := by unfold condI; rw [if_neg (by omega), if_pos (by omega)]
  rw [k]
  unfold wordI recI numW
  have BK := back1 h0 h1
  simp only [r1, r2, r3, f, l, s0, if_true, if_false, Bool.false_eq_true, Int.reduceEq, BK, D.ec, D.ed, D.ea, D.e20, D.e12]
  obtain ⟨q1, q2, q3, q4, q5, q6, e, _, _, _, _, _, _, _, _, _⟩ := D
  clear BK k r1 r2 r3 f l
  omega
theorem fit_2 {o w c d t a b s : Int} (h0 : 0 ≤ w) (h1 : w < 4294967296) (hT : 0 ≤ threeI o ∧ threeI o < 8) (D : Digs w c d t a b s) (h : 25 ≤ o ∧ o ≤ 27) : wordI (recI o w) = w ↔ condI o w := by
  have r1 : rD o = true := by unfold rD; simp; omega
  have r2 : rA o = true := by unfold rA; simp; omega
  have r3 : rB o = false := by unfold rB; simp; omega
  have f : formI o = 6 := by unfold formI; rw [if_neg (by omega), if_neg (by omega), if_pos (by omega)]
  have l : lowI o = 19 := by unfold lowI; rw [if_neg (by omega), if_pos (by omega)]
  have s0 : 0 ≤ sevenI o ∧ sevenI o < 128 := by unfold sevenI; (repeat' split) <;> omega
  have k : condI o w ↔ (w % 128 = 19 ∧ w / 4096 % 8 = threeI o ∧ w / 33554432 = sevenI o) := by unfold condI; rw [if_neg (by omega), if_neg (by omega), if_pos (by omega)]
  rw [k]
  unfold wordI recI numW
  simp only [r1, r2, r3, f, l, if_true, if_false, Bool.false_eq_true, Int.reduceEq, D.ec, D.ed, D.ea, D.es, D.e20, D.e12]
  obtain ⟨q1, q2, q3, q4, q5, q6, e, _, _, _, _, _, _, _, _, _⟩ := D
  clear k r1 r2 r3 f l
  omega
theorem fit_3 {o w c d t a b s : Int} (h0 : 0 ≤ w) (h1 : w < 4294967296) (hT : 0 ≤ threeI o ∧ threeI o < 8) (D : Digs w c d t a b s) (h : 28 ≤ o ∧ o ≤ 32) : wordI (recI o w) = w ↔ condI o w := by
  have r1 : rD o = true := by unfold rD; simp; omega
  have r2 : rA o = true := by unfold rA; simp; omega
  have r3 : rB o = false := by unfold rB; simp; omega
  have f : formI o = 1 := by unfold formI; rw [if_neg (by omega), if_neg (by omega), if_neg (by omega), if_pos (by omega)]
  have l : lowI o = 3 := by unfold lowI; rw [if_neg (by omega), if_neg (by omega), if_pos (by omega)]
  have s0 : sevenI o = 0 := by unfold sevenI; rw [if_neg (by omega), if_neg (by omega)]
  have k : condI o w ↔ (w % 128 = lowI o ∧ w / 4096 % 8 = threeI o) := by unfold condI; rw [if_neg (by omega), if_neg (by omega), if_neg (by omega), if_pos (by omega)]
  rw [k]
  unfold wordI recI numW
  have BK := back1 h0 h1
  simp only [r1, r2, r3, f, l, s0, if_true, if_false, Bool.false_eq_true, Int.reduceEq, BK, D.ec, D.ed, D.ea, D.e20, D.e12]
  obtain ⟨q1, q2, q3, q4, q5, q6, e, _, _, _, _, _, _, _, _, _⟩ := D
  clear BK k r1 r2 r3 f l
  omega
theorem fit_4 {o w c d t a b s : Int} (h0 : 0 ≤ w) (h1 : w < 4294967296) (hT : 0 ≤ threeI o ∧ threeI o < 8) (D : Digs w c d t a b s) (h : 33 ≤ o ∧ o ≤ 35) : wordI (recI o w) = w ↔ condI o w := by
  have r1 : rD o = false := by unfold rD; simp; omega
  have r2 : rA o = true := by unfold rA; simp; omega
  have r3 : rB o = true := by unfold rB; simp; omega
  have f : formI o = 2 := by unfold formI; rw [if_neg (by omega), if_neg (by omega), if_neg (by omega), if_neg (by omega), if_pos (by omega)]
  have l : lowI o = 35 := by unfold lowI; rw [if_neg (by omega), if_neg (by omega), if_neg (by omega), if_pos (by omega)]
  have s0 : sevenI o = 0 := by unfold sevenI; rw [if_neg (by omega), if_neg (by omega)]
  have k : condI o w ↔ (w % 128 = lowI o ∧ w / 4096 % 8 = threeI o) := by unfold condI; rw [if_neg (by omega), if_neg (by omega), if_neg (by omega), if_pos (by omega)]
  rw [k]
  unfold wordI recI numW
  have BK := back2 h0 h1
  simp only [r1, r2, r3, f, l, s0, if_true, if_false, Bool.false_eq_true, Int.reduceEq, BK, D.ec, D.ed, D.ea, D.es, D.e20, D.e12]
  obtain ⟨q1, q2, q3, q4, q5, q6, e, _, _, _, _, _, _, _, _, _⟩ := D
  clear BK k r1 r2 r3 f l
  omega
theorem fit_5 {o w c d t a b s : Int} (h0 : 0 ≤ w) (h1 : w < 4294967296) (hT : 0 ≤ threeI o ∧ threeI o < 8) (D : Digs w c d t a b s) (h : 36 ≤ o ∧ o ≤ 41) : wordI (recI o w) = w ↔ condI o w := by
  have r1 : rD o = false := by unfold rD; simp; omega
  have r2 : rA o = true := by unfold rA; simp; omega
  have r3 : rB o = true := by unfold rB; simp; omega
  have f : formI o = 3 := by unfold formI; rw [if_neg (by omega), if_neg (by omega), if_neg (by omega), if_neg (by omega), if_neg (by omega), if_pos (by omega)]
  have l : lowI o = 99 := by unfold lowI; rw [if_neg (by omega), if_neg (by omega), if_neg (by omega), if_neg (by omega), if_pos (by omega)]
  have s0 : sevenI o = 0 := by unfold sevenI; rw [if_neg (by omega), if_neg (by omega)]
  have k : condI o w ↔ (w % 128 = lowI o ∧ w / 4096 % 8 = threeI o) := by unfold condI; rw [if_neg (by omega), if_neg (by omega), if_neg (by omega), if_pos (by omega)]
  rw [k]
  unfold wordI recI numW
  have BK := back3 h0 h1
  simp only [r1, r2, r3, f, l, s0, if_true, if_false, Bool.false_eq_true, Int.reduceEq, BK, D.ec, D.ed, D.ea, D.es, D.e20, D.e12]
  obtain ⟨q1, q2, q3, q4, q5, q6, e, _, _, _, _, _, _, _, _, _⟩ := D
  clear BK k r1 r2 r3 f l
  omega
theorem fit_6 {o w c d t a b s : Int} (h0 : 0 ≤ w) (h1 : w < 4294967296) (hT : 0 ≤ threeI o ∧ threeI o < 8) (D : Digs w c d t a b s) (h : o = 42) : wordI (recI o w) = w ↔ condI o w := by
  have r1 : rD o = true := by unfold rD; simp; omega
  have r2 : rA o = false := by unfold rA; simp; omega
  have r3 : rB o = false := by unfold rB; simp; omega
  have f : formI o = 4 := by unfold formI; rw [if_neg (by omega), if_neg (by omega), if_neg (by omega), if_neg (by omega), if_neg (by omega), if_neg (by omega), if_pos (by omega)]
  have l : lowI o = 55 := by unfold lowI; rw [if_neg (by omega), if_neg (by omega), if_neg (by omega), if_neg (by omega), if_neg (by omega), if_pos (by omega)]
  have s0 : sevenI o = 0 := by unfold sevenI; rw [if_neg (by omega), if_neg (by omega)]
  have th : threeI o = 0 := by subst h; rfl
  have k : condI o w ↔ (w % 128 = lowI o) := by unfold condI; rw [if_neg (by omega), if_neg (by omega), if_neg (by omega), if_neg (by omega), if_pos (by omega)]
  rw [k]
  unfold wordI recI numW
  have BK := back4 h0 h1
  simp only [r1, r2, r3, f, l, s0, th, if_true, if_false, Bool.false_eq_true, Int.reduceEq, BK, D.ec, D.ed, D.ea, D.e20, D.e12]
  obtain ⟨q1, q2, q3, q4, q5, q6, e, _, _, _, _, _, _, _, _, _⟩ := D
  clear BK k r1 r2 r3 f l
  omega
theorem fit_7 {o w c d t a b s : Int} (h0 : 0 ≤ w) (h1 : w < 4294967296) (hT : 0 ≤ threeI o ∧ threeI o < 8) (D : Digs w c d t a b s) (h : o = 43) : wordI (recI o w) = w ↔ condI o w := by
  have r1 : rD o = true := by unfold rD; simp; omega
  have r2 : rA o = false := by unfold rA; simp; omega
  have r3 : rB o = false := by unfold rB; simp; omega
  have f : formI o = 4 := by unfold formI; rw [if_neg (by omega), if_neg (by omega), if_neg (by omega), if_neg (by omega), if_neg (by omega), if_neg (by omega), if_pos (by omega)]
  have l : lowI o = 23 := by unfold lowI; rw [if_neg (by omega), if_neg (by omega), if_neg (by omega), if_neg (by omega), if_neg (by omega), if_neg (by omega), if_pos (by omega)]
  have s0 : sevenI o = 0 := by unfold sevenI; rw [if_neg (by omega), if_neg (by omega)]
  have th : threeI o = 0 := by subst h; rfl
  have k : condI o w ↔ (w % 128 = lowI o) := by unfold condI; rw [if_neg (by omega), if_neg (by omega), if_neg (by omega), if_neg (by omega), if_pos (by omega)]
  rw [k]
  unfold wordI recI numW
  have BK := back4 h0 h1
  simp only [r1, r2, r3, f, l, s0, th, if_true, if_false, Bool.false_eq_true, Int.reduceEq, BK, D.ec, D.ed, D.ea, D.e20, D.e12]
  obtain ⟨q1, q2, q3, q4, q5, q6, e, _, _, _, _, _, _, _, _, _⟩ := D
  clear BK k r1 r2 r3 f l
  omega
theorem fit_8 {o w c d t a b s : Int} (h0 : 0 ≤ w) (h1 : w < 4294967296) (hT : 0 ≤ threeI o ∧ threeI o < 8) (D : Digs w c d t a b s) (h : o = 44) : wordI (recI o w) = w ↔ condI o w := by
  have r1 : rD o = true := by unfold rD; simp; omega
  have r2 : rA o = false := by unfold rA; simp; omega
  have r3 : rB o = false := by unfold rB; simp; omega
  have f : formI o = 5 := by unfold formI; rw [if_neg (by omega), if_neg (by omega), if_neg (by omega), if_neg (by omega), if_neg (by omega), if_neg (by omega), if_neg (by omega), if_pos (by omega)]
  have l : lowI o = 111 := by unfold lowI; rw [if_neg (by omega), if_neg (by omega), if_neg (by omega), if_neg (by omega), if_neg (by omega), if_neg (by omega), if_neg (by omega), if_pos (by omega)]
  have s0 : sevenI o = 0 := by unfold sevenI; rw [if_neg (by omega), if_neg (by omega)]
  have th : threeI o = 0 := by subst h; rfl
  have k : condI o w ↔ (w % 128 = lowI o) := by unfold condI; rw [if_neg (by omega), if_neg (by omega), if_neg (by omega), if_neg (by omega), if_pos (by omega)]
  rw [k]
  unfold wordI recI numW
  have BK := back5 h0 h1
  simp only [r1, r2, r3, f, l, s0, th, if_true, if_false, Bool.false_eq_true, Int.reduceEq, BK, D.ec, D.ed, D.ea, D.e20, D.e12]
  obtain ⟨q1, q2, q3, q4, q5, q6, e, _, _, _, _, _, _, _, _, _⟩ := D
  clear BK k r1 r2 r3 f l
  omega
theorem fit_9 {o w c d t a b s : Int} (h0 : 0 ≤ w) (h1 : w < 4294967296) (hT : 0 ≤ threeI o ∧ threeI o < 8) (D : Digs w c d t a b s) (h : o = 45) : wordI (recI o w) = w ↔ condI o w := by
  have r1 : rD o = true := by unfold rD; simp; omega
  have r2 : rA o = true := by unfold rA; simp; omega
  have r3 : rB o = false := by unfold rB; simp; omega
  have f : formI o = 1 := by unfold formI; rw [if_neg (by omega), if_neg (by omega), if_neg (by omega), if_neg (by omega), if_neg (by omega), if_neg (by omega), if_neg (by omega), if_neg (by omega), if_pos (by omega)]
  have l : lowI o = 103 := by unfold lowI; rw [if_neg (by omega), if_neg (by omega), if_neg (by omega), if_neg (by omega), if_neg (by omega), if_neg (by omega), if_neg (by omega), if_neg (by omega), if_pos (by omega)]
  have s0 : sevenI o = 0 := by unfold sevenI; rw [if_neg (by omega), if_neg (by omega)]
  have th : threeI o = 0 := by subst h; rfl
  have k : condI o w ↔ (w % 128 = 103 ∧ w / 4096 % 8 = 0) := by unfold condI; rw [if_neg (by omega), if_neg (by omega), if_neg (by omega), if_neg (by omega), if_neg (by omega), if_pos (by omega)]
  rw [k]
  unfold wordI recI numW
  have BK := back1 h0 h1
  simp only [r1, r2, r3, f, l, s0, th, if_true, if_false, Bool.false_eq_true, Int.reduceEq, BK, D.ec, D.ed, D.ea, D.e20, D.e12]
  obtain ⟨q1, q2, q3, q4, q5, q6, e, _, _, _, _, _, _, _, _, _⟩ := D
  clear BK k r1 r2 r3 f l
  omega
theorem fit_10 {o w c d t a b s : Int} (h0 : 0 ≤ w) (h1 : w < 4294967296) (hT : 0 ≤ threeI o ∧ threeI o < 8) (D : Digs w c d t a b s) (h : o = 46) : wordI (recI o w) = w ↔ condI o w := by
  have r1 : rD o = false := by unfold rD; simp; omega
  have r2 : rA o = false := by unfold rA; simp; omega
  have r3 : rB o = false := by unfold rB; simp; omega
  have f : formI o = 1 := by unfold formI; rw [if_neg (by omega), if_neg (by omega), if_neg (by omega), if_neg (by omega), if_neg (by omega), if_neg (by omega), if_neg (by omega), if_neg (by omega), if_pos (by omega)]
  have l : lowI o = 15 := by unfold lowI; rw [if_neg (by omega), if_neg (by omega), if_neg (by omega), if_neg (by omega), if_neg (by omega), if_neg (by omega), if_neg (by omega), if_neg (by omega), if_neg (by omega), if_pos (by omega)]
  have s0 : sevenI o = 0 := by unfold sevenI; rw [if_neg (by omega), if_neg (by omega)]
  have th : threeI o = 0 := by subst h; rfl
  have k : condI o w ↔ (w % 1048576 = 15) := by unfold condI; rw [if_neg (by omega), if_neg (by omega), if_neg (by omega), if_neg (by omega), if_neg (by omega), if_neg (by omega), if_pos (by omega)]
  rw [k]
  unfold wordI recI numW
  have BK := back1 h0 h1
  simp only [r1, r2, r3, f, l, s0, th, if_false, Bool.false_eq_true, Int.reduceEq, BK, D.ed, D.ea, D.e20, D.em]
  obtain ⟨q1, q2, q3, q4, q5, q6, e, _, _, _, _, _, _, _, _, _⟩ := D
  clear BK k r1 r2 r3 f l
  omega
theorem fit_11 {o w c d t a b s : Int} (h0 : 0 ≤ w) (h1 : w < 4294967296) (hT : 0 ≤ threeI o ∧ threeI o < 8) (D : Digs w c d t a b s) (h : o = 47) : wordI (recI o w) = w ↔ condI o w := by
  have r1 : rD o = false := by unfold rD; simp; omega
  have r2 : rA o = false := by unfold rA; simp; omega
  have r3 : rB o = false := by unfold rB; simp; omega
  have f : formI o = 0 := by unfold formI; rw [if_neg (by omega), if_neg (by omega), if_neg (by omega), if_neg (by omega), if_neg (by omega), if_neg (by omega), if_neg (by omega), if_neg (by omega), if_neg (by omega)]
  have l : lowI o = 115 := by unfold lowI; rw [if_neg (by omega), if_neg (by omega), if_neg (by omega), if_neg (by omega), if_neg (by omega), if_neg (by omega), if_neg (by omega), if_neg (by omega), if_neg (by omega), if_neg (by omega), if_pos (by omega)]
  have s0 : sevenI o = 0 := by unfold sevenI; rw [if_neg (by omega), if_neg (by omega)]
  have th : threeI o = 0 := by subst h; rfl
  have k : condI o w ↔ (w = lowI o) := by unfold condI; rw [if_neg (by omega), if_neg (by omega), if_neg (by omega), if_neg (by omega), if_neg (by omega), if_neg (by omega), if_neg (by omega)]
  rw [k]
  unfold wordI recI numW
  simp only [r1, r2, r3, f, l, s0, th, if_true, if_false, Bool.false_eq_true, Int.reduceEq, D.ed, D.ea, D.e20]
  obtain ⟨q1, q2, q3, q4, q5, q6, e, _, _, _, _, _, _, _, _, _⟩ := D
  clear k r1 r2 r3 f l
  omega
theorem fit_12 {o w c d t a b s : Int} (h0 : 0 ≤ w) (h1 : w < 4294967296) (hT : 0 ≤ threeI o ∧ threeI o < 8) (D : Digs w c d t a b s) (h : o = 48) : wordI (recI o w) = w ↔ condI o w := by
  have r1 : rD o = false := by unfold rD; simp; omega
  have r2 : rA o = false := by unfold rA; simp; omega
  have r3 : rB o = false := by unfold rB; simp; omega
  have f : formI o = 0 := by unfold formI; rw [if_neg (by omega), if_neg (by omega), if_neg (by omega), if_neg (by omega), if_neg (by omega), if_neg (by omega), if_neg (by omega), if_neg (by omega), if_neg (by omega)]
  have l : lowI o = 1048691 := by unfold lowI; rw [if_neg (by omega), if_neg (by omega), if_neg (by omega), if_neg (by omega), if_neg (by omega), if_neg (by omega), if_neg (by omega), if_neg (by omega), if_neg (by omega), if_neg (by omega), if_neg (by omega)]
  have s0 : sevenI o = 0 := by unfold sevenI; rw [if_neg (by omega), if_neg (by omega)]
  have th : threeI o = 0 := by subst h; rfl
  have k : condI o w ↔ (w = lowI o) := by unfold condI; rw [if_neg (by omega), if_neg (by omega), if_neg (by omega), if_neg (by omega), if_neg (by omega), if_neg (by omega), if_neg (by omega)]
  rw [k]
  unfold wordI recI numW
  simp only [r1, r2, r3, f, l, s0, th, if_true, if_false, Bool.false_eq_true, Int.reduceEq, D.ed, D.ea, D.e20]
  obtain ⟨q1, q2, q3, q4, q5, q6, e, _, _, _, _, _, _, _, _, _⟩ := D
  clear k r1 r2 r3 f l
  omega
theorem fit_cond {o w : Int} (h0 : 0 ≤ w) (h1 : w < 4294967296) (ho : 1 ≤ o ∧ o ≤ 48) : wordI (recI o w) = w ↔ condI o w := by
  have hT := three_bd ho
  obtain ⟨c, d, t, a, b, s, D⟩ := digits h0 h1
  have cs : (1 ≤ o ∧ o ≤ 18) ∨ (19 ≤ o ∧ o ≤ 24) ∨ (25 ≤ o ∧ o ≤ 27) ∨ (28 ≤ o ∧ o ≤ 32) ∨ (33 ≤ o ∧ o ≤ 35) ∨ (36 ≤ o ∧ o ≤ 41) ∨ (o = 42) ∨ (o = 43) ∨ (o = 44) ∨ (o = 45) ∨ (o = 46) ∨ (o = 47) ∨ (o = 48) := by omega
  rcases cs with cc | cc | cc | cc | cc | cc | cc | cc | cc | cc | cc | cc | cc
  · exact fit_0 h0 h1 hT D cc
  · exact fit_1 h0 h1 hT D cc
  · exact fit_2 h0 h1 hT D cc
  · exact fit_3 h0 h1 hT D cc
  · exact fit_4 h0 h1 hT D cc
  · exact fit_5 h0 h1 hT D cc
  · exact fit_6 h0 h1 hT D cc
  · exact fit_7 h0 h1 hT D cc
  · exact fit_8 h0 h1 hT D cc
  · exact fit_9 h0 h1 hT D cc
  · exact fit_10 h0 h1 hT D cc
  · exact fit_11 h0 h1 hT D cc
  · exact fit_12 h0 h1 hT D cc
theorem findI_spec {t o : Int} (ho : o ≠ 0) : ∀ {l : List Int}, findI t l = o → threeI o = t ∧ o ∈ l
  | [], h => absurd h.symm ho
  | p :: l, h => by
    unfold findI at h
    split at h
    · subst h; rename_i g; exact ⟨g, by simp⟩
    · obtain ⟨a, b⟩ := findI_spec ho h; exact ⟨a, by simp [b]⟩
theorem cond_is1 {w : Int} : condI 1 w ↔ (w % 128 = 51 ∧ w / 4096 % 8 = 0 ∧ w / 33554432 = 0) := Iff.rfl
theorem cond_is2 {w : Int} : condI 2 w ↔ (w % 128 = 51 ∧ w / 4096 % 8 = 0 ∧ w / 33554432 = 32) := Iff.rfl
theorem cond_is3 {w : Int} : condI 3 w ↔ (w % 128 = 51 ∧ w / 4096 % 8 = 1 ∧ w / 33554432 = 0) := Iff.rfl
theorem cond_is4 {w : Int} : condI 4 w ↔ (w % 128 = 51 ∧ w / 4096 % 8 = 2 ∧ w / 33554432 = 0) := Iff.rfl
theorem cond_is5 {w : Int} : condI 5 w ↔ (w % 128 = 51 ∧ w / 4096 % 8 = 3 ∧ w / 33554432 = 0) := Iff.rfl
theorem cond_is6 {w : Int} : condI 6 w ↔ (w % 128 = 51 ∧ w / 4096 % 8 = 4 ∧ w / 33554432 = 0) := Iff.rfl
theorem cond_is7 {w : Int} : condI 7 w ↔ (w % 128 = 51 ∧ w / 4096 % 8 = 5 ∧ w / 33554432 = 0) := Iff.rfl
theorem cond_is8 {w : Int} : condI 8 w ↔ (w % 128 = 51 ∧ w / 4096 % 8 = 5 ∧ w / 33554432 = 32) := Iff.rfl
theorem cond_is9 {w : Int} : condI 9 w ↔ (w % 128 = 51 ∧ w / 4096 % 8 = 6 ∧ w / 33554432 = 0) := Iff.rfl
theorem cond_is10 {w : Int} : condI 10 w ↔ (w % 128 = 51 ∧ w / 4096 % 8 = 7 ∧ w / 33554432 = 0) := Iff.rfl
theorem cond_is11 {w : Int} : condI 11 w ↔ (w % 128 = 51 ∧ w / 4096 % 8 = 0 ∧ w / 33554432 = 1) := Iff.rfl
theorem cond_is12 {w : Int} : condI 12 w ↔ (w % 128 = 51 ∧ w / 4096 % 8 = 1 ∧ w / 33554432 = 1) := Iff.rfl
theorem cond_is13 {w : Int} : condI 13 w ↔ (w % 128 = 51 ∧ w / 4096 % 8 = 2 ∧ w / 33554432 = 1) := Iff.rfl
theorem cond_is14 {w : Int} : condI 14 w ↔ (w % 128 = 51 ∧ w / 4096 % 8 = 3 ∧ w / 33554432 = 1) := Iff.rfl
theorem cond_is15 {w : Int} : condI 15 w ↔ (w % 128 = 51 ∧ w / 4096 % 8 = 4 ∧ w / 33554432 = 1) := Iff.rfl
theorem cond_is16 {w : Int} : condI 16 w ↔ (w % 128 = 51 ∧ w / 4096 % 8 = 5 ∧ w / 33554432 = 1) := Iff.rfl
theorem cond_is17 {w : Int} : condI 17 w ↔ (w % 128 = 51 ∧ w / 4096 % 8 = 6 ∧ w / 33554432 = 1) := Iff.rfl
theorem cond_is18 {w : Int} : condI 18 w ↔ (w % 128 = 51 ∧ w / 4096 % 8 = 7 ∧ w / 33554432 = 1) := Iff.rfl
theorem cond_is19 {w : Int} : condI 19 w ↔ (w % 128 = 19 ∧ w / 4096 % 8 = 0) := Iff.rfl
theorem cond_is20 {w : Int} : condI 20 w ↔ (w % 128 = 19 ∧ w / 4096 % 8 = 2) := Iff.rfl
theorem cond_is21 {w : Int} : condI 21 w ↔ (w % 128 = 19 ∧ w / 4096 % 8 = 3) := Iff.rfl
theorem cond_is22 {w : Int} : condI 22 w ↔ (w % 128 = 19 ∧ w / 4096 % 8 = 4) := Iff.rfl
theorem cond_is23 {w : Int} : condI 23 w ↔ (w % 128 = 19 ∧ w / 4096 % 8 = 6) := Iff.rfl
theorem cond_is24 {w : Int} : condI 24 w ↔ (w % 128 = 19 ∧ w / 4096 % 8 = 7) := Iff.rfl
theorem cond_is25 {w : Int} : condI 25 w ↔ (w % 128 = 19 ∧ w / 4096 % 8 = 1 ∧ w / 33554432 = 0) := Iff.rfl
theorem cond_is26 {w : Int} : condI 26 w ↔ (w % 128 = 19 ∧ w / 4096 % 8 = 5 ∧ w / 33554432 = 0) := Iff.rfl
theorem cond_is27 {w : Int} : condI 27 w ↔ (w % 128 = 19 ∧ w / 4096 % 8 = 5 ∧ w / 33554432 = 32) := Iff.rfl
theorem cond_is28 {w : Int} : condI 28 w ↔ (w % 128 = 3 ∧ w / 4096 % 8 = 0) := Iff.rfl
theorem cond_is29 {w : Int} : condI 29 w ↔ (w % 128 = 3 ∧ w / 4096 % 8 = 1) := Iff.rfl
theorem cond_is30 {w : Int} : condI 30 w ↔ (w % 128 = 3 ∧ w / 4096 % 8 = 2) := Iff.rfl
theorem cond_is31 {w : Int} : condI 31 w ↔ (w % 128 = 3 ∧ w / 4096 % 8 = 4) := Iff.rfl
theorem cond_is32 {w : Int} : condI 32 w ↔ (w % 128 = 3 ∧ w / 4096 % 8 = 5) := Iff.rfl
theorem cond_is33 {w : Int} : condI 33 w ↔ (w % 128 = 35 ∧ w / 4096 % 8 = 0) := Iff.rfl
theorem cond_is34 {w : Int} : condI 34 w ↔ (w % 128 = 35 ∧ w / 4096 % 8 = 1) := Iff.rfl
theorem cond_is35 {w : Int} : condI 35 w ↔ (w % 128 = 35 ∧ w / 4096 % 8 = 2) := Iff.rfl
theorem cond_is36 {w : Int} : condI 36 w ↔ (w % 128 = 99 ∧ w / 4096 % 8 = 0) := Iff.rfl
theorem cond_is37 {w : Int} : condI 37 w ↔ (w % 128 = 99 ∧ w / 4096 % 8 = 1) := Iff.rfl
theorem cond_is38 {w : Int} : condI 38 w ↔ (w % 128 = 99 ∧ w / 4096 % 8 = 4) := Iff.rfl
theorem cond_is39 {w : Int} : condI 39 w ↔ (w % 128 = 99 ∧ w / 4096 % 8 = 5) := Iff.rfl
theorem cond_is40 {w : Int} : condI 40 w ↔ (w % 128 = 99 ∧ w / 4096 % 8 = 6) := Iff.rfl
theorem cond_is41 {w : Int} : condI 41 w ↔ (w % 128 = 99 ∧ w / 4096 % 8 = 7) := Iff.rfl
theorem cond_is42 {w : Int} : condI 42 w ↔ (w % 128 = 55) := Iff.rfl
theorem cond_is43 {w : Int} : condI 43 w ↔ (w % 128 = 23) := Iff.rfl
theorem cond_is44 {w : Int} : condI 44 w ↔ (w % 128 = 111) := Iff.rfl
theorem cond_is45 {w : Int} : condI 45 w ↔ (w % 128 = 103 ∧ w / 4096 % 8 = 0) := Iff.rfl
theorem cond_is46 {w : Int} : condI 46 w ↔ (w % 1048576 = 15) := Iff.rfl
theorem cond_is47 {w : Int} : condI 47 w ↔ (w = 115) := Iff.rfl
theorem cond_is48 {w : Int} : condI 48 w ↔ (w = 1048691) := Iff.rfl
theorem cond_op {o w : Int} (h0 : 0 ≤ w) (h1 : w < 4294967296) (ho : 1 ≤ o ∧ o ≤ 48) (h : condI o w) : opI w = o := by
  rcases op48 ho with rfl | rfl | rfl | rfl | rfl | rfl | rfl | rfl | rfl | rfl | rfl | rfl | rfl | rfl | rfl | rfl | rfl | rfl | rfl | rfl | rfl | rfl | rfl | rfl | rfl | rfl | rfl | rfl | rfl | rfl | rfl | rfl | rfl | rfl | rfl | rfl | rfl | rfl | rfl | rfl | rfl | rfl | rfl | rfl | rfl | rfl | rfl | rfl
  · obtain ⟨a, b, c⟩ := cond_is1.1 h; unfold opI; simp only [a, b, c, Int.reduceEq, reduceIte, and_true, and_false]; try rfl
  · obtain ⟨a, b, c⟩ := cond_is2.1 h; unfold opI; simp only [a, b, c, Int.reduceEq, reduceIte, and_true, and_false]; try rfl
  · obtain ⟨a, b, c⟩ := cond_is3.1 h; unfold opI; simp only [a, b, c, Int.reduceEq, reduceIte, and_true, and_false]; try rfl
  · obtain ⟨a, b, c⟩ := cond_is4.1 h; unfold opI; simp only [a, b, c, Int.reduceEq, reduceIte, and_true, and_false]; try rfl
  · obtain ⟨a, b, c⟩ := cond_is5.1 h; unfold opI; simp only [a, b, c, Int.reduceEq, reduceIte, and_true, and_false]; try rfl
  · obtain ⟨a, b, c⟩ := cond_is6.1 h; unfold opI; simp only [a, b, c, Int.reduceEq, reduceIte, and_true, and_false]; try rfl
  · obtain ⟨a, b, c⟩ := cond_is7.1 h; unfold opI; simp only [a, b, c, Int.reduceEq, reduceIte, and_true, and_false]; try rfl
  · obtain ⟨a, b, c⟩ := cond_is8.1 h; unfold opI; simp only [a, b, c, Int.reduceEq, reduceIte, and_true, and_false]; try rfl
  · obtain ⟨a, b, c⟩ := cond_is9.1 h; unfold opI; simp only [a, b, c, Int.reduceEq, reduceIte, and_true, and_false]; try rfl
  · obtain ⟨a, b, c⟩ := cond_is10.1 h; unfold opI; simp only [a, b, c, Int.reduceEq, reduceIte, and_true, and_false]; try rfl
  · obtain ⟨a, b, c⟩ := cond_is11.1 h; unfold opI; simp only [a, b, c, Int.reduceEq, reduceIte, and_true, and_false]; try rfl
  · obtain ⟨a, b, c⟩ := cond_is12.1 h; unfold opI; simp only [a, b, c, Int.reduceEq, reduceIte, and_false]; try rfl
  · obtain ⟨a, b, c⟩ := cond_is13.1 h; unfold opI; simp only [a, b, c, Int.reduceEq, reduceIte, and_false]; try rfl
  · obtain ⟨a, b, c⟩ := cond_is14.1 h; unfold opI; simp only [a, b, c, Int.reduceEq, reduceIte, and_false]; try rfl
  · obtain ⟨a, b, c⟩ := cond_is15.1 h; unfold opI; simp only [a, b, c, Int.reduceEq, reduceIte, and_false]; try rfl
  · obtain ⟨a, b, c⟩ := cond_is16.1 h; unfold opI; simp only [a, b, c, Int.reduceEq, reduceIte, and_true, and_false]; try rfl
  · obtain ⟨a, b, c⟩ := cond_is17.1 h; unfold opI; simp only [a, b, c, Int.reduceEq, reduceIte, and_false]; try rfl
  · obtain ⟨a, b, c⟩ := cond_is18.1 h; unfold opI; simp only [a, b, c, Int.reduceEq, reduceIte, and_false]; try rfl
  · obtain ⟨a, b⟩ := cond_is19.1 h; unfold opI; simp only [a, b, Int.reduceEq, reduceIte, and_true, and_false, false_and]; try rfl
  · obtain ⟨a, b⟩ := cond_is20.1 h; unfold opI; simp only [a, b, Int.reduceEq, reduceIte, and_false, false_and]; try rfl
  · obtain ⟨a, b⟩ := cond_is21.1 h; unfold opI; simp only [a, b, Int.reduceEq, reduceIte, and_false, false_and]; try rfl
  · obtain ⟨a, b⟩ := cond_is22.1 h; unfold opI; simp only [a, b, Int.reduceEq, reduceIte, and_false, false_and]; try rfl
  · obtain ⟨a, b⟩ := cond_is23.1 h; unfold opI; simp only [a, b, Int.reduceEq, reduceIte, and_false, false_and]; try rfl
  · obtain ⟨a, b⟩ := cond_is24.1 h; unfold opI; simp only [a, b, Int.reduceEq, reduceIte, and_false, false_and]; try rfl
  · obtain ⟨a, b, c⟩ := cond_is25.1 h; unfold opI; simp only [a, b, c, Int.reduceEq, reduceIte, and_true, and_false]; try rfl
  · obtain ⟨a, b, c⟩ := cond_is26.1 h; unfold opI; simp only [a, b, c, Int.reduceEq, reduceIte, and_true, and_false]; try rfl
  · obtain ⟨a, b, c⟩ := cond_is27.1 h; unfold opI; simp only [a, b, c, Int.reduceEq, reduceIte, and_true, and_false]; try rfl
  · obtain ⟨a, b⟩ := cond_is28.1 h; unfold opI; simp only [a, b, Int.reduceEq, reduceIte, and_true, and_false, false_and]; try rfl
  · obtain ⟨a, b⟩ := cond_is29.1 h; unfold opI; simp only [a, b, Int.reduceEq, reduceIte, and_false, true_and, false_and]; try rfl
  · obtain ⟨a, b⟩ := cond_is30.1 h; unfold opI; simp only [a, b, Int.reduceEq, reduceIte, and_false, false_and]; try rfl
  · obtain ⟨a, b⟩ := cond_is31.1 h; unfold opI; simp only [a, b, Int.reduceEq, reduceIte, and_false, false_and]; try rfl
  · obtain ⟨a, b⟩ := cond_is32.1 h; unfold opI; simp only [a, b, Int.reduceEq, reduceIte, and_true, and_false, true_and, false_and]; try rfl
  · obtain ⟨a, b⟩ := cond_is33.1 h; unfold opI; simp only [a, b, Int.reduceEq, reduceIte, and_true, and_false, false_and]; try rfl
  · obtain ⟨a, b⟩ := cond_is34.1 h; unfold opI; simp only [a, b, Int.reduceEq, reduceIte, and_false, true_and, false_and]; try rfl
  · obtain ⟨a, b⟩ := cond_is35.1 h; unfold opI; simp only [a, b, Int.reduceEq, reduceIte, and_false, false_and]; try rfl
  · obtain ⟨a, b⟩ := cond_is36.1 h; unfold opI; simp only [a, b, Int.reduceEq, reduceIte, and_true, and_false, false_and]; try rfl
  · obtain ⟨a, b⟩ := cond_is37.1 h; unfold opI; simp only [a, b, Int.reduceEq, reduceIte, and_false, true_and, false_and]; try rfl
  · obtain ⟨a, b⟩ := cond_is38.1 h; unfold opI; simp only [a, b, Int.reduceEq, reduceIte, and_false, false_and]; try rfl
  · obtain ⟨a, b⟩ := cond_is39.1 h; unfold opI; simp only [a, b, Int.reduceEq, reduceIte, and_true, and_false, true_and, false_and]; try rfl
  · obtain ⟨a, b⟩ := cond_is40.1 h; unfold opI; simp only [a, b, Int.reduceEq, reduceIte, and_false, false_and]; try rfl
  · obtain ⟨a, b⟩ := cond_is41.1 h; unfold opI; simp only [a, b, Int.reduceEq, reduceIte, and_false, false_and]; try rfl
  · have a := cond_is42.1 h; unfold opI; simp only [a, Int.reduceEq, reduceIte]
  · have a := cond_is43.1 h; unfold opI; simp only [a, Int.reduceEq, reduceIte]
  · have a := cond_is44.1 h; unfold opI; simp only [a, Int.reduceEq, reduceIte]
  · obtain ⟨a, b⟩ := cond_is45.1 h; unfold opI; simp only [a, b, Int.reduceEq, reduceIte, and_true, and_false, false_and]; try rfl
  · have a := cond_is46.1 h; have b : w % 128 = 15 := by omega
    unfold opI; simp only [a, b, Int.reduceEq, reduceIte]
  · have a := cond_is47.1 h; subst a; decide
  · have a := cond_is48.1 h; subst a; decide
theorem op_cond {o w : Int} (h0 : 0 ≤ w) (h1 : w < 4294967296) (ho : 1 ≤ o ∧ o ≤ 48) (h : opI w = o) : condI o w := by
  have hn : o ≠ 0 := by omega
  unfold opI at h
  by_cases c : w % 128 = 51
  · rw [if_pos c] at h
    by_cases s : w / 33554432 = 1
    · rw [if_pos s] at h
      have e : w / 4096 % 8 = o - 11 := by omega
      have b : 11 ≤ o ∧ o ≤ 18 := by omega
      clear h
      obtain rfl | rfl | rfl | rfl | rfl | rfl | rfl | rfl : o = 11 ∨ o = 12 ∨ o = 13 ∨ o = 14 ∨ o = 15 ∨ o = 16 ∨ o = 17 ∨ o = 18 := by omega
      all_goals exact ⟨c, e, s⟩
    rw [if_neg s] at h
    by_cases s : w / 33554432 = 0
    · rw [if_pos s] at h
      obtain ⟨a, b⟩ := findI_spec hn h
      simp at b
      rcases b with b | b | b | b | b | b | b | b | b | b <;> subst b
      case inr.inl => rw [← a] at h; exact absurd h (by decide)
      case inr.inr.inr.inr.inr.inr.inr.inl => rw [← a] at h; exact absurd h (by decide)
      all_goals exact ⟨c, a.symm, s⟩
    rw [if_neg s] at h
    by_cases s2 : w / 33554432 = 32 ∧ w / 4096 % 8 = 0
    · rw [if_pos s2] at h; subst h; exact ⟨c, s2.2, s2.1⟩
    rw [if_neg s2] at h
    by_cases s3 : w / 33554432 = 32 ∧ w / 4096 % 8 = 5
    · rw [if_pos s3] at h; subst h; exact ⟨c, s3.2, s3.1⟩
    rw [if_neg s3] at h
    exact absurd h.symm hn
  rw [if_neg c] at h
  by_cases c : w % 128 = 19
  · rw [if_pos c] at h
    by_cases s : w / 4096 % 8 = 1 ∧ w / 33554432 = 0
    · rw [if_pos s] at h; subst h; exact ⟨c, s.1, s.2⟩
    rw [if_neg s] at h
    by_cases s : w / 4096 % 8 = 5 ∧ w / 33554432 = 0
    · rw [if_pos s] at h; subst h; exact ⟨c, s.1, s.2⟩
    rw [if_neg s] at h
    by_cases s : w / 4096 % 8 = 5 ∧ w / 33554432 = 32
    · rw [if_pos s] at h; subst h; exact ⟨c, s.1, s.2⟩
    rw [if_neg s] at h
    obtain ⟨a, b⟩ := findI_spec hn h
    clear h
    simp at b
    rcases b with rfl | rfl | rfl | rfl | rfl | rfl
    all_goals exact ⟨c, a.symm⟩
  rw [if_neg c] at h
  by_cases c : w % 128 = 3
  · rw [if_pos c] at h
    obtain ⟨a, b⟩ := findI_spec hn h
    clear h
    simp at b
    rcases b with rfl | rfl | rfl | rfl | rfl
    all_goals exact ⟨c, a.symm⟩
  rw [if_neg c] at h
  by_cases c : w % 128 = 35
  · rw [if_pos c] at h
    obtain ⟨a, b⟩ := findI_spec hn h
    clear h
    simp at b
    rcases b with rfl | rfl | rfl
    all_goals exact ⟨c, a.symm⟩
  rw [if_neg c] at h
  by_cases c : w % 128 = 99
  · rw [if_pos c] at h
    obtain ⟨a, b⟩ := findI_spec hn h
    clear h
    simp at b
    rcases b with rfl | rfl | rfl | rfl | rfl | rfl
    all_goals exact ⟨c, a.symm⟩
  rw [if_neg c] at h
  by_cases c : w % 128 = 55
  · rw [if_pos c] at h; subst h; exact c
  rw [if_neg c] at h
  by_cases c : w % 128 = 23
  · rw [if_pos c] at h; subst h; exact c
  rw [if_neg c] at h
  by_cases c : w % 128 = 111
  · rw [if_pos c] at h; subst h; exact c
  rw [if_neg c] at h
  by_cases c : w % 128 = 103
  · rw [if_pos c] at h
    obtain ⟨a, b⟩ := findI_spec hn h
    clear h
    simp at b
    subst b
    exact ⟨c, a.symm⟩
  rw [if_neg c] at h
  by_cases c : w % 128 = 15
  · rw [if_pos c] at h
    by_cases s : w % 1048576 = 15
    · rw [if_pos s] at h; subst h; exact s
    · rw [if_neg s] at h; exact absurd h.symm hn
  rw [if_neg c] at h
  by_cases c : w = 115
  · rw [if_pos c] at h; subst h; exact c
  rw [if_neg c] at h
  by_cases c : w = 1048691
  · rw [if_pos c] at h; subst h; exact c
  rw [if_neg c] at h
  exact absurd h.symm hn
theorem fit_op {o w : Int} (h0 : 0 ≤ w) (h1 : w < 4294967296) (ho : 1 ≤ o ∧ o ≤ 48) : fitI o w ↔ opI w = o := by
  unfold fitI
  rw [fit_cond h0 h1 ho]
  exact ⟨fun h => cond_op h0 h1 ho h.2, fun h => ⟨can_rec h0 h1 ho, op_cond h0 h1 ho h⟩⟩
end Go.Proofs.YtipecnofjdhobaaDoor
