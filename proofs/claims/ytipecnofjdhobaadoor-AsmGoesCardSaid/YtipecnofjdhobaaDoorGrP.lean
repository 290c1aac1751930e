/- Plain: networks of layer 24: which are sound, what shapes their values have. No program in it. -/
import Derived.Below
namespace Go.Proofs.YtipecnofjdhobaaDoor
open Go Go.RowKit
set_option linter.unusedVariables false

/-- a node: its numbers as they lie -/
structure Nd where
  (op a b k0 k1 s0 s1 p0 p1 p2 p3 za zb zo m1 m2 t1 t2 lo hi w bias chans h0 h1 h2 : Int)
deriving DecidableEq, Inhabited
/-- a shape -/
structure Sh where
  (x y z : Int)
deriving DecidableEq, Inhabited
/-- a constant -/
structure Cn where
  (bytes words : List Int)
deriving DecidableEq, Inhabited

def Sh.good (s : Sh) : Bool := decide (1 ≤ s.x ∧ s.x ≤ 64 ∧ 1 ≤ s.y ∧ s.y ≤ 64 ∧ 1 ≤ s.z ∧ s.z ≤ 64 ∧ s.x * s.y * s.z ≤ 16384)
def Sh.fit (s : Sh) : Int := if s.x < 1 ∨ s.y < 1 ∨ s.z < 1 then 10 else if s.good then 0 else 12
def Sh.size (s : Sh) : Int := s.x * s.y * s.z
theorem Sh.fit_good {s : Sh} (h : s.fit = 0) : s.good = true := by
  unfold Sh.fit at h
  split at h
  · simp at h
  · split at h
    · assumption
    · simp at h

/-! ### what an operator has -/
def hA (o : Int) : Bool := decide (o ≠ 1)
def hB (o : Int) : Bool := decide (o = 7 ∨ o = 8 ∨ o = 12)
def hWin (o : Int) : Bool := decide (o = 2 ∨ o = 3 ∨ o = 5 ∨ o = 6)
def hPad (o : Int) : Bool := decide (o = 2 ∨ o = 3 ∨ o = 5 ∨ o = 6 ∨ o = 10)
def hZa (o : Int) : Bool := decide (o = 2 ∨ o = 3 ∨ o = 4 ∨ o = 7 ∨ o = 8)
def hZb (o : Int) : Bool := decide (o = 7 ∨ o = 8)
def hZo (o : Int) : Bool := decide (o = 2 ∨ o = 3 ∨ o = 4 ∨ o = 7 ∨ o = 8 ∨ o = 10)
def hM (o : Int) : Bool := decide (o = 2 ∨ o = 3 ∨ o = 4 ∨ o = 7 ∨ o = 8)
def hN (o : Int) : Bool := decide (o = 7)
def hL (o : Int) : Bool := decide (o = 2 ∨ o = 3 ∨ o = 4 ∨ o = 7 ∨ o = 8 ∨ o = 9)
def hW (o : Int) : Bool := decide (o = 1 ∨ o = 2 ∨ o = 3 ∨ o = 4 ∨ o = 14)
def hI (o : Int) : Bool := decide (o = 2 ∨ o = 3 ∨ o = 4)
def hC (o : Int) : Bool := decide (o = 2 ∨ o = 4)
def hS (o : Int) : Bool := decide (o = 1 ∨ o = 11)

def idleN (n : Nd) : Bool :=
  (hA n.op || n.a == 0) && (hB n.op || n.b == 0) && (hWin n.op || (n.k0 == 0 && n.k1 == 0 && n.s0 == 0 && n.s1 == 0)) &&
  (hPad n.op || (n.p0 == 0 && n.p1 == 0 && n.p2 == 0 && n.p3 == 0)) && (hZa n.op || n.za == 0) && (hZb n.op || n.zb == 0) && (hZo n.op || n.zo == 0) &&
  (hM n.op || (n.m1 == 0 && n.t1 == 0)) && (hN n.op || (n.m2 == 0 && n.t2 == 0)) && (hL n.op || (n.lo == 0 && n.hi == 0)) &&
  (hW n.op || n.w == 0) && (hI n.op || n.bias == 0) && (hC n.op || n.chans == 0) && (hS n.op || (n.h0 == 0 && n.h1 == 0 && n.h2 == 0))
def insN (n : Nd) : List Int := if n.op = 1 then [] else if hB n.op then [n.a, n.b] else [n.a]
def insOk (n : Nd) (m : Nat) : Bool := (insN n).all fun v => decide (0 ≤ v ∧ v < m)

/-! ### what comes out -/
def gdS (n k s p q : Int) : Bool := decide (1 ≤ n ∧ n ≤ 64 ∧ 1 ≤ k ∧ k ≤ 8 ∧ 1 ≤ s ∧ s ≤ 8 ∧ 0 ≤ p ∧ p < k ∧ 0 ≤ q ∧ q < k ∧ k ≤ n + p + q)
def odS (n k s p q : Int) : Int := (n + p + q - k) / s + 1
def winG (n : Nd) (a : Sh) : Bool := gdS a.x n.k0 n.s0 n.p0 n.p2 && gdS a.y n.k1 n.s1 n.p1 n.p3
def rowX (n : Nd) (a : Sh) : Int := odS a.x n.k0 n.s0 n.p0 n.p2
def rowY (n : Nd) (a : Sh) : Int := odS a.y n.k1 n.s1 n.p1 n.p3
def Nd.sh (n : Nd) : Sh := ⟨n.h0, n.h1, n.h2⟩
def padB7 (n : Nd) : Bool := decide ((0 ≤ n.p0 ∧ n.p0 ≤ 7) ∧ (0 ≤ n.p1 ∧ n.p1 ≤ 7) ∧ (0 ≤ n.p2 ∧ n.p2 ≤ 7) ∧ (0 ≤ n.p3 ∧ n.p3 ≤ 7))
/-- what is wrong (0: nothing), and the shape -/
def outN (n : Nd) (a b : Sh) : Int × Sh :=
  if hWin n.op && !winG n a then (10, a)
  else if hC n.op && !decide (1 ≤ n.chans ∧ n.chans ≤ 64) then (10, a)
  else if n.op = 1 then (n.sh.fit, n.sh)
  else if n.op = 2 then (0, ⟨rowX n a, rowY n a, n.chans⟩)
  else if n.op = 3 ∨ n.op = 5 ∨ n.op = 6 then (0, ⟨rowX n a, rowY n a, a.z⟩)
  else if n.op = 4 then (0, ⟨1, 1, n.chans⟩)
  else if n.op = 7 ∨ n.op = 8 then (if a = b then 0 else 10, a)
  else if n.op = 10 then (if padB7 n then 0 else 10, ⟨a.x + n.p0 + n.p2, a.y + n.p1 + n.p3, a.z⟩)
  else if n.op = 11 then (if n.sh.fit ≠ 0 then n.sh.fit else if n.sh.size ≠ a.size then 10 else 0, n.sh)
  else if n.op = 12 then (if a.x = b.x ∧ a.y = b.y then 0 else 10, ⟨a.x, a.y, a.z + b.z⟩)
  else if n.op = 13 then (0, ⟨a.x, a.y, 1⟩)
  else (0, a)
def constE (C : List Cn) (i : Int) (bytes words : Int) : Int :=
  if i < 0 ∨ C.length ≤ i then 4 else if ((C.getD i.toNat default).bytes.length : Int) ≠ bytes ∨ ((C.getD i.toNat default).words.length : Int) ≠ words then 10 else 0
def bytesN (n : Nd) (a s : Sh) : Int :=
  if n.op = 1 then s.size else if n.op = 2 then n.chans * (n.k0 * n.k1 * a.z) else if n.op = 3 then n.k0 * n.k1 * a.z else if n.op = 4 then n.chans * a.size else 0
def weightsE (C : List Cn) (n : Nd) (a s : Sh) : Int :=
  if hW n.op ∧ constE C n.w (bytesN n a s) (if n.op = 14 then 256 else 0) ≠ 0 then constE C n.w (bytesN n a s) (if n.op = 14 then 256 else 0)
  else if hI n.op then constE C n.bias 0 s.z else 0
def smallB (n : Int) : Bool := decide (-128 ≤ n ∧ n ≤ 127)
def wordsN (C : List Cn) (i : Int) : List Int := (C.getD i.toNat default).words
def numbersB (C : List Cn) (n : Nd) : Bool :=
  smallB n.za && smallB n.zb && smallB n.zo && smallB n.lo && smallB n.hi && decide (n.lo ≤ n.hi ∧ 0 ≤ n.m1 ∧ 0 ≤ n.m2 ∧ 0 ≤ n.t1 ∧ n.t1 ≤ 31 ∧ 0 ≤ n.t2 ∧ n.t2 ≤ 31) &&
  (!hI n.op || (wordsN C n.bias).all fun v => decide (-268435456 ≤ v ∧ v ≤ 268435456)) &&
  (!decide (n.op = 14) || ((wordsN C n.w).all (fun v => decide (0 ≤ v ∧ v ≤ 65535)) && decide ((wordsN C n.w).getD 0 0 ≠ 0)))
def nodeE (C : List Cn) (n : Nd) (l : List Sh) : Int × Sh :=
  if n.op < 1 ∨ 14 < n.op then (15, default)
  else if insOk n l.length = false then (4, default)
  else if idleN n = false then (4, default)
  else if (outN n (l.getD n.a.toNat default) (l.getD n.b.toNat default)).1 ≠ 0 then ((outN n (l.getD n.a.toNat default) (l.getD n.b.toNat default)).1, default)
  else if (outN n (l.getD n.a.toNat default) (l.getD n.b.toNat default)).2.fit ≠ 0 then ((outN n (l.getD n.a.toNat default) (l.getD n.b.toNat default)).2.fit, default)
  else if n.op = 4 ∧ 4096 < (l.getD n.a.toNat default).size then (12, default)
  else if weightsE C n (l.getD n.a.toNat default) (outN n (l.getD n.a.toNat default) (l.getD n.b.toNat default)).2 ≠ 0 then (weightsE C n (l.getD n.a.toNat default) (outN n (l.getD n.a.toNat default) (l.getD n.b.toNat default)).2, default)
  else if numbersB C n = false then (11, default)
  else (0, (outN n (l.getD n.a.toNat default) (l.getD n.b.toNat default)).2)
theorem nodeE_fit {C : List Cn} {n : Nd} {l : List Sh} (h : (nodeE C n l).1 = 0) : (nodeE C n l).2.fit = 0 ∧ 1 ≤ n.op ∧ n.op ≤ 14 ∧ insOk n l.length = true ∧ idleN n = true := by
  unfold nodeE at h ⊢
  generalize outN n (l.getD n.a.toNat default) (l.getD n.b.toNat default) = q at h ⊢
  by_cases h1 : n.op < 1 ∨ 14 < n.op
  · rw [if_pos h1] at h; simp at h
  · rw [if_neg h1] at h ⊢
    by_cases h2 : insOk n l.length = false
    · rw [if_pos h2] at h; simp at h
    · rw [if_neg h2] at h ⊢
      by_cases h3 : idleN n = false
      · rw [if_pos h3] at h; simp at h
      · rw [if_neg h3] at h ⊢
        by_cases h4 : q.1 ≠ 0
        · rw [if_pos h4] at h; exact absurd h h4
        · rw [if_neg h4] at h ⊢
          by_cases h5 : q.2.fit ≠ 0
          · rw [if_pos h5] at h; exact absurd h h5
          · rw [if_neg h5] at h ⊢
            by_cases h6 : n.op = 4 ∧ 4096 < (l.getD n.a.toNat default).size
            · rw [if_pos h6] at h; simp at h
            · rw [if_neg h6] at h ⊢
              by_cases h7 : weightsE C n (l.getD n.a.toNat default) q.2 ≠ 0
              · rw [if_pos h7] at h; exact absurd h h7
              · rw [if_neg h7] at h ⊢
                by_cases h8 : numbersB C n = false
                · rw [if_pos h8] at h; simp at h
                · rw [if_neg h8]
                  exact ⟨by simpa using h5, by omega, by omega, by simpa using h2, by simpa using h3⟩
/-- a node that isn't idle where it should be -/
theorem nodeE_busy {C : List Cn} {n : Nd} {l : List Sh} (h1 : 1 ≤ n.op) (h2 : n.op ≤ 14) (h3 : idleN n = false) : (nodeE C n l).1 = 4 := by
  unfold nodeE
  rw [if_neg (by omega)]
  by_cases h : insOk n l.length = false
  · rw [if_pos h]
  · rw [if_neg h, if_pos h3]

/-! ### all nodes -/
def shapesE (C : List Cn) : List Nd → List Sh → Int × List Sh
  | [], l => (0, l)
  | n :: r, l => if (nodeE C n l).1 ≠ 0 then ((nodeE C n l).1, []) else shapesE C r (l ++ [(nodeE C n l).2])
structure Gr where
  (inp : Sh) (C : List Cn) (ns : List Nd) (out : Int)
def graphE (g : Gr) : Int × List Sh :=
  if g.inp.fit ≠ 0 then (g.inp.fit, [])
  else if (shapesE g.C g.ns [g.inp]).1 ≠ 0 then ((shapesE g.C g.ns [g.inp]).1, [])
  else if g.out < 0 ∨ (shapesE g.C g.ns [g.inp]).2.length ≤ g.out then (4, [])
  else (0, (shapesE g.C g.ns [g.inp]).2)
theorem shapes_ok {C : List Cn} : ∀ (ns : List Nd) (l : List Sh), (shapesE C ns l).1 = 0 → (∀ s ∈ l, s.fit = 0) → (∀ s ∈ (shapesE C ns l).2, s.fit = 0) ∧ (shapesE C ns l).2.length = l.length + ns.length
  | [], l, _, h => ⟨h, by simp [shapesE]⟩
  | n :: r, l, h0, h => by
    rw [shapesE] at h0 ⊢
    by_cases e : (nodeE C n l).1 ≠ 0
    · rw [if_pos e] at h0; exact absurd h0 e
    · rw [if_neg e] at h0 ⊢
      have f := (nodeE_fit (C := C) (n := n) (l := l) (by simpa using e)).1
      obtain ⟨a, b⟩ := shapes_ok r _ h0 (fun s hs => by
        rcases List.mem_append.mp hs with hs | hs
        · exact h s hs
        · obtain rfl : s = _ := by simpa using hs
          exact f)
      exact ⟨a, by rw [b]; simp; omega⟩
theorem graph_ok {g : Gr} (h : (graphE g).1 = 0) : (∀ s ∈ (graphE g).2, s.good = true) ∧ (graphE g).2.length = g.ns.length + 1 := by
  unfold graphE at h ⊢
  by_cases h1 : g.inp.fit ≠ 0
  · rw [if_pos h1] at h; exact absurd h h1
  · rw [if_neg h1] at h ⊢
    by_cases h2 : (shapesE g.C g.ns [g.inp]).1 ≠ 0
    · rw [if_pos h2] at h; exact absurd h h2
    · rw [if_neg h2] at h ⊢
      by_cases h3 : g.out < 0 ∨ (shapesE g.C g.ns [g.inp]).2.length ≤ g.out
      · rw [if_pos h3] at h; simp at h
      · rw [if_neg h3]
        obtain ⟨a, b⟩ := shapes_ok g.ns [g.inp] (by simpa using h2) (fun s hs => by
          obtain rfl : s = g.inp := by simpa using hs
          simpa using h1)
        exact ⟨fun s hs => Sh.fit_good (a s hs), by rw [b]; simp; omega⟩
theorem Sh.fit_good' {s : Sh} (h : s.fit = 0) : s.good = true := s.fit_good h
/-- a node in the midst that isn't idle -/
theorem shapes_busy {C : List Cn} {n : Nd} (h1 : 1 ≤ n.op) (h2 : n.op ≤ 14) (h3 : idleN n = false) : ∀ (ns : List Nd) (i : Nat) (l : List Sh), (shapesE C ns l).1 = 0 → i < ns.length → (shapesE C (ns.set i n) l).1 = 4
  | [], i, l, _, hi => absurd hi (by simp)
  | m :: r, 0, l, _, _ => by
    rw [List.set_cons_zero, shapesE, if_pos (by rw [nodeE_busy h1 h2 h3]; simp), nodeE_busy h1 h2 h3]
  | m :: r, i + 1, l, h0, hi => by
    rw [List.set_cons_succ, shapesE]
    rw [shapesE] at h0
    by_cases e : (nodeE C m l).1 ≠ 0
    · rw [if_pos e] at h0; exact absurd h0 e
    · rw [if_neg e] at h0 ⊢
      exact shapes_busy h1 h2 h3 r i _ h0 (by simpa using hi)
theorem graph_busy {g : Gr} {n : Nd} {i : Nat} (h : (graphE g).1 = 0) (hi : i < g.ns.length) (h1 : 1 ≤ n.op) (h2 : n.op ≤ 14) (h3 : idleN n = false) : (graphE { g with ns := g.ns.set i n }).1 = 4 := by
  unfold graphE at h ⊢
  by_cases e1 : g.inp.fit ≠ 0
  · rw [if_pos e1] at h; exact absurd h e1
  · rw [if_neg e1] at h ⊢
    by_cases e2 : (shapesE g.C g.ns [g.inp]).1 ≠ 0
    · rw [if_pos e2] at h; exact absurd h e2
    · have := shapes_busy (C := g.C) h1 h2 h3 g.ns i [g.inp] (by simpa using e2) hi
      rw [if_pos (by show (shapesE g.C (g.ns.set i n) [g.inp]).1 ≠ 0; rw [this]; simp)]
      exact this
end Go.Proofs.YtipecnofjdhobaaDoor
