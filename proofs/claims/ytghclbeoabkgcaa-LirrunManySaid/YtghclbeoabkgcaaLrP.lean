/- Loop programs over bytes, as a machine that goes from step to step: the mathematics. -/
import Derived.Test.YtghclbeoabkgcaaCntP
import Derived.Test.YtghclbeoabkgcaaQuantP
import Derived.Test.YtghclbeoabkgcaaMemT
import Derived.Test.YtghclbeoabkgcaaNum
namespace Go.Proofs.Ytghclbeoabkgcaa
open Go Go.RowKit Pl
set_option linter.unusedVariables false

def aluR (o : Int) : Int := if o = 3 then 1 else if o = 4 then 2 else if o = 5 then 11 else if o = 6 then 12 else if o = 7 then 10 else if o = 8 then 9 else if o = 9 then 6 else if o = 10 then 4 else if o = 11 then 5 else if o = 12 then 16 else if o = 13 then 1 else if o = 14 then 3 else if o = 15 then 7 else 8
def valR (x : Q5) (f : Nat → Int) : Int :=
  if x.o = 1 ∨ x.o = 23 then x.i % 4294967296 else if x.o = 2 then f x.a.toNat
  else aluS (aluR x.o) (f x.a.toNat) (if 13 ≤ x.o then x.i % 4294967296 else f x.b.toNat)
def atR (x : Q5) (f : Nat → Int) : Nat := ((f x.a.toNat + x.i) % 4294967296).toNat
def sizeR (o : Int) : Nat := if o = 19 then 2 else if o = 20 ∨ o = 22 then 4 else 1
theorem sizeR_is (o : Int) : sizeR o = 1 ∨ sizeR o = 2 ∨ sizeR o = 4 := by
  unfold sizeR
  split
  · exact .inr (.inl rfl)
  split
  · exact .inr (.inr rfl)
  · exact .inl rfl
def extR (o : Int) (n : Nat) : Int := if o = 18 then (n : Int) else sextS n (8 * (sizeR o : Int))
/-- where the bytes lie -/
structure Bk where
  ff : Nat
  rr : Nat
  Fb : List Nat
def ldR (K : Bk) (x : Q5) (f : Nat → Int) (b : List Nat) : Nat × Int := loadS K.ff K.Fb.length K.rr b.length K.Fb b (atR x f) (sizeR x.o)
def stR (K : Bk) (x : Q5) (f : Nat → Int) (b : List Nat) : Int := storeS K.rr b.length (atR x f) (sizeR x.o)
structure LD where
  t : Int
  f : Nat → Int
  b : List Nat
def doR (K : Bk) (x : Q5) (f : Nat → Int) (b : List Nat) : LD :=
  if x.o ≤ 16 ∨ x.o = 23 then ⟨0, upd f x.d.toNat (valR x f), b⟩
  else if x.o ≤ 20 then (if (ldR K x f b).2 ≠ 0 then ⟨(ldR K x f b).2, f, b⟩ else ⟨0, upd f x.d.toNat (extR x.o (ldR K x f b).1), b⟩)
  else if x.o ≤ 22 then (if stR K x f b ≠ 0 then ⟨stR K x f b, f, b⟩ else ⟨0, f, ramS K.rr b.length b (atR x f) (sizeR x.o) (f x.b.toNat).toNat⟩)
  else ⟨0, f, b⟩
/-- place, variables, bytes -/
structure LS where
  p : Nat
  f : Nat → Int
  b : List Nat
def bgL (E : List Int) (p : Nat) : Nat := (E.getD p 0).toNat
def cnL (l : List Q5) (E : List Int) (p : Nat) : Nat := (dOf l (bgL E p)).toNat
def stepX (K : Bk) (l : List Q5) (E : List Int) (s : LS) (x : Q5) : Int × LS :=
  if x.o = 24 then (0, ⟨if (s.f (cnL l E s.p) - 1) % 4294967296 = 0 then s.p + 1 else bgL E s.p + 1, upd s.f (cnL l E s.p) ((s.f (cnL l E s.p) - 1) % 4294967296), s.b⟩)
  else if (doR K x s.f s.b).t ≠ 0 then ((doR K x s.f s.b).t, s) else (0, ⟨s.p + 1, (doR K x s.f s.b).f, (doR K x s.f s.b).b⟩)
def stepL (K : Bk) (l : List Q5) (E : List Int) (s : LS) : Int × LS := match l[s.p]? with
  | none => (0, s)
  | some x => stepX K l E s x
theorem stepL_at {K : Bk} {l : List Q5} {E : List Int} {s : LS} {x : Q5} (h : l[s.p]? = some x) : stepL K l E s = stepX K l E s x := by unfold stepL; rw [h]
structure LR where
  n : Nat
  t : Int
  s : LS
def runL (K : Bk) (l : List Q5) (E : List Int) : Nat → LS → LR
  | 0, s => ⟨0, 0, s⟩
  | k + 1, s => if l.length ≤ s.p then ⟨0, 0, s⟩ else if (stepL K l E s).1 ≠ 0 then ⟨0, (stepL K l E s).1, s⟩ else ⟨(runL K l E k (stepL K l E s).2).n + 1, (runL K l E k (stepL K l E s).2).t, (runL K l E k (stepL K l E s).2).s⟩
theorem runL_succ (K : Bk) (l : List Q5) (E : List Int) (k : Nat) (s : LS) : runL K l E (k + 1) s = if l.length ≤ s.p then ⟨0, 0, s⟩ else if (stepL K l E s).1 ≠ 0 then ⟨0, (stepL K l E s).1, s⟩ else ⟨(runL K l E k (stepL K l E s).2).n + 1, (runL K l E k (stepL K l E s).2).t, (runL K l E k (stepL K l E s).2).s⟩ := rfl
inductive RchL (K : Bk) (l : List Q5) (E : List Int) : Nat → LS → LS → Prop
  | refl (s : LS) : RchL K l E 0 s s
  | step (n : Nat) (s s' : LS) : s.p < l.length → (stepL K l E s).1 = 0 → RchL K l E n (stepL K l E s).2 s' → RchL K l E (n + 1) s s'
theorem RchL.trans {K : Bk} {l : List Q5} {E : List Int} {n m : Nat} {a b c : LS} (h : RchL K l E n a b) (g : RchL K l E m b c) : RchL K l E (n + m) a c := by
  induction h with
  | refl s => rw [Nat.zero_add]; exact g
  | step n s s' h1 h2 _ ih => rw [show n + 1 + m = n + m + 1 by omega]; exact .step _ _ _ h1 h2 (ih g)
theorem RchL.one {K : Bk} {l : List Q5} {E : List Int} {a : LS} (h1 : a.p < l.length) (h2 : (stepL K l E a).1 = 0) : RchL K l E 1 a (stepL K l E a).2 := .step _ _ _ h1 h2 (.refl _)
theorem RchL.snoc {K : Bk} {l : List Q5} {E : List Int} {n : Nat} {a b : LS} (h : RchL K l E n a b) (h1 : b.p < l.length) (h2 : (stepL K l E b).1 = 0) : RchL K l E (n + 1) a (stepL K l E b).2 := h.trans (.one h1 h2)
theorem reach_run {K : Bk} {l : List Q5} {E : List Int} {n : Nat} {a b : LS} (h : RchL K l E n a b) (k : Nat) : runL K l E (n + k) a = ⟨(runL K l E k b).n + n, (runL K l E k b).t, (runL K l E k b).s⟩ := by
  induction h with
  | refl s => rw [Nat.zero_add]; rfl
  | step n s s' h1 h2 _ ih =>
    rw [show n + 1 + k = (n + k) + 1 by omega]
    rw [runL_succ, if_neg (by omega), if_neg (by rw [h2]; simp), ih]
    rfl
/-- what a run comes to, by how it ends -/
theorem run_end {K : Bk} {l : List Q5} {E : List Int} {n : Nat} {a b : LS} (h : RchL K l E n a b) (k : Nat) (he : l.length ≤ b.p ∨ k = 0) : runL K l E (n + k) a = ⟨n, 0, b⟩ := by
  rw [reach_run h]
  have : runL K l E k b = ⟨0, 0, b⟩ := by
    cases k with
    | zero => rfl
    | succ k =>
      rw [runL_succ, if_pos (by omega)]
  rw [this]; simp
theorem run_trap {K : Bk} {l : List Q5} {E : List Int} {n : Nat} {a b : LS} (h : RchL K l E n a b) (k : Nat) (h1 : b.p < l.length) (ht : (stepL K l E b).1 ≠ 0) : runL K l E (n + (k + 1)) a = ⟨n, (stepL K l E b).1, b⟩ := by
  rw [reach_run h]
  have : runL K l E (k + 1) b = ⟨0, (stepL K l E b).1, b⟩ := by
    rw [runL_succ, if_neg (by omega), if_pos ht]
  rw [this]; simp
/-- a step that may be -/
structure OkR (x : Q5) : Prop where
  o : 1 ≤ x.o ∧ x.o ≤ 24
  d : 0 ≤ x.d ∧ x.d < 64
  a : 0 ≤ x.a ∧ x.a < 64
  b : 0 ≤ x.b ∧ x.b < 64
  i : -2147483648 ≤ x.i ∧ x.i ≤ 2147483647
  sh : 14 ≤ x.o → x.o ≤ 16 → 0 ≤ x.i ∧ x.i ≤ 31
  lo : x.o = 23 → 1 ≤ x.i ∧ x.i ≤ 100000
theorem numB_lt' {l : List Nat} (h : ∀ x ∈ l, x < 256) : numB l < 256 ^ l.length := by
  induction l with
  | nil => simp [numB]
  | cons x l ih =>
    have h1 := ih fun y hy => h y (List.mem_cons_of_mem _ hy)
    have h2 := h x (List.mem_cons_self ..)
    have e : numB (x :: l) = x + 256 * numB l := rfl
    rw [e, List.length_cons, Nat.pow_succ]
    omega
theorem bytesAt_lt' {l : List Nat} (h : ∀ x ∈ l, x < 256) (o k : Nat) (hk : k ≤ 4) : bytesAt l o k < 4294967296 := by
  unfold bytesAt
  have h1 := numB_lt' (l := (l.drop o).take k) fun x hx => h x (List.mem_of_mem_drop (List.mem_of_mem_take hx))
  have h2 : ((l.drop o).take k).length ≤ 4 := by rw [List.length_take]; omega
  have h3 : 256 ^ ((l.drop o).take k).length ≤ 256 ^ 4 := Nat.pow_le_pow_right (by decide) h2
  have h4 : 256 ^ 4 = 4294967296 := by decide
  omega
theorem loadS_lt' {f r n1 n2 : Nat} {Fb Rb : List Nat} (hF : ∀ x ∈ Fb, x < 256) (hR : ∀ x ∈ Rb, x < 256) (a k : Nat) (hk : k ≤ 4) : (loadS f n1 r n2 Fb Rb a k).1 < 4294967296 := by
  unfold loadS
  split
  · decide
  split
  · exact bytesAt_lt' hF _ _ hk
  split
  · exact bytesAt_lt' hR _ _ hk
  · decide
theorem atR_lt (x : Q5) (f : Nat → Int) : atR x f < 4294967296 := by
  unfold atR
  have := Int.emod_lt_of_pos (f x.a.toNat + x.i) (show (0 : Int) < 4294967296 by decide)
  have := Int.emod_nonneg (f x.a.toNat + x.i) (show (4294967296 : Int) ≠ 0 by decide)
  omega
theorem atR_int (x : Q5) (f : Nat → Int) : ((atR x f : Nat) : Int) = (f x.a.toNat + x.i) % 4294967296 := by
  unfold atR
  have := Int.emod_nonneg (f x.a.toNat + x.i) (show (4294967296 : Int) ≠ 0 by decide)
  omega
end Go.Proofs.Ytghclbeoabkgcaa
