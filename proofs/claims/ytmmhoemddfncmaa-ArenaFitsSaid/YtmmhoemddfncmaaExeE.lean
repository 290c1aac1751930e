/- A runner, part E: one operation. -/
import Derived.Test.YtmmhoemddfncmaaExeD
namespace Go.Proofs.Ytmmhoemddfncmaa
open Go Go.RowKit
set_option linter.unusedVariables false
set_option linter.unusedSimpArgs false

section
variable {P : Program} {N0 : Nat} {w0 w : World} {β : Bs} {H : Hp}

def aCopy (P : Program) (N0 : Nat) (H : Hp) (t : TypeId) (d x : Value) : Option (Value × Hp) :=
  match P.underlying t with
  | some (.slice e) => match sizeB P e, d, x with
    | some u, .slice (some ⟨i, o, _⟩) dl _, .slice (some a) m c =>
      match sliceCells H u (.slice (some a) (Nat.min m dl) c), H.get i with
      | some l, .live k => if N0 ≤ i ∧ o + l.length ≤ k.cells.length then some (.int .i64 (Nat.min m dl : Nat), H.put i (.live { k with cells := k.cells.take o ++ l ++ k.cells.drop (o + l.length) })) else none
      | _, _ => none
    | _, _, _ => none
  | _ => none
theorem aCopy_ok {t t2 ty : TypeId} {d d' x x' u : Value} {H' : Hp} (h : aCopy P N0 H t d x = some (u, H')) (hd : RV β d d') (hx : RV β x x') (hs : HS N0 w0 β H w) :
    ∃ u' w', (Builtin.copy_ #[t, t2] ty #[d', x']).run P w = .ok u' w' ∧ RV β u u' ∧ HS N0 w0 β H' w' := by
  unfold aCopy at h
  split at h
  rotate_left
  · cases h
  rename_i e ht
  split at h
  rotate_left
  · cases h
  rename_i z i o sp dl dc a m c hz
  split at h
  rotate_left
  · cases h
  rename_i l k hl hk
  split at h
  rotate_left
  · cases h
  rename_i hc
  obtain ⟨c1, c2⟩ := hc
  simp only [Option.some.injEq, Prod.mk.injEq] at h
  obtain ⟨rfl, rfl⟩ := h
  obtain ⟨b, xx, hb, rfl⟩ := hd.slp_inv
  have hx2 : ∃ ax cx, x' = .slice (some ax) m cx ∧ RV β (.slice (some a) (Nat.min m dl) c) (.slice (some ax) (Nat.min m dl) cx) := by
    cases hx with | one hx => cases hx with | base hx => cases hx with | base hx => cases hx with
      | flat hx => simp [flat0] at hx
      | slc hx => exact ⟨_, _, rfl, .one (.base (.slp hx))⟩
  obtain ⟨ax, cx, rfl, hx3⟩ := hx2
  obtain ⟨a', m', c', l', he, ⟨_, _, he2⟩, h2, h3, h4⟩ := sliceCells_ok hl hx3 hs.toHR
  cases he; cases he2
  obtain ⟨b2, x2, cs, hb2, hg, g3, g4, g5, g6⟩ := hs.blk i k c1 hk
  rw [hb] at hb2; cases hb2
  have hw := put_cells (off := o) hs c1 hk hb hg g3 g4 g5 g6 h3 c2
  have hst := run_storeCells_at P b o k.elem l' 0 cs w hg (by rw [← h3.length, g4]; omega) (oneCells h3)
  have hf := run_firstCells_some (P := P) w z (Nat.min m dl) ax m cx l' h2 h4
  simp only [Nat.add_zero] at hst
  exact ⟨_, _, by simp [Builtin.copy_, run_underlying ht, Builtin.lenOf, run_sizeOf hz, hf, hst, goInt], .of_flat rfl, hw⟩

def aLen (P : Program) (t : TypeId) (v : Value) : Option Value :=
  match P.underlying t, v with
  | some (.slice _), .slice (some _) n _ => some (.int .i64 n)
  | some (.array n _), _ => some (.int .i64 n)
  | _, _ => none
theorem aLen_ok {t ty : TypeId} {v v' u : Value} (h : aLen P t v = some u) (hv : RV β v v') : (Builtin.len_ #[t] ty #[v']).run P w = .ok u w ∧ RV β u u := by
  unfold aLen at h
  split at h
  · rename_i a n c hu
    simp only [Option.some.injEq] at h; subst h
    cases hv with | one hv => cases hv with | base hv => cases hv with | base hv => cases hv with
      | flat hx => simp [flat0] at hx
      | slc hx => exact ⟨by simp [Builtin.len_, run_underlying hu, goInt], .of_flat rfl⟩
  · rename_i n e hu
    simp only [Option.some.injEq] at h; subst h
    exact ⟨by simp [Builtin.len_, run_underlying hu, goInt], .of_flat rfl⟩
  · cases h

def aEqB (P : Program) (t : TypeId) (x y : Value) : Option Bool :=
  match P.underlying t, x, y with
  | some (.slice _), .slice (some ⟨_, _, _⟩) _ _, .slice none _ _ => some false
  | some (.slice _), .slice none _ _, .slice (some ⟨_, _, _⟩) _ _ => some false
  | some (.pointer _), .pointer (some ⟨_, _, none⟩), .pointer none => some false
  | some (.pointer _), .pointer none, .pointer (some ⟨_, _, none⟩) => some false
  | some (.pointer e), .pointer (some ⟨i, o, none⟩), .pointer (some ⟨j, o', none⟩) => match sizeB P e with
    | some (_ + 1) => if i = j then some (decide (o = o')) else none
    | _ => none
  | _, _, _ => none
theorem aEqIn_ok {t : TypeId} {x y x' y' : Value} {b : Bool} (h : aEqB P t x y = some b) (hx : RV β x x') (hy : RV β y y') (d : Nat) :
    (Op.equalIn (d + 1) t x' y').run P w = .ok b w ∧ ((∃ a n c a' n' c', x' = .slice a n c ∧ y' = .slice a' n' c') ∨ ∃ a a', x' = .pointer a ∧ y' = .pointer a') := by
  unfold aEqB at h
  split at h
  · rename_i i o sp n c n2 c2 hu
    simp only [Option.some.injEq] at h; subst h
    obtain ⟨bb, xx, hb, rfl⟩ := hx.slp_inv
    obtain rfl := hy.eq_flat rfl
    exact ⟨by simp [Op.equalIn, run_underlying hu], .inl ⟨_, _, _, _, _, _, rfl, rfl⟩⟩
  · rename_i n2 c2 i o sp n c hu
    simp only [Option.some.injEq] at h; subst h
    obtain ⟨bb, xx, hb, rfl⟩ := hy.slp_inv
    obtain rfl := hx.eq_flat rfl
    exact ⟨by simp [Op.equalIn, run_underlying hu], .inl ⟨_, _, _, _, _, _, rfl, rfl⟩⟩
  · rename_i hu
    simp only [Option.some.injEq] at h; subst h
    obtain ⟨bb, xx, hb, rfl⟩ := hx.ptr_inv
    obtain rfl := hy.eq_flat rfl
    exact ⟨by simp [Op.equalIn, run_underlying hu], .inr ⟨_, _, rfl, rfl⟩⟩
  · rename_i hu
    simp only [Option.some.injEq] at h; subst h
    obtain ⟨bb, xx, hb, rfl⟩ := hy.ptr_inv
    obtain rfl := hx.eq_flat rfl
    exact ⟨by simp [Op.equalIn, run_underlying hu], .inr ⟨_, _, rfl, rfl⟩⟩
  · rename_i e i o j o' hu
    split at h
    · rename_i z hz
      split at h
      · rename_i hij
        subst hij
        simp only [Option.some.injEq] at h; subst h
        obtain ⟨bb, xx, hb, rfl⟩ := hx.ptr_inv
        obtain ⟨b2, x2, hb2, rfl⟩ := hy.ptr_inv
        rw [hb] at hb2; cases hb2
        refine ⟨?_, .inr ⟨_, _, rfl, rfl⟩⟩
        simp [Op.equalIn, run_underlying hu, run_sizeOf hz, sameAddr]
        by_cases ho : o = o' <;> simp [ho]
      · cases h
    · cases h
  · cases h
theorem aEqB_ok {t : TypeId} {x y x' y' : Value} {b : Bool} (h : aEqB P t x y = some b) (hx : RV β x x') (hy : RV β y y') :
    (∀ op X Y, (op = .eql ∨ op = .neq) → (eqGuard op t X Y x' y').run P w = .ok () w) ∧ (binOp .eql t x' y').run P w = .ok (.bool b) w ∧ (binOp .neq t x' y').run P w = .ok (.bool !b) w := by
  obtain ⟨h1, h2⟩ := aEqIn_ok (w := w) h hx hy 9999
  have h1' : (Op.equal t x' y').run P w = .ok b w := h1
  rcases h2 with ⟨a, n, c, a', n', c', rfl, rfl⟩ | ⟨a, a', rfl, rfl⟩
  · refine ⟨?_, ?_, ?_⟩
    · rintro op X Y (rfl | rfl) <;> simp [eqGuard]
    · show ((do pure (.bool (← Op.equal t (.slice a n c) (.slice a' n' c')))) : Sem Value).run P w = _
      rw [Sem.run_bind, h1']; rfl
    · show ((do pure (.bool (!(← Op.equal t (.slice a n c) (.slice a' n' c'))))) : Sem Value).run P w = _
      rw [Sem.run_bind, h1']; rfl
  · refine ⟨?_, ?_, ?_⟩
    · rintro op X Y (rfl | rfl) <;> simp [eqGuard]
    · show ((do pure (.bool (← Op.equal t (.pointer a) (.pointer a')))) : Sem Value).run P w = _
      rw [Sem.run_bind, h1']; rfl
    · show ((do pure (.bool (!(← Op.equal t (.pointer a) (.pointer a'))))) : Sem Value).run P w = _
      rw [Sem.run_bind, h1']; rfl

inductive AR where
  | val (v : Value) (H : Hp)
  | enter (f : FuncId) (args : List Value)
def okOp (N0 : Nat) : Operand → Bool
  | .const v => flat v
  | .global g => Nat.blt g N0
  | _ => true
/-- a frame's values, eight a row -/
abbrev Fr := List (List Value)
def Fr.get (f : Fr) (t : Nat) : Value := (List.getD f (t / 8) []).getD (t % 8) undef
def Fr.set (f : Fr) (d : Nat) (v : Value) : Fr := List.set f (d / 8) ((List.getD f (d / 8) []).set (d % 8) v)
def Fr.has (f : Fr) (t : Nat) : Prop := t / 8 < List.length f ∧ t % 8 < (List.getD f (t / 8) []).length
instance (f : Fr) (t : Nat) : Decidable (f.has t) := inferInstanceAs (Decidable (_ ∧ _))
theorem Fr.get_set (f : Fr) (d : Nat) (v : Value) (t : Nat) : ((f.set d v).get t = if t = d ∧ f.has d then v else f.get t) ∧ ((f.set d v).has t ↔ f.has t) := by
  unfold Fr.get Fr.set Fr.has
  by_cases hd : d / 8 < List.length f
  · by_cases h8 : t / 8 = d / 8
    · have e1 : List.getD (List.set f (d / 8) ((List.getD f (d / 8) []).set (d % 8) v)) (t / 8) [] = (List.getD f (d / 8) []).set (d % 8) v := by
        rw [h8, List.getD_eq_getElem?_getD, List.getElem?_set_self hd]; rfl
      rw [e1, h8]
      refine ⟨?_, by simp⟩
      by_cases hm : t % 8 = d % 8
      · have htd : t = d := by omega
        subst htd
        by_cases hl : t % 8 < (List.getD f (t / 8) []).length
        · rw [if_pos ⟨rfl, hd, hl⟩, List.getD_eq_getElem?_getD, List.getElem?_set_self hl]; rfl
        · rw [if_neg (fun h => hl h.2.2), List.set_eq_of_length_le (by omega)]
      · rw [if_neg (fun h => hm (by rw [h.1])), List.getD_eq_getElem?_getD, List.getElem?_set_ne (fun h => hm h.symm), ← List.getD_eq_getElem?_getD]
    · have e1 : List.getD (List.set f (d / 8) ((List.getD f (d / 8) []).set (d % 8) v)) (t / 8) [] = List.getD f (t / 8) [] := by
        rw [List.getD_eq_getElem?_getD, List.getElem?_set_ne (fun h => h8 h.symm), ← List.getD_eq_getElem?_getD]
      rw [e1]
      refine ⟨?_, by simp⟩
      rw [if_neg (fun h => h8 (by rw [h.1]))]
  · rw [List.set_eq_of_length_le (by omega)]
    refine ⟨?_, Iff.rfl⟩
    rw [if_neg (fun h => hd h.2.1)]
def chunk : Nat → List Value → Fr
  | 0, _ => []
  | n + 1, l => match l with
    | [] => []
    | l => l.take 8 :: chunk n (l.drop 8)
theorem chunk_ok : ∀ (n : Nat) (l : List Value) (t : Nat), l.length ≤ n → (Fr.get (chunk n l) t = l.getD t undef) ∧ (Fr.has (chunk n l) t ↔ t < l.length)
  | 0, l, t, h => by
    have : l = [] := List.eq_nil_of_length_eq_zero (by omega)
    subst this
    simp [chunk, Fr.get, Fr.has]
  | n + 1, [], t, h => by simp [chunk, Fr.get, Fr.has]
  | n + 1, a :: l, t, h => by
    simp only [chunk]
    by_cases ht : t < 8
    · have e0 : t / 8 = 0 := by omega
      have e1 : t % 8 = t := by omega
      unfold Fr.get Fr.has
      rw [e0, e1]
      refine ⟨?_, ?_⟩
      · show (List.take 8 (a :: l)).getD t undef = _
        rw [List.getD_eq_getElem?_getD, List.getElem?_take, if_pos ht, ← List.getD_eq_getElem?_getD]
      · show (0 < _ ∧ t < (List.take 8 (a :: l)).length) ↔ _
        rw [List.length_take]; simp; omega
    · obtain ⟨i1, i2⟩ := chunk_ok n ((a :: l).drop 8) (t - 8) (by simp at h ⊢; omega)
      have e0 : t / 8 = (t - 8) / 8 + 1 := by omega
      have e1 : t % 8 = (t - 8) % 8 := by omega
      unfold Fr.get Fr.has at *
      rw [e0, e1]
      refine ⟨?_, ?_⟩
      · show (List.getD (chunk n ((a :: l).drop 8)) ((t - 8) / 8) []).getD ((t - 8) % 8) undef = _
        rw [i1, List.getD_eq_getElem?_getD, List.getElem?_drop, ← List.getD_eq_getElem?_getD, show 8 + (t - 8) = t by omega]
      · show ((t - 8) / 8 + 1 < (chunk n ((a :: l).drop 8)).length + 1 ∧ (t - 8) % 8 < (List.getD (chunk n ((a :: l).drop 8)) ((t - 8) / 8) []).length) ↔ _
        have := i2
        rw [List.length_drop] at this
        constructor
        · intro hh
          have := this.1 ⟨by omega, hh.2⟩
          omega
        · intro hh
          have := this.2 (by omega)
          exact ⟨by omega, this.2⟩
def evT (tm : Fr) : Operand → Value
  | .tmp t => tm.get t
  | .const v => v
  | .global g => .pointer (some ⟨g, 0, none⟩)
  | .func f => .func (.func f) #[] #[]

/-- a value that can lie in a closure -/
def isB : Value → Bool
  | .pointer (some _) | .slice (some _) _ _ => true
  | v => flat0 v
def isRa : Value → Bool
  | .agg cs => cs.toList.all isB
  | v => isB v
theorem Rb_of {v v' : Value} (hv : R0 β v v') (h : isB v = true) : Rb β v v' := by
  cases hv with
  | base h => exact h
  | func _ _ => simp [isB, flat0] at h
theorem Ra_of {v v' : Value} (hv : RV β v v') (h : isRa v = true) : Ra β v v' := by
  cases hv with
  | tup _ => simp [isRa, isB, flat0] at h
  | one hv => cases hv with
    | base hv => cases hv with
      | base h => exact .base h
      | func _ _ => simp [isRa, isB, flat0] at h
    | agg hl =>
      simp only [isRa, List.all_eq_true] at h
      refine .agg ?_
      have : ∀ {l l' : List Value}, (∀ x ∈ l, isB x = true) → All2 (R0 β) l l' → All2 (Rb β) l l' := by
        intro l l' hall h
        induction h with
        | nil => exact .nil
        | cons h _ ih => exact .cons (Rb_of h (hall _ (by simp))) (ih fun x hx => hall x (by simp [hx]))
      exact this h hl
def isFn (P : Program) (f : FuncId) : Bool := match P.funcs[f]? with | some fn => fn.body.isSome | none => false

/-! whole numbers, quickly -/
def limK : IntKind → Nat
  | .i8 => 128 | .i16 => 32768 | .i32 => 2147483648 | .i64 => 9223372036854775808 | .u8 => 256 | .u16 => 65536 | .u32 => 4294967296 | .u64 => 18446744073709551616
def sgnK : IntKind → Bool
  | .i8 | .i16 | .i32 | .i64 => true
  | _ => false
def kN : IntKind → Nat
  | .i8 => 0 | .i16 => 1 | .i32 => 2 | .i64 => 3 | .u8 => 4 | .u16 => 5 | .u32 => 6 | .u64 => 7
theorem kN_inj {k l : IntKind} (h : Nat.beq (kN k) (kN l) = true) : k = l := by cases k <;> cases l <;> first | rfl | cases h
def wrapF (k : IntKind) (n : Int) : Int := match n with
  | .ofNat m => match Nat.blt m (limK k) with
    | true => .ofNat m
    | false => k.wrap (.ofNat m)
  | .negSucc m => match sgnK k with
    | true => match Nat.blt m (limK k) with
      | true => .negSucc m
      | false => k.wrap (.negSucc m)
    | false => k.wrap (.negSucc m)
theorem wrap_in (k : IntKind) (n : Int) (h : (0 ≤ n ∧ n < limK k) ∨ (sgnK k = true ∧ n < 0 ∧ -(limK k : Int) ≤ n)) : k.wrap n = n := by
  cases k <;> simp [IntKind.wrap, IntKind.bits, IntKind.signed, limK, sgnK] at h ⊢ <;> omega
theorem wrapF_eq (k : IntKind) (n : Int) : wrapF k n = k.wrap n := by
  unfold wrapF
  split
  · rename_i m
    split
    · rename_i h
      have := blt_true.1 h
      exact (wrap_in k _ (.inl ⟨Int.natCast_nonneg m, by simpa using this⟩)).symm
    · rfl
  · rename_i m
    split
    · rename_i hs
      split
      · rename_i h
        have := blt_true.1 h
        refine (wrap_in k _ (.inr ⟨hs, Int.negSucc_lt_zero m, ?_⟩)).symm
        rw [Int.negSucc_eq]; omega
      · rfl
    · rfl
def intBin (op : BinOp) (k : IntKind) (a b : Int) : Option Value :=
  match op with
  | .add => some (.int k (wrapF k (a + b)))
  | .sub => some (.int k (wrapF k (a - b)))
  | .mul => some (.int k (wrapF k (a * b)))
  | .eql => some (.bool (a == b))
  | .neq => some (.bool (a != b))
  | .lss => some (.bool (decide (a < b)))
  | .leq => some (.bool (decide (a ≤ b)))
  | .gtr => some (.bool (decide (a > b)))
  | .geq => some (.bool (decide (a ≥ b)))
  | _ => none
def aBin (op : BinOp) (x y : Value) : Option Value :=
  match x, y with
  | .int k a, .int l b => match Nat.beq (kN k) (kN l) with
    | true => intBin op k a b
    | false => none
  | _, _ => none
theorem aBin_ok {op : BinOp} {t : TypeId} {X Y : Operand} {x y v : Value} (h : aBin op x y = some v) :
    (do eqGuard op t X Y x y; binOp op t x y : Sem Value).run P w = .ok v w ∧ flat v = true ∧ flat x = true ∧ flat y = true := by
  unfold aBin at h
  split at h
  · rename_i k a l b
    split at h
    · rename_i hk
      have := kN_inj hk; subst this
      have hg : (eqGuard op t X Y (.int k a) (.int k b)).run P w = .ok () w := by
        cases op <;> simp [eqGuard]
      cases op <;> simp only [intBin, reduceCtorEq, Option.some.injEq] at h <;> subst h <;> refine ⟨?_, rfl, rfl, rfl⟩ <;> rw [Sem.run_bind, hg] <;> simp [binOp, Op.intArith, Op.intCmp, wrapF_eq]
    · cases h
  · cases h
def notB : Value → Option Value
  | .bool true => some (.bool false)
  | .bool false => some (.bool true)
  | _ => none
def aConv (P : Program) (src dst : TypeId) (x : Value) : Option Value :=
  match x with
  | .int _ n => match P.underlying src, P.underlying dst with
    | some _, some (.int k) => some (.int k (wrapF k n))
    | _, _ => none
  | _ => none
theorem aConv_ok {src dst : TypeId} {x v : Value} (h : aConv P src dst x = some v) : (convert src dst x).run P w = .ok v w ∧ flat v = true ∧ flat x = true := by
  unfold aConv at h
  split at h
  · split at h
    · rename_i n d k hs hd
      simp only [Option.some.injEq] at h; subst h
      refine ⟨?_, rfl, rfl⟩
      simp [convert, run_underlying hs, run_underlying hd, Conv.intToInt, wrapF_eq]
    · cases h
  · cases h

def roOf (ev : Operand → Value) (x : Option Operand) : Option Value := x.map ev
def notSel : Op → Bool
  | .select .. => false
  | _ => true
def aGen (P : Program) (ev : Operand → Value) (o : Oper) : Option Value :=
  if o.op.operands.toList.all (fun x => flat (ev x)) && notSel o.op then
    match semPure P (execOp ev o) with
    | some (.value v) => if flat v then some v else none
    | _ => none
  else none
/-- what only reads -/
def aSpec (P : Program) (H : Hp) (ev : Operand → Value) (op : Op) : Option Value :=
  match op with
  | .move x | .assign x => some (ev x)
  | .pick c a b => match ev c with
    | .bool true => some (ev a)
    | .bool false => some (ev b)
    | _ => none
  | .build t parts => aBuild P t (parts.toList.map fun p => (p.1, ev p.2))
  | .load t a => aLoad P H t (ev a)
  | .nilCheck x => match ev x with
    | .pointer (some ⟨i, o, none⟩) => some (.pointer (some ⟨i, o, none⟩))
    | .slice (some ⟨i, o, sp⟩) n c => some (.slice (some ⟨i, o, sp⟩) n c)
    | .func (.func f) a b => some (.func (.func f) a b)
    | _ => none
  | .fieldAddr s x f => aFieldAddr P s (ev x) f
  | .indexAddr t x i => aIndexAddr P t (ev x) (ev i)
  | .slice t x lo hi none => aSlice P H t (ev x) (roOf ev lo) (roOf ev hi)
  | .slice t x lo hi (some m) => aSlice3 P t (ev x) (roOf ev lo) (roOf ev hi) (some (ev m))
  | .field t x f => aField P t (ev x) f
  | .index t x i => aIndex P t (ev x) (ev i)
  | .extract t i => aExtract (ev t) i
  | .makeFunc fn a b => if (a.toList.all fun x => isRa (ev x)) && (b.toList.all fun x => isRa (ev x)) then some (.func fn (a.toList.map ev).toArray (b.toList.map ev).toArray) else none
  | .binOp op t x y _ => match aBin op (ev x) (ev y) with
    | some v => some v
    | none => match op with
      | .eql => (aEqB P t (ev x) (ev y)).map fun b => .bool b
      | .neq => (aEqB P t (ev x) (ev y)).map fun b => .bool !b
      | _ => none
  | .unOp .not _ x => notB (ev x)
  | .convert s d x => aConv P s d (ev x)
  | .call c => match c.callee, c.argTypes.toList, c.args.toList with
    | .builtin .len, [t], [x] => aLen P t (ev x)
    | _, _, _ => none
  | _ => none
def aQ (P : Program) (H : Hp) (tm : Fr) (o : Oper) : Option Value :=
  match aSpec P H (evT tm) o.op with
  | some v => some v
  | none => aGen P (evT tm) o
def isLoud : Op → Bool
  | .alloc _ | .box .. | .buildSlice .. | .store .. | .makeSlice .. => true
  | .call c => match c.callee with
    | .builtin .append | .builtin .copy => true
    | .builtin _ => false
    | _ => true
  | _ => false
/-- a function without a body here: the model's own answer -/
def aExt (P : Program) (H : Hp) (g : FuncId) (args : List Value) : Option AR :=
  match args.all flat with
  | true => match semPure P (callFunc g args.toArray) with
    | some (.value v) => match flat v with
      | true => some (.val v H)
      | false => none
    | _ => none
  | false => none
/-- what changes something -/
def aL (P : Program) (N0 : Nat) (H : Hp) (at_ : Nat) (ev : Operand → Value) (op : Op) : Option AR :=
  match op with
  | .alloc e => match zeroB P e with
    | some z => if flat z then (aNew P H at_ e z).map fun r => .val r.1 r.2 else none
    | none => none
  | .box e x => (aNew P H at_ e (ev x)).map fun r => .val r.1 r.2
  | .buildSlice t n parts => (aBuildSlice P H at_ t n (parts.toList.map fun p => (p.1, ev p.2))).map fun r => .val r.1 r.2
  | .store t a x => (aStore P N0 H t (ev a) (ev x)).map (.val undef ·)
  | .makeSlice t l c => (aMake P H at_ t (ev l) (ev c)).map fun r => .val r.1 r.2
  | .call c => match c.callee with
    | .value f => match ev f with
      | .func (.func g) first cap => match isFn P g with
        | true => some (.enter g (first.toList ++ c.args.toList.map ev ++ cap.toList))
        | false => aExt P H g (first.toList ++ c.args.toList.map ev ++ cap.toList)
      | _ => none
    | .builtin b => match b, c.argTypes.toList, c.args.toList with
      | .append, [t, t'], [s, x] => if t = t' then (aAppend P N0 H at_ t (ev s) (ev x)).map fun r => .val r.1 r.2 else none
      | .copy, [t, _], [d, x] => (aCopy P N0 H t (ev d) (ev x)).map fun r => .val r.1 r.2
      | _, _, _ => none
    | _ => none
  | _ => none
def aOp (P : Program) (N0 : Nat) (H : Hp) (at_ : Nat) (tm : Fr) (o : Oper) : Option AR :=
  match isLoud o.op with
  | true => aL P N0 H at_ (evT tm) o.op
  | false => match aQ P H tm o with
    | some v => some (.val v H)
    | none => none

def OpR (P : Program) (N0 : Nat) (w0 : World) (β : Bs) (w : World) (r : AR) (res : Result Next) : Prop :=
  match r with
  | .val v H' => ∃ v' w' β', (res = .ok (.value v') w' ∨ (res = .ok .skip w' ∧ v' = undef)) ∧ Ext β β' ∧ RV β' v v' ∧ HS N0 w0 β' H' w'
  | .enter f args => ∃ args', All2 (RV β) args args' ∧ isFn P f = true ∧ res = .ok (.enter f args'.toArray) w
def namesOk (P : Program) : Bool := P.funcs.toList.all fun fn => !(fn.name == "runtime.NumGoroutine")
theorem run_callFunc_ok (hn : namesOk P = true) {f : FuncId} (hf : isFn P f = true) (args : Array Value) : (callFunc f args).run P w = .ok (.enter f args) w := by
  unfold isFn at hf
  cases h : P.funcs[f]? with
  | none => rw [h] at hf; cases hf
  | some fn =>
    rw [h] at hf
    have hname : (fn.name == "runtime.NumGoroutine") = false := by
      have := List.all_eq_true.1 hn fn (by have := Array.mem_of_getElem? h; simpa using this)
      simpa using this
    have hb : fn.body.isNone = false := by cases hb : fn.body <;> simp_all
    have h1 : fn.name ≠ "runtime.NumGoroutine" := by simpa using hname
    have h2 : ¬ fn.body = none := by intro e; rw [e] at hb; cases hb
    simp [callFunc, h, h1, h2]
theorem parts_ok {ev ρ : Operand → Value} {parts : Array (Nat × Operand)} (h : ∀ p ∈ parts.toList, RV β (ev p.2) (ρ p.2)) :
    AllP β (parts.toList.map fun p => (p.1, ev p.2)) (parts.map fun (i, x) => (i, ρ x)).toList := by
  rw [Array.toList_map]
  exact All2.map fun p hp => ⟨rfl, h p hp⟩
theorem ro_ok {ev ρ : Operand → Value} {x : Option Operand} (h : ∀ y, x = some y → RV β (ev y) (ρ y)) : RO β (roOf ev x) (x.map ρ) := by
  cases x with
  | none => exact .no
  | some y => exact .so (h y rfl)

/-- a value, and the world as it was -/
def QR (P : Program) (β : Bs) (w : World) (v : Value) (res : Result Next) : Prop := ∃ v', res = .ok (.value v') w ∧ RV β v v'
theorem aSpec_ok {ev ρ : Operand → Value} {o : Oper} {v : Value} (h : aSpec P H ev o.op = some v) (hev : ∀ x ∈ o.op.operands, RV β (ev x) (ρ x)) (hs : HR N0 β H w) :
    QR P β w v ((execOp ρ o).run P w) := by
  obtain ⟨dst, op, ty, pos, after, guard⟩ := o
  simp only at h hev
  unfold aSpec at h
  split at h
  · rename_i x
    cases h
    exact ⟨ρ x, rfl, hev x (by simp [Op.operands])⟩
  · rename_i x
    cases h
    exact ⟨ρ x, rfl, hev x (by simp [Op.operands])⟩
  · rename_i c a b
    have hc := hev c (by simp [Op.operands])
    split at h
    · rename_i ht
      cases h
      rw [ht] at hc
      have hc := hc.bool_inv
      exact ⟨ρ a, by simp [execOp, hc, asBool], hev a (by simp [Op.operands])⟩
    · rename_i ht
      cases h
      rw [ht] at hc
      have hc := hc.bool_inv
      exact ⟨ρ b, by simp [execOp, hc, asBool], hev b (by simp [Op.operands])⟩
    · cases h
  · rename_i t parts
    obtain ⟨u', h1, h2⟩ := aBuild_ok (w := w) h (parts_ok (ρ := ρ) fun p hp => hev p.2 (by simp only [Op.operands]; simp; exact ⟨p.1, by simpa using hp⟩))
    exact ⟨u', by simp only [execOp, Sem.run_bind, h1]; rfl, h2⟩
  · rename_i t a
    obtain ⟨u', h1, h2⟩ := aLoad_ok h (hev a (by simp [Op.operands])) hs
    exact ⟨u', by simp [execOp, h1], h2⟩
  · rename_i x
    have hx := hev x (by simp [Op.operands])
    split at h
    · rename_i i o hq
      cases h
      rw [hq] at hx
      obtain ⟨b, xx, hb, he⟩ := hx.ptr_inv
      exact ⟨ρ x, by simp [execOp, he], hx⟩
    · rename_i i o sp n c hq
      cases h
      rw [hq] at hx
      obtain ⟨b, xx, hb, he⟩ := hx.slp_inv
      exact ⟨ρ x, by simp [execOp, he], hx⟩
    · rename_i f a b hq
      cases h
      rw [hq] at hx
      obtain ⟨f', c', _, _, he⟩ := hx.func_inv
      exact ⟨ρ x, by simp [execOp, he], hx⟩
    · cases h
  · rename_i s x f
    obtain ⟨u', h1, h2⟩ := aFieldAddr_ok (w := w) h (hev x (by simp [Op.operands]))
    exact ⟨u', by simp [execOp, h1], h2⟩
  · rename_i t x i
    obtain ⟨u', h1, h2⟩ := aIndexAddr_ok (w := w) h (hev x (by simp [Op.operands])) (hev i (by simp [Op.operands]))
    exact ⟨u', by simp [execOp, h1], h2⟩
  · rename_i t x lo hi
    obtain ⟨u', h1, h2⟩ := aSlice_ok h (hev x (by simp [Op.operands])) (ro_ok (ρ := ρ) fun y e => hev y (by subst e; simp [Op.operands])) (ro_ok (ρ := ρ) fun y e => hev y (by subst e; simp [Op.operands])) hs
    exact ⟨u', by simp [execOp, h1], h2⟩
  · rename_i t x lo hi m
    obtain ⟨u', h1, h2⟩ := aSlice3_ok (w := w) h (hev x (by simp [Op.operands])) (ro_ok (ρ := ρ) fun y e => hev y (by subst e; simp [Op.operands])) (ro_ok (ρ := ρ) fun y e => hev y (by subst e; simp [Op.operands])) (.so (hev m (by simp [Op.operands])))
    exact ⟨u', by simp [execOp, h1], h2⟩
  · rename_i t x f
    obtain ⟨u', h1, h2⟩ := aField_ok (w := w) h (hev x (by simp [Op.operands]))
    exact ⟨u', by simp [execOp, h1], h2⟩
  · rename_i t x i
    obtain ⟨u', h1, h2⟩ := aIndex_ok (w := w) h (hev x (by simp [Op.operands])) (hev i (by simp [Op.operands]))
    exact ⟨u', by simp [execOp, h1], h2⟩
  · rename_i t i
    obtain ⟨u', h1, h2⟩ := aExtract_ok (P := P) (w := w) h (hev t (by simp [Op.operands]))
    exact ⟨u', by simp [execOp, h1], h2⟩
  · rename_i fn a b
    split at h
    · rename_i hc
      cases h
      simp only [Bool.and_eq_true, List.all_eq_true] at hc
      refine ⟨.func fn (a.toList.map ρ).toArray (b.toList.map ρ).toArray, by simp [execOp, Instr.makeFunc]; exact ⟨by rw [← Array.toList_map], by rw [← Array.toList_map]⟩, ?_⟩
      exact .one (.base (.func (All2.map fun x hx => Ra_of (hev x (by simp [Op.operands]; exact .inl (by simpa using hx))) (hc.1 x hx)) (All2.map fun x hx => Ra_of (hev x (by simp [Op.operands]; exact .inr (by simpa using hx))) (hc.2 x hx))))
    · cases h
  · rename_i bop t x y yt
    have hx := hev x (by simp [Op.operands])
    have hy := hev y (by simp [Op.operands])
    split at h
    · rename_i u hu
      cases h
      obtain ⟨h1, h2, h3, h4⟩ := aBin_ok (P := P) (w := w) (t := t) (X := x) (Y := y) hu
      have ex := hx.eq_flat h3
      have ey := hy.eq_flat h4
      refine ⟨v, ?_, .of_flat h2⟩
      have hrun : (execOp ρ { dst := dst, op := .binOp bop t x y yt, type := ty, pos := pos, after := after, guard := guard }).run P w =
          ((do eqGuard bop t x y (ρ x) (ρ y); binOp bop t (ρ x) (ρ y) : Sem Value).run P w).andThen fun a w => .ok (.value a) w := by
        simp [execOp]
        cases Sem.run P (eqGuard bop t x y (ρ x) (ρ y)) w <;> rfl
      rw [hrun, ex, ey, h1]; rfl
    · split at h
      · simp only [Option.map_eq_some_iff] at h
        obtain ⟨u, hu, rfl⟩ := h
        obtain ⟨h1, h2, h3⟩ := aEqB_ok (P := P) (w := w) hu hx hy
        exact ⟨.bool u, by simp [execOp, h1 _ x y (.inl rfl), h2], .of_flat rfl⟩
      · simp only [Option.map_eq_some_iff] at h
        obtain ⟨u, hu, rfl⟩ := h
        obtain ⟨h1, h2, h3⟩ := aEqB_ok (P := P) (w := w) hu hx hy
        exact ⟨.bool !u, by simp [execOp, h1 _ x y (.inr rfl), h3], .of_flat rfl⟩
      · cases h
  · rename_i t x
    have hx := hev x (by simp [Op.operands])
    unfold notB at h
    split at h
    · rename_i hq
      cases h
      rw [hq] at hx
      exact ⟨.bool false, by simp [execOp, Op.unary, hx.bool_inv], .of_flat rfl⟩
    · rename_i hq
      cases h
      rw [hq] at hx
      exact ⟨.bool true, by simp [execOp, Op.unary, hx.bool_inv], .of_flat rfl⟩
    · cases h
  · rename_i s d x
    obtain ⟨h1, h2, h3⟩ := aConv_ok (P := P) (w := w) h
    have ex := (hev x (by simp [Op.operands])).eq_flat h3
    exact ⟨v, by simp only [execOp, Sem.run_bind, ex, h1]; rfl, .of_flat h2⟩
  · rename_i c
    obtain ⟨callee, args, argTypes⟩ := c
    split at h
    · rename_i t x hcal hat har
      simp only at hcal; subst hcal
      have e1 : argTypes = #[t] := by apply Array.ext'; exact hat
      have e2 : args = #[x] := by apply Array.ext'; exact har
      subst e1; subst e2
      obtain ⟨h1, h2⟩ := aLen_ok (P := P) (w := w) (ty := ty) h (hev x (by simp [Op.operands, Call.operands]))
      exact ⟨v, by simp [execOp, resolve, invoke, builtin, h1], h2⟩
    · cases h
  · cases h
theorem aGen_ok {ev ρ : Operand → Value} {o : Oper} {v : Value} (h : aGen P ev o = some v) (hev : ∀ x ∈ o.op.operands, RV β (ev x) (ρ x)) : QR P β w v ((execOp ρ o).run P w) := by
  unfold aGen at h
  split at h
  · rename_i hc
    simp only [Bool.and_eq_true, List.all_eq_true] at hc
    obtain ⟨h1, h2⟩ := hc
    have he : execOp ρ o = execOp ev o := execOp_congr o (by intro cs b e; rw [e] at h2; cases h2) fun x hx => (hev x hx).eq_flat (h1 x (by simpa using hx))
    split at h
    · rename_i u hv
      split at h
      · rename_i hf
        cases h
        exact ⟨v, by rw [he]; exact semPure_ok hv, .of_flat hf⟩
      · cases h
    · cases h
  · cases h

/-- tmps -/
def Tm (β : Bs) (tm : Fr) (a : Act) : Prop := (∀ t, RV β (tm.get t) (a.tmps.getD t undef)) ∧ a.defers = [] ∧ ∀ t, tm.has t ↔ t < a.tmps.size
theorem evT_ok {tm : Fr} {a : Act} (ht : Tm β tm a) (hs : HR N0 β H w) {x : Operand} (hx : okOp N0 x = true) : RV β (evT tm x) (a.eval x) := by
  cases x with
  | tmp t => exact ht.1 t
  | const v => exact .of_flat hx
  | global g => exact .one (.base (.ptr (hs.glob g (blt_true.1 hx))))
  | func f => exact .of_flat rfl
def opOk (N0 : Nat) (o : Oper) : Bool := o.op.operands.toList.all (okOp N0)
theorem opOk_ev {tm : Fr} {a : Act} {o : Oper} (hok : opOk N0 o = true) (ht : Tm β tm a) (hs : HR N0 β H w) : ∀ x ∈ o.op.operands, RV β (evT tm x) (a.eval x) :=
  fun x hx => evT_ok ht hs (List.all_eq_true.1 hok x (by simpa using hx))
theorem aQ_ok {tm : Fr} {a : Act} {o : Oper} {v : Value} (hok : opOk N0 o = true) (h : aQ P H tm o = some v) (ht : Tm β tm a) (hs : HR N0 β H w) : QR P β w v ((execOp a.eval o).run P w) := by
  unfold aQ at h
  split at h
  · rename_i u hu
    cases h
    exact aSpec_ok hu (opOk_ev hok ht hs) hs
  · exact aGen_ok h (opOk_ev hok ht hs)
theorem aL_ok (hn : namesOk P = true) {ev ρ : Operand → Value} {o : Oper} {r : AR} {at_ : Nat} (h : aL P N0 H at_ ev o.op = some r) (hev : ∀ x ∈ o.op.operands, RV β (ev x) (ρ x)) (hs : HS N0 w0 β H w) :
    OpR P N0 w0 β w r ((execOp ρ o).run P w) := by
  obtain ⟨dst, op, ty, pos, after, guard⟩ := o
  simp only at h hev
  unfold aL at h
  split at h
  · rename_i e
    split at h
    · rename_i z hz
      split at h
      · rename_i hf
        simp only [Option.map_eq_some_iff] at h
        obtain ⟨⟨u, H'⟩, hu, rfl⟩ := h
        obtain ⟨a, w', β', h1, h2, h3, h4⟩ := aNew_ok hu (RV.of_flat hf) hs
        exact ⟨_, w', β', .inl (by simp [execOp, Instr.alloc, run_zeroValue hz, h1]), h2, h3, h4⟩
      · cases h
    · cases h
  · rename_i e x
    simp only [Option.map_eq_some_iff] at h
    obtain ⟨⟨u, H'⟩, hu, rfl⟩ := h
    obtain ⟨a, w', β', h1, h2, h3, h4⟩ := aNew_ok hu (hev x (by simp [Op.operands])) hs
    exact ⟨_, w', β', .inl (by simp [execOp, Instr.box, h1]), h2, h3, h4⟩
  · rename_i t n parts
    simp only [Option.map_eq_some_iff] at h
    obtain ⟨⟨u, H'⟩, hu, rfl⟩ := h
    obtain ⟨u', w', β', h1, h2, h3, h4⟩ := aBuildSlice_ok hu (parts_ok (ρ := ρ) fun p hp => hev p.2 (by simp only [Op.operands]; simp; exact ⟨p.1, by simpa using hp⟩)) hs
    exact ⟨u', w', β', .inl (by simp only [execOp, Sem.run_bind, h1]; rfl), h2, h3, h4⟩
  · rename_i t a x
    simp only [Option.map_eq_some_iff] at h
    obtain ⟨H', hu, rfl⟩ := h
    obtain ⟨w', h1, h2⟩ := aStore_ok hu (hev a (by simp [Op.operands])) (hev x (by simp [Op.operands])) hs
    exact ⟨undef, w', β, .inr ⟨by simp [execOp, h1], rfl⟩, Ext.refl _, .undef, h2⟩
  · rename_i t l c
    simp only [Option.map_eq_some_iff] at h
    obtain ⟨⟨u, H'⟩, hu, rfl⟩ := h
    obtain ⟨u', w', β', h1, h2, h3, h4⟩ := aMake_ok hu (hev l (by simp [Op.operands])) (hev c (by simp [Op.operands])) hs
    exact ⟨u', w', β', .inl (by simp [execOp, h1]), h2, h3, h4⟩
  · rename_i c
    obtain ⟨callee, args, argTypes⟩ := c
    split at h
    · rename_i f hcal
      simp only at hcal; subst hcal
      split at h
      · rename_i g first cap hf
        have hf' := hev f (by simp [Op.operands, Call.operands])
        rw [hf] at hf'
        obtain ⟨f', c', q1, q2, he⟩ := hf'.func_inv
        have hargs : All2 (RV β) (args.toList.map ev) (args.toList.map ρ) := All2.map fun x hx => hev x (by simp [Op.operands, Call.operands]; exact .inr (by simpa using hx))
        have hall : All2 (RV β) (first.toList ++ args.toList.map ev ++ cap.toList) (f' ++ args.toList.map ρ ++ c') := ((q1.mono fun _ _ h => h.toRV).append hargs).append (q2.mono fun _ _ h => h.toRV)
        split at h
        · rename_i hfn
          cases h
          refine ⟨f' ++ args.toList.map ρ ++ c', hall, hfn, ?_⟩
          simp [execOp, resolve, Deferred.ofValue, he, invoke, run_callFunc_ok hn hfn]
        · unfold aExt at h
          split at h
          · rename_i hfl
            have hflat := List.all_eq_true.1 hfl
            have heq : f' ++ args.toList.map ρ ++ c' = first.toList ++ args.toList.map ev ++ cap.toList := hall.eq_of fun a b ha hr => hr.eq_flat (hflat a ha)
            split at h
            · rename_i u hu
              split at h
              · rename_i hfv
                cases h
                have hrun := semPure_ok (w := w) hu
                refine ⟨u, w, β, .inl ?_, Ext.refl _, .of_flat hfv, hs⟩
                rw [← heq] at hrun
                have e2 : (f' ++ args.toList.map ρ ++ c').toArray = f'.toArray ++ (args.map ρ ++ c'.toArray) := by
                  apply Array.ext'; simp
                rw [e2] at hrun
                simp [execOp, resolve, Deferred.ofValue, he, invoke, hrun]
              · cases h
            · cases h
          · cases h
      · cases h
    · rename_i b hcal
      simp only at hcal; subst hcal
      split at h
      · rename_i t t' s x hat har
        split at h
        · rename_i htt
          subst htt
          simp only [Option.map_eq_some_iff] at h
          obtain ⟨⟨u, H'⟩, hu, rfl⟩ := h
          have e1 : argTypes = #[t, t] := by apply Array.ext'; exact hat
          have e2 : args = #[s, x] := by apply Array.ext'; exact har
          subst e1; subst e2
          obtain ⟨u', w', β', h1, h2, h3, h4⟩ := aAppend_ok (ty := ty) hu (hev s (by simp [Op.operands, Call.operands])) (hev x (by simp [Op.operands, Call.operands])) hs
          exact ⟨u', w', β', .inl (by simp [execOp, resolve, invoke, builtin, h1]), h2, h3, h4⟩
        · cases h
      · rename_i t t2 d x hat har
        simp only [Option.map_eq_some_iff] at h
        obtain ⟨⟨u, H'⟩, hu, rfl⟩ := h
        have e1 : argTypes = #[t, t2] := by apply Array.ext'; exact hat
        have e2 : args = #[d, x] := by apply Array.ext'; exact har
        subst e1; subst e2
        obtain ⟨u', w', h1, h2, h3⟩ := aCopy_ok (ty := ty) (t2 := t2) hu (hev d (by simp [Op.operands, Call.operands])) (hev x (by simp [Op.operands, Call.operands])) hs
        exact ⟨u', w', β, .inl (by simp [execOp, resolve, invoke, builtin, h1]), Ext.refl _, h2, h3⟩
      · cases h
    · cases h
  · cases h
theorem aOp_ok (hn : namesOk P = true) {tm : Fr} {a : Act} {o : Oper} {r : AR} {at_ : Nat} (hok : opOk N0 o = true) (h : aOp P N0 H at_ tm o = some r) (ht : Tm β tm a) (hs : HS N0 w0 β H w) : OpR P N0 w0 β w r ((execOp a.eval o).run P w) := by
  unfold aOp at h
  split at h
  · exact aL_ok hn h (opOk_ev hok ht hs.toHR) hs
  · split at h
    · rename_i v hv
      cases h
      obtain ⟨v', h1, h2⟩ := aQ_ok hok hv ht hs.toHR
      exact ⟨v', w, β, .inl h1, Ext.refl _, h2, hs⟩
    · cases h
end
end Go.Proofs.Ytmmhoemddfncmaa
