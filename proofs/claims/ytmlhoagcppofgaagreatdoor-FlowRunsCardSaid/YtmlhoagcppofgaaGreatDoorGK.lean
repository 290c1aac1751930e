/- The document's memory: what was written last, where bytes lie, Load, Fetch. -/
import Derived.Test.YtmlhoagcppofgaaGreatDoorGJ
import Derived.Laws.AppendOwn
import Derived.Deep.AppendLies
import Derived.StillTailTactics
namespace Go.Proofs.YtmlhoagcppofgaaGreatDoor
open Go Go.RowKit
set_option linter.unusedVariables false

def cellsB : List (Nat × Nat) → List Value
  | [] => []
  | x :: l => .int .u32 (x.1 : Int) :: .int .u8 (x.2 : Int) :: cellsB l
theorem cellsB_len (l : List (Nat × Nat)) : (cellsB l).length = l.length * 2 := by
  induction l with
  | nil => rfl
  | cons x l ih => simp [cellsB, ih]; omega
theorem cellsB_append (l m : List (Nat × Nat)) : cellsB (l ++ m) = cellsB l ++ cellsB m := by
  induction l with
  | nil => rfl
  | cons x l ih => simp [cellsB, ih]
theorem cellsB_get {l : List (Nat × Nat)} {i : Nat} {x : Nat × Nat} (h : l[i]? = some x) : (cellsB l)[i * 2]? = some (.int .u32 (x.1 : Int)) ∧ (cellsB l)[i * 2 + 1]? = some (.int .u8 (x.2 : Int)) := by
  induction l generalizing i with
  | nil => simp at h
  | cons y l ih =>
    cases i with
    | zero => simp at h; subst h; simp [cellsB]
    | succ i =>
      simp at h
      obtain ⟨h1, h2⟩ := ih h
      rw [show (i + 1) * 2 = i * 2 + 1 + 1 by omega]
      simp [cellsB, h1, h2]
/-- bytes and addresses are such -/
def LogOk (L : List (Nat × Nat)) : Prop := ∀ x ∈ L, x.1 < 4294967296 ∧ x.2 < 256
theorem atL_lt {L : List (Nat × Nat)} (h : LogOk L) (a : Nat) : atL L a < 256 := by
  have key : ∀ (l : List (Nat × Nat)) (v : Nat), v < 256 → (∀ x ∈ l, x.2 < 256) → l.foldl (fun v x => if x.1 = a then x.2 else v) v < 256 := by
    intro l
    induction l with
    | nil => intro v hv _; exact hv
    | cons y l ih =>
      intro v hv hl
      refine ih _ ?_ fun x hx => hl x (by simp [hx])
      show (if y.1 = a then y.2 else v) < 256
      split
      · exact hl y (by simp)
      · exact hv
  exact key L 0 (by omega) fun x hx => (h x hx).2
theorem atL_take {L : List (Nat × Nat)} {m : Nat} {x : Nat × Nat} (h : L[m]? = some x) (a : Nat) : atL (L.take (m + 1)) a = if x.1 = a then x.2 else atL (L.take m) a := by
  rw [List.take_add_one, h]
  exact atL_snoc _ _ _

/-- where the document's memory may change -/
def RS (X : Nat) (v : Value) (j : Nat) : Prop := j = X ∨ v.ownBlock = some j
/-- the row is the elder one, or new -/
def Fresh (v v' : Value) (W : World) : Prop := ∀ j, v'.ownBlock = some j → v.ownBlock = some j ∨ W.heap.size ≤ j
theorem Fresh.refl (v : Value) (W : World) : Fresh v v W := fun _ h => .inl h
theorem Fresh.trans {v v' v'' : Value} {W a : World} (h : Fresh v v' W) (k : Fresh v' v'' a) (hs : W.heap.size ≤ a.heap.size) : Fresh v v'' W := fun j hj => by
  rcases k j hj with g | g
  · exact h j g
  · exact .inr (Nat.le_trans hs g)
theorem Out.chain {X : Nat} {v v' : Value} {W a b : World} (h : Out (RS X v) W a) (hf : Fresh v v' W) (k : Out (RS X v') a b) : Out (RS X v) W b :=
  ⟨k.os.trans h.os, k.tape.trans h.tape, k.output.trans h.output, Nat.le_trans h.size k.size, fun j hj hs => (k.block j (Nat.lt_of_lt_of_le hj h.size) fun g => by
    rcases g with g | g
    · exact hs (.inl g)
    · rcases hf j g with e | e
      · exact hs (.inr e)
      · omega).trans (h.block j hj hs)⟩
/-- a memory of the document -/
structure RefIs (X B f n1 r n2 : Nat) (L : List (Nat × Nat)) (v : Value) (W : World) : Prop where
  c0 : W.cell? ⟨X, 0, none⟩ = some (.int .u32 (f : Nat))
  c1 : W.cell? ⟨X, 1, none⟩ = some (.int .u32 (n1 : Nat))
  c2 : W.cell? ⟨X, 2, none⟩ = some (.int .u32 (r : Nat))
  c3 : W.cell? ⟨X, 3, none⟩ = some (.int .u32 (n2 : Nat))
  c4 : W.cell? ⟨X, 4, none⟩ = some v
  fz : W.frozen? ⟨X, 4, none⟩ = false
  own : W.ownsRow B 88 2 v L.length (cellsB L)
  ok : LogOk L
  hx : v.ownBlock ≠ some X
  lt : X < W.heap.size
  bs : B ≤ W.heap.size
  small : L.length ≤ 1000000
theorem RefIs.like {X B f n1 r n2 : Nat} {L : List (Nat × Nat)} {v : Value} {W W' : World} (h : RefIs X B f n1 r n2 L v W) (hl : LikeG W W') : RefIs X B f n1 r n2 L v W' :=
  { c0 := (hl.cell _).trans h.c0, c1 := (hl.cell _).trans h.c1, c2 := (hl.cell _).trans h.c2, c3 := (hl.cell _).trans h.c3, c4 := (hl.cell _).trans h.c4
    fz := by have := h.fz; unfold World.frozen? at *; rw [hl.1]; exact this
    own := hl.row (x := 0) h.own, ok := h.ok, hx := h.hx, lt := by rw [hl.1]; exact h.lt, bs := by rw [hl.1]; exact h.bs, small := h.small }
theorem ret_u8G {a b : Int} (h : a = b) : Ending.returned (.int .u8 a) = .returned (.int .u8 b) := by rw [h]
theorem ret_boolG {a b : Bool} (h : a = b) : Ending.returned (.bool a) = .returned (.bool b) := by rw [h]
/-- what lies where -/
theorem in_any (f n a k : Nat) (W : World) (hf : f < 4294967296) (hn : n < 4294967296) (ha : a < 4294967296) (hk : k < 9223372036854775808) :
    Calls Tryz.prog 56 #[.int .u32 (f : Nat), .int .u32 (n : Nat), .int .u32 (a : Nat), .int .i64 (k : Nat)] W fun e w' => e = .returned (.bool (inB f n a k)) ∧ W = w' := by
  by_cases h1 : f ≤ a
  · have t1 : decide (f ≤ a) = true := by simp; omega
    by_cases h2 : a + k ≤ f + n
    · have t2 : decide ((k : Int) ≤ (f : Int) + (n : Int) - (a : Int)) = true := by simp; omega
      have E : inB f n a k = true := decide_eq_true (by omega)
      rw [E]
      clear E h1 h2
      go_enter Tryz.func56, Tryz.ntmps56
      go_wp2
      all_goals go_ret
      all_goals first | exact ⟨rfl, rfl⟩ | exact ⟨ret_boolG t2, rfl⟩
    · have t2 : decide ((k : Int) ≤ (f : Int) + (n : Int) - (a : Int)) = false := by simp; omega
      have E : inB f n a k = false := decide_eq_false (by omega)
      rw [E]
      clear E h1 h2
      go_enter Tryz.func56, Tryz.ntmps56
      go_wp2
      all_goals go_ret
      all_goals first | exact ⟨rfl, rfl⟩ | exact ⟨ret_boolG t2, rfl⟩
  · have t1 : decide (f ≤ a) = false := by simp; omega
    have E : inB f n a k = false := decide_eq_false (by omega)
    rw [E]
    clear E h1
    go_enter Tryz.func56, Tryz.ntmps56
    go_wp2
    all_goals go_ret
    all_goals exact ⟨rfl, rfl⟩
def InG (f n a k : Nat) (b : Bool) : Prop := ∀ W, Calls Tryz.prog 56 #[.int .u32 (f : Nat), .int .u32 (n : Nat), .int .u32 (a : Nat), .int .i64 (k : Nat)] W fun e w' => e = .returned (.bool b) ∧ W = w'
theorem inG_q {f n a k : Nat} {b : Bool} (h : InG f n a k b) (w : World) (m : Nat) :
    Calls Tryz.prog 56 #[.int .u32 (f : Nat), .int .u32 (n : Nat), .int .u32 (a : Nat), .int .i64 (k : Nat)] (w.drewN m) fun e w' => e = .returned (.bool b) ∧ ∃ j, w' = w.drewN j :=
  (h _).mono fun e w' ⟨he, hm⟩ => ⟨he, m, hm.symm⟩
def BoolPost (W : World) (b : Bool) (e : Ending) (w' : World) : Prop := e = .returned (.bool b) ∧ LikeG W w'
theorem rflash_any {X B f n1 r n2 : Nat} {L : List (Nat × Nat)} {v : Value} {W : World} (h : RefIs X B f n1 r n2 L v W) (hf : f < 4294967296) (hn : n1 < 4294967296) (a k : Nat) (ha : a < 4294967296) (hk : k < 9223372036854775808) :
    Calls Tryz.prog 42 #[.pointer (some ⟨X, 0, none⟩), .int .u32 (a : Nat), .int .i64 (k : Nat)] W (BoolPost W (inB f n1 a k)) := by
  have c0 := h.c0
  have c1 := h.c1
  have HI := Lib.hid (show InG f n1 a k (inB f n1 a k) from fun W => in_any f n1 a k W hf hn ha hk)
  generalize inB f n1 a k = b at *
  clear h
  go_enter Tryz.func42, Tryz.ntmps42
  go_wp2
  go_quiet ((go_at_call 56; exact inG_q HI.out _ _))
  rename_i nq
  go_wp2
  go_ret
  exact ⟨rfl, .drewN _ _⟩
theorem rram_any {X B f n1 r n2 : Nat} {L : List (Nat × Nat)} {v : Value} {W : World} (h : RefIs X B f n1 r n2 L v W) (hf : r < 4294967296) (hn : n2 < 4294967296) (a k : Nat) (ha : a < 4294967296) (hk : k < 9223372036854775808) :
    Calls Tryz.prog 43 #[.pointer (some ⟨X, 0, none⟩), .int .u32 (a : Nat), .int .i64 (k : Nat)] W (BoolPost W (inB r n2 a k)) := by
  have c2 := h.c2
  have c3 := h.c3
  have HI := Lib.hid (show InG r n2 a k (inB r n2 a k) from fun W => in_any r n2 a k W hf hn ha hk)
  generalize inB r n2 a k = b at *
  clear h
  go_enter Tryz.func43, Tryz.ntmps43
  go_wp2
  go_quiet ((go_at_call 56; exact inG_q HI.out _ _))
  rename_i nq
  go_wp2
  go_ret
  exact ⟨rfl, .drewN _ _⟩
theorem has_any {X B f n1 r n2 : Nat} {L : List (Nat × Nat)} {v : Value} {W : World} (h : RefIs X B f n1 r n2 L v W) (hb : Banks f n1 r n2) (a k : Nat) (ha : a < 4294967296) (hk : k < 9223372036854775808) :
    Calls Tryz.prog 26 #[.pointer (some ⟨X, 0, none⟩), .int .u32 (a : Nat), .int .i64 (k : Nat)] W (BoolPost W (wIn f n1 r n2 a k)) := by
  have q1 := hb.a; have q2 := hb.b; have q3 := hb.c; have q4 := hb.d
  have HF := Lib.hid (rflash_any h (by omega) (by omega) a k ha hk)
  have HR := Lib.hid (fun W' (hl : LikeG W W') => rram_any (h.like hl) (by omega) (by omega) a k ha hk)
  have E := Lib.hid (show wIn f n1 r n2 a k = (inB f n1 a k || inB r n2 a k) from rfl)
  generalize wIn f n1 r n2 a k = c at *
  generalize inB f n1 a k = b1 at *
  generalize inB r n2 a k = b2 at *
  clear h hb
  cases b1
  · go_enter Tryz.func26, Tryz.ntmps26
    go_wp2_with fail
    refine HF.out.mono ?_
    rintro e w1 ⟨rfl, hl⟩
    go_wp2_with fail
    refine (HR.out _ hl).mono ?_
    rintro e w2 ⟨rfl, hl2⟩
    go_wp2_with fail
    go_ret
    exact ⟨by rw [E.out]; rfl, hl.trans hl2⟩
  · go_enter Tryz.func26, Tryz.ntmps26
    go_wp2_with fail
    refine HF.out.mono ?_
    rintro e w1 ⟨rfl, hl⟩
    go_wp2_with fail
    go_ret
    exact ⟨by rw [E.out]; rfl, hl⟩
theorem wordL_lt {L : List (Nat × Nat)} (h : LogOk L) (a n : Nat) : wordL L a n < 256 ^ n := by
  induction n generalizing a with
  | zero => simp [wordL]
  | succ n ih =>
    have := ih (a + 1)
    have := atL_lt h a
    simp only [wordL, Nat.pow_succ]
    omega
end Go.Proofs.YtmlhoagcppofgaaGreatDoor

namespace Go.Proofs.YtmlhoagcppofgaaGreatDoor
open Go Go.RowKit
set_option linter.unusedVariables false

/-- what the document's load tells -/
def loadR (f n1 r n2 : Nat) (L : List (Nat × Nat)) (a k : Nat) : Nat × Int := if a % k ≠ 0 then (0, 1) else if wIn f n1 r n2 a k then (wordL L a k, 0) else (0, 3)
def fetchR (f n1 r n2 : Nat) (L : List (Nat × Nat)) (a : Nat) : Nat × Int := if a % 4 ≠ 0 then (0, 1) else if wIn f n1 r n2 a 4 then (wordL L a 4, 0) else (0, 2)
theorem wIn_bd {f n1 r n2 a k : Nat} (hb : Banks f n1 r n2) (h : wIn f n1 r n2 a k = true) : a + k ≤ 4294967296 := by
  have := hb.a; have := hb.b
  unfold wIn inB at h
  simp only [Bool.or_eq_true, decide_eq_true_eq] at h
  omega
/-- both banks' bytes -/
theorem load_same {f r : Nat} {Fb Rb : List Nat} {L : List (Nat × Nat)} (h : Agree f r Fb Rb L) (a k : Nat) : loadR f Fb.length r Rb.length L a k = loadS f Fb.length r Rb.length Fb Rb a k := by
  unfold loadR loadS wIn
  by_cases h0 : a % k = 0
  · simp only [h0, ne_eq, not_true_eq_false, if_false]
    by_cases h1 : inB f Fb.length a k = true
    · have := inB_out h1
      simp only [h1, Bool.true_or, if_true]
      have := word_of (a := f) (o := a - f) k h.1 (by omega)
      rw [show f + (a - f) = a by omega] at this
      rw [this]; rfl
    · by_cases h2 : inB r Rb.length a k = true
      · have := inB_out h2
        simp only [h1, h2, Bool.or_true, if_true, Bool.false_eq_true, if_false]
        have := word_of (a := r) (o := a - r) k h.2 (by omega)
        rw [show r + (a - r) = a by omega] at this
        rw [this]; rfl
      · simp only [h1, h2, Bool.or_self, Bool.false_eq_true, if_false]
  · simp only [h0, ne_eq, not_false_eq_true, if_true]
theorem fetch_same {f r : Nat} {Fb Rb : List Nat} {L : List (Nat × Nat)} (h : Agree f r Fb Rb L) (a : Nat) : fetchR f Fb.length r Rb.length L a = fetchS f Fb.length r Rb.length Fb Rb a := by
  unfold fetchR fetchS wIn
  by_cases h0 : a % 4 = 0
  · simp only [h0, ne_eq, not_true_eq_false, if_false]
    by_cases h1 : inB f Fb.length a 4 = true
    · have := inB_out h1
      simp only [h1, Bool.true_or, if_true]
      have := word_of (a := f) (o := a - f) 4 h.1 (by omega)
      rw [show f + (a - f) = a by omega] at this
      rw [this]; rfl
    · by_cases h2 : inB r Rb.length a 4 = true
      · have := inB_out h2
        simp only [h1, h2, Bool.or_true, if_true, Bool.false_eq_true, if_false]
        have := word_of (a := r) (o := a - r) 4 h.2 (by omega)
        rw [show r + (a - r) = a by omega] at this
        rw [this]; rfl
      · simp only [h1, h2, Bool.or_self, Bool.false_eq_true, if_false]
  · simp only [h0, ne_eq, not_false_eq_true, if_true]

def HasIs (X : Nat) (a k : Nat) (b : Bool) (W : World) : Prop := Calls Tryz.prog 26 #[.pointer (some ⟨X, 0, none⟩), .int .u32 (a : Nat), .int .i64 (k : Nat)] W (BoolPost W b)
def RamIs (X : Nat) (a k : Nat) (b : Bool) (W : World) : Prop := Calls Tryz.prog 43 #[.pointer (some ⟨X, 0, none⟩), .int .u32 (a : Nat), .int .i64 (k : Nat)] W (BoolPost W b)
/-! Store -/
theorem info_byteR : (Tryz.prog.info? 88).map (fun i => (i.zero, i.size, i.bytes)) = some (some (.agg #[.int .u32 0, .int .u8 0]), 2, 8) := by kernel_rfl
theorem RefIs.out {X B f n1 r n2 : Nat} {L : List (Nat × Nat)} {v : Value} {S : Nat → Prop} {W W' : World} (h : RefIs X B f n1 r n2 L v W) (ho : Out S W W') (hX : ¬ S X) (hS : ∀ j, v.ownBlock = some j → ¬ S j) : RefIs X B f n1 r n2 L v W' :=
  { c0 := (ho.cell h.lt hX).trans h.c0, c1 := (ho.cell h.lt hX).trans h.c1, c2 := (ho.cell h.lt hX).trans h.c2, c3 := (ho.cell h.lt hX).trans h.c3, c4 := (ho.cell h.lt hX).trans h.c4
    fz := (World.frozen?_of_block (a := ⟨X, 4, none⟩) (ho.block X h.lt hX)).trans h.fz
    own := ho.row h.own hS
    ok := h.ok, hx := h.hx, lt := Nat.lt_of_lt_of_le h.lt ho.size, bs := Nat.le_trans h.bs ho.size, small := h.small }
theorem out_set (X k : Nat) (v : Value) (W : World) : Out (· = X) W (W.setCell ⟨X, k, none⟩ v) :=
  ⟨rfl, rfl, rfl, by rw [World.size_setCell]; exact Nat.le_refl _, fun i hi hne => Below.heap_setCell _ _ _ _ (fun e => hne e)⟩
/-- a byte more -/
theorem RefIs.more {X B f n1 r n2 g cap : Nat} {L : List (Nat × Nat)} {v : Value} {W V V' : World} {x : Nat × Nat} (h : RefIs X B f n1 r n2 L v W) (hV : Below W.heap.size W V) (hx : x.1 < 4294967296 ∧ x.2 < 256) (hs : L.length + 1 ≤ 1000000)
    (hown : V'.ownsRow B 88 2 (.slice (some ⟨g, 0, none⟩) (L.length + 1) cap) (L.length + 1) (cellsB L ++ [.int .u32 (x.1 : Int), .int .u8 (x.2 : Int)])) (hg : V.grownBy V' v.ownBlock) (hat : v.ownBlock = some g ∨ g = V.heap.size) :
    RefIs X B f n1 r n2 (L ++ [x]) (.slice (some ⟨g, 0, none⟩) (L.length + 1) cap) (V'.setCell ⟨X, 4, none⟩ (.slice (some ⟨g, 0, none⟩) (L.length + 1) cap)) ∧ Out (RS X v) W (V'.setCell ⟨X, 4, none⟩ (.slice (some ⟨g, 0, none⟩) (L.length + 1) cap)) ∧ Fresh v (.slice (some ⟨g, 0, none⟩) (L.length + 1) cap) W := by
  have hgX : g ≠ X := fun e => by
    subst e
    rcases hat with e | e
    · exact h.hx e
    · have := h.lt; have := hV.size; omega
  have hfr : Fresh v (.slice (some ⟨g, 0, none⟩) (L.length + 1) cap) W := fun j hj => by
    have : g = j := Option.some.inj hj
    subst this
    rcases hat with e | e
    · exact .inl e
    · exact .inr (by rw [e]; exact hV.size)
  generalize hv' : Value.slice (some ⟨g, 0, none⟩) (L.length + 1) cap = v' at *
  have hne : v'.ownBlock ≠ some X := fun e => by
    rw [← hv'] at e
    exact hgX (Option.some.inj e)
  have o1 : Out (RS X v) W V := .of_below _ hV
  have o2 : Out (RS X v) V V' := .of_grown hg fun k hk => .inr hk
  have o3 := (out_set X 4 v' V').mono (T := RS X v) fun j hj => .inl hj
  have cX : ∀ k, V'.cell? ⟨X, k, none⟩ = W.cell? ⟨X, k, none⟩ := fun k => by
    rw [World.cell?_of_block (a := ⟨X, k, none⟩) (hg.block X (Nat.lt_of_lt_of_le h.lt hV.size) fun e => h.hx e.symm)]
    exact hV.cell (p := ⟨X, k, none⟩) h.lt
  have sX : ∀ k, k ≠ 4 → (V'.setCell ⟨X, 4, none⟩ v').cell? ⟨X, k, none⟩ = V'.cell? ⟨X, k, none⟩ := fun k hk => by rw [World.cell?_setCell_other (h := fun e => hk (by injection e with _ e2 _; omega))]
  refine ⟨{ c0 := (sX 0 (by decide)).trans ((cX 0).trans h.c0), c1 := (sX 1 (by decide)).trans ((cX 1).trans h.c1), c2 := (sX 2 (by decide)).trans ((cX 2).trans h.c2), c3 := (sX 3 (by decide)).trans ((cX 3).trans h.c3)
            c4 := World.cell?_setCell_same _ _ _ ((cX 4).trans h.c4), fz := ?_, own := ?_, ok := ?_, hx := hne, lt := ?_, bs := ?_, small := by simp; omega }, (o1.trans o2).trans o3, hfr⟩
  · rw [World.frozen?_setCell]
    rw [World.frozen?_of_block (a := ⟨X, 4, none⟩) (hg.block X (Nat.lt_of_lt_of_le h.lt hV.size) fun e => h.hx e.symm)]
    exact (hV.frozen (p := ⟨X, 4, none⟩) h.lt).trans h.fz
  · have : (cellsB L ++ [Value.int .u32 (x.1 : Int), .int .u8 (x.2 : Int)]) = cellsB (L ++ [x]) := by rw [cellsB_append]; rfl
    rw [this] at hown
    rw [List.length_append]
    exact (out_set X 4 v' V').row hown fun j hj e => hne (by rw [hj]; exact congrArg some e)
  · intro y hy
    simp only [List.mem_append, List.mem_singleton] at hy
    rcases hy with hy | rfl
    · exact h.ok y hy
    · exact hx
  · rw [World.size_setCell]
    exact Nat.lt_of_lt_of_le h.lt (Nat.le_trans hV.size hg.size)
  · rw [World.size_setCell]
    exact Nat.le_trans h.bs (Nat.le_trans hV.size hg.size)
theorem lowB_get (k v m : Nat) (h : m < k) : (lowB k v)[m]? = some (v / 256 ^ m % 256) := by
  induction k generalizing v m with
  | zero => omega
  | succ k ih =>
    cases m with
    | zero => simp [lowB]
    | succ m => simp only [lowB, List.getElem?_cons_succ]; rw [ih _ _ (by omega), Nat.div_div_eq_div_mul, Nat.pow_succ, Nat.mul_comm 256]
theorem lowB_take (k v m : Nat) (h : m < k) : (lowB k v).take (m + 1) = (lowB k v).take m ++ [v / 256 ^ m % 256] := by
  rw [List.take_add_one, lowB_get k v m h]; rfl
theorem writes_take (L : List (Nat × Nat)) (a k v m : Nat) (h : m < k) : L ++ writes a ((lowB k v).take (m + 1)) = (L ++ writes a ((lowB k v).take m)) ++ [(a + m, v / 256 ^ m % 256)] := by
  rw [lowB_take k v m h, writes_snoc, List.append_assoc, List.length_take, lowB_length, Nat.min_eq_left (by omega)]
theorem news_two (W : World) (u1 u2 : Value) (t : TypeId) : ∀ j u, ([u1, u2] : List Value)[j]? = some u → (W.alloc (.cells #[u1, u2] t)).cell? ((⟨W.heap.size, 0, none⟩ : Addr).add j) = some u := by
  intro j u hj
  have e : (⟨W.heap.size, 0, none⟩ : Addr).add j = ⟨W.heap.size, j, none⟩ := by unfold Addr.add; split <;> simp_all
  rw [e, World.cell?_alloc_new]
  simpa using hj
theorem own_shape {W : World} {base size n : Nat} {t : TypeId} {v : Value} {xs : List Value} (h : W.ownsRow base t size v (n + 1) xs) : ∃ g cap, v = .slice (some ⟨g, 0, none⟩) (n + 1) cap := by
  rcases h.2 with ⟨_, h0⟩ | ⟨g, cap, cur, rfl, _⟩
  · omega
  · exact ⟨g, cap, rfl⟩
def StoreR (X B f n1 r n2 : Nat) (L : List (Nat × Nat)) (v : Value) (W : World) (z : Int) (e : Ending) (w' : World) : Prop := e = .returned (.int .i64 z) ∧ ∃ v', RefIs X B f n1 r n2 L v' w' ∧ Out (RS X v) W w' ∧ Fresh v v' W
end Go.Proofs.YtmlhoagcppofgaaGreatDoor

namespace Go.Proofs.YtmlhoagcppofgaaGreatDoor
open Go Go.RowKit
set_option linter.unusedVariables false

/-- what was written, behind a store -/
def logS (r n2 : Nat) (L : List (Nat × Nat)) (a k x : Nat) : List (Nat × Nat) := if storeS r n2 a k = 0 then L ++ writes a (lowB k x) else L
theorem agree_store {f r : Nat} {Fb Rb : List Nat} {L : List (Nat × Nat)} (h : Agree f r Fb Rb L) (hd : f + Fb.length ≤ r ∨ r + Rb.length ≤ f) (a k x : Nat) : Agree f r Fb (ramS r Rb.length Rb a k x) (logS r Rb.length L a k x) := by
  unfold ramS logS
  by_cases hz : storeS r Rb.length a k = 0
  · rw [if_pos hz, if_pos hz]
    have hi : inB r Rb.length a k = true := by
      unfold storeS at hz
      split at hz
      · cases hz
      · split at hz
        · assumption
        · cases hz
    have := inB_out hi
    have k1 := agree_ram h hd (a - r) (lowB k x) (by rw [lowB_length]; omega)
    rwa [show r + (a - r) = a by omega] at k1
  · rw [if_neg hz, if_neg hz]; exact h
theorem ramS_length (r : Nat) (Rb : List Nat) (a k x : Nat) : (ramS r Rb.length Rb a k x).length = Rb.length := by
  unfold ramS
  split
  · rename_i hz
    have hi : inB r Rb.length a k = true := by
      unfold storeS at hz
      split at hz
      · cases hz
      · split at hz
        · assumption
        · cases hz
    have := inB_out hi
    exact setB_length _ _ _ (by rw [lowB_length]; omega)
  · rfl
theorem logS_length (r n2 : Nat) (L : List (Nat × Nat)) (a k x : Nat) : (logS r n2 L a k x).length ≤ L.length + k := by
  unfold logS
  split
  · rw [List.length_append, writes_length, lowB_length]; exact Nat.le_refl _
  · omega

/-! noughts -/
def noughts (n : Nat) : List Nat := List.replicate n 0
theorem bytes_noughts (n o k : Nat) : bytesAt (noughts n) o k = 0 := by
  unfold bytesAt noughts
  rw [List.drop_replicate, List.take_replicate]
  induction (min k (n - o)) with
  | zero => rfl
  | succ m ih => rw [List.replicate_succ]; simp [numB, ih]
theorem low_noughts (k : Nat) : lowB k 0 = List.replicate k 0 := by
  induction k with
  | zero => rfl
  | succ k ih => simp [lowB, ih, List.replicate_succ]
theorem ram_noughts (r n a k : Nat) : ramS r n (noughts n) a k 0 = noughts n := by
  unfold ramS
  split
  · rename_i hz
    have hi : inB r n a k = true := by
      unfold storeS at hz
      split at hz
      · cases hz
      · split at hz
        · assumption
        · cases hz
    have := inB_out hi
    unfold setB noughts
    rw [low_noughts, List.length_replicate, List.take_replicate, List.drop_replicate, List.replicate_append_replicate, List.replicate_append_replicate]
    congr 1
    omega
  · rfl
/-- where the document's memory may change, all told -/
def RB (X B : Nat) (j : Nat) : Prop := j = X ∨ B ≤ j
/-- both memories, all of noughts -/
structure Pair (M F R X B f n1 r n2 cnt : Nat) (W : World) : Prop where
  m : MemIs M F R f r (noughts n1) (noughts n2) W
  x : ∃ L v, RefIs X B f n1 r n2 L v W ∧ Agree f r (noughts n1) (noughts n2) L ∧ L.length ≤ 4 * cnt
theorem Pair.like {M F R X B f n1 r n2 cnt : Nat} {W W' : World} (h : Pair M F R X B f n1 r n2 cnt W) (hl : LikeG W W') : Pair M F R X B f n1 r n2 cnt W' := by
  obtain ⟨L, v, k1, k2, k3⟩ := h.x
  exact ⟨h.m.like hl, L, v, k1.like hl, k2, k3⟩
def trapL (f n1 r n2 a k : Nat) : Int := if k = 1 ∨ k = 2 ∨ k = 4 then (loadS f n1 r n2 (noughts n1) (noughts n2) a k).2 else 3
def trapS (r n2 a k : Nat) : Int := if k = 1 ∨ k = 2 ∨ k = 4 then storeS r n2 a k else 4
theorem pair_load {M F R X B f n1 r n2 cnt : Nat} {W : World} (h : Pair M F R X B f n1 r n2 cnt W) (hb : Banks f n1 r n2) (a k : Nat) (ha : a < 4294967296) :
    Calls Tryz.prog 94 #[.pointer (some ⟨M, 0, none⟩), .int .u32 (a : Nat), .int .i64 (k : Nat)] W (LoadPost W 0 (trapL f n1 r n2 a k)) := by
  have l1 : (noughts n1).length = n1 := List.length_replicate ..
  have l2 : (noughts n2).length = n2 := List.length_replicate ..
  unfold trapL
  split
  · rename_i hk
    have := load_any h.m (by rw [l1, l2]; exact hb) a k ha hk
    rw [l1, l2] at this
    have e : (loadS f n1 r n2 (noughts n1) (noughts n2) a k).1 = 0 := by
      unfold loadS
      split
      · rfl
      · split
        · exact bytes_noughts _ _ _
        · split
          · exact bytes_noughts _ _ _
          · rfl
    rw [e] at this
    exact this
  · rename_i hk
    exact load_size M a k W (by omega)
theorem pair_store {M F R X B f n1 r n2 cnt : Nat} {W : World} (h : Pair M F R X B f n1 r n2 cnt W) (hb : Banks f n1 r n2) (hR : R < B) (hXR : X ≠ R) (a k : Nat) (ha : a < 4294967296) :
    Calls Tryz.prog 95 #[.pointer (some ⟨M, 0, none⟩), .int .u32 (a : Nat), .int .i64 (k : Nat), .int .u32 0] W fun e w' => e = .returned (.int .i64 (trapS r n2 a k)) ∧ Pair M F R X B f n1 r n2 cnt w' ∧ Out (· = R) W w' := by
  have l1 : (noughts n1).length = n1 := List.length_replicate ..
  have l2 : (noughts n2).length = n2 := List.length_replicate ..
  obtain ⟨L, v, k1, k2, k3⟩ := h.x
  unfold trapS
  split
  · rename_i hk
    have := store_any h.m (by rw [l1, l2]; exact hb) a k 0 ha hk (by omega)
    rw [l2, ram_noughts] at this
    refine this.mono ?_
    rintro e w' ⟨he, hm, ho⟩
    exact ⟨he, ⟨hm, L, v, k1.out ho hXR (fun j hj e => by have := (k1.own.lt j hj).1; omega), k2, k3⟩, ho⟩
  · rename_i hk
    refine (store_size M a k 0 W (by omega)).mono ?_
    rintro e w' ⟨he, hl⟩
    exact ⟨he, h.like hl, hl.out _⟩
end Go.Proofs.YtmlhoagcppofgaaGreatDoor

namespace Go.Proofs.YtmlhoagcppofgaaGreatDoor
open Go Go.RowKit
set_option linter.unusedVariables false
theorem writes_next (L : List (Nat × Nat)) (a : Nat) (bs : List Nat) (m b : Nat) (h : bs[m]? = some b) : L ++ writes a (bs.take (m + 1)) = (L ++ writes a (bs.take m)) ++ [(a + m, b)] := by
  have hlt := (List.getElem?_eq_some_iff.1 h).1
  rw [List.take_add_one, h]
  show L ++ writes a (bs.take m ++ [b]) = _
  rw [writes_snoc, List.append_assoc, List.length_take, Nat.min_eq_left (by omega)]
theorem wrap_in_u32 (n : Int) (h0 : 0 ≤ n) (h1 : n < 4294967296) : IntKind.u32.wrap n = n := by
  simp [IntKind.wrap, IntKind.bits, IntKind.signed]; omega
def PutR (X B f n1 r n2 : Nat) (L : List (Nat × Nat)) (v : Value) (W : World) (z : Bool) (e : Ending) (w' : World) : Prop := e = .returned (.bool z) ∧ ∃ v', RefIs X B f n1 r n2 L v' w' ∧ Out (RS X v) W w' ∧ Fresh v v' W
set_option maxRecDepth 100000 in
set_option maxHeartbeats 2000000 in
theorem rput_out {X B f n1 r n2 : Nat} {L : List (Nat × Nat)} {v : Value} {W : World} (h : RefIs X B f n1 r n2 L v W) (a n : Nat) (ad : Option Addr) (cc : Nat) (h0 : 0 < n) (hn : n < 9223372036854775808) (hw : HasIs X a n false W) :
    Calls Tryz.prog 14 #[.pointer (some ⟨X, 0, none⟩), .int .u32 (a : Nat), .slice ad n cc] W (PutR X B f n1 r n2 L v W false) := by
  have HW := Lib.hid hw
  have RI := Lib.hid (fun W' (hl : LikeG W W') => h.like hl)
  have t : decide (0 < n) = true := by simp; omega
  clear h hw
  go_enter Tryz.func14, Tryz.ntmps14
  go_wp2_with fail
  refine HW.out.mono ?_
  rintro e w1 ⟨rfl, hl⟩
  go_wp2_with fail
  go_ret
  exact ⟨rfl, v, RI.out _ hl, hl.out _, .refl _ _⟩
set_option maxRecDepth 100000 in
set_option maxHeartbeats 2000000 in
theorem rput_nil {X B f n1 r n2 : Nat} {L : List (Nat × Nat)} {v : Value} {W : World} (h : RefIs X B f n1 r n2 L v W) (a : Int) (ad : Option Addr) (cc : Nat) :
    Calls Tryz.prog 14 #[.pointer (some ⟨X, 0, none⟩), .int .u32 a, .slice ad 0 cc] W (PutR X B f n1 r n2 L v W true) := by
  have RI := Lib.hid h
  clear h
  go_enter Tryz.func14, Tryz.ntmps14
  go_wp2_with fail
  go_rounds 1
  go_ret
  exact ⟨rfl, v, RI.out, .refl _ _, .refl _ _⟩
set_option maxRecDepth 100000 in
set_option maxHeartbeats 2000000 in
theorem rput_in {X B f n1 r n2 : Nat} {L : List (Nat × Nat)} {v : Value} {W : World} (h : RefIs X B f n1 r n2 L v W) (a : Nat) (bs : List Nat) (b off cc : Nat) (h0 : 0 < bs.length) (hak : a + bs.length ≤ 4294967296) (h256 : ∀ x ∈ bs, x < 256) (hs : L.length + bs.length ≤ 1000000) (hw : HasIs X a bs.length true W)
    (src : ∀ j x, bs[j]? = some x → W.cell? ⟨b, off + j, none⟩ = some (.int .u8 (x : Nat))) (hbX : ¬ RS X v b) :
    Calls Tryz.prog 14 #[.pointer (some ⟨X, 0, none⟩), .int .u32 (a : Nat), .slice (some ⟨b, off, none⟩) bs.length cc] W (PutR X B f n1 r n2 (L ++ writes a bs) v W true) := by
  obtain ⟨i0, hi, hz0, hz1, hz2⟩ := info_parts info_byteR
  have HW := Lib.hid hw
  have RI := Lib.hid (fun W' (hl : LikeG W W') => h.like hl)
  have ha : a < 4294967296 := by omega
  have t : decide (0 < bs.length) = true := by simp; omega
  have HS := Lib.hid (show ∀ (W' : World), Out (RS X v) W W' → ∀ j x, bs[j]? = some x → W'.cell? ⟨b, off + j, none⟩ = some (.int .u8 (x : Nat)) from fun W' ho j x hj => (ho.cell (p := ⟨b, off + j, none⟩) (World.block_lt_of_cell? W _ (src j x hj)) hbX).trans (src j x hj))
  have H256 := Lib.hid h256
  clear h hw src hbX h256
  go_enter Tryz.func14, Tryz.ntmps14
  go_wp2_with fail
  refine HW.out.mono ?_
  rintro e w1 ⟨rfl, hl⟩
  have H1 := Lib.hid (RI.out _ hl)
  have O1 := Lib.hid (hl.out (RS X v))
  have F1 := Lib.hid (Fresh.refl v W)
  clear hl HW RI
  go_wp2_with fail
  go_loopw [7] (fun i wr => ∃ (m : Nat) (v' : Value), m ≤ bs.length ∧ i = .int .i64 m ∧ RefIs X B f n1 r n2 (L ++ writes a (bs.take m)) v' wr ∧ Out (RS X v) W wr ∧ Fresh v v' W) (fun i _ => bs.length - (intOf i).toNat)
  case atStart => exact ⟨0, v, by omega, rfl, by simpa [writes] using H1.out, O1.out, F1.out⟩
  case round =>
    obtain ⟨m, v', hm, rfl, hR, hO, hFr⟩ := hrel
    have HF := Lib.hid hFr
    clear hFr F1
    by_cases hlt : m < bs.length
    · have HR := Lib.hid hR
      have HO := Lib.hid hO
      have c4 := hR.c4
      have hlX := hR.lt
      obtain ⟨x, hx⟩ : ∃ x, bs[m]? = some x := ⟨bs[m], List.getElem?_eq_getElem hlt⟩
      have cx := HS.out wr hO m x hx
      have hx256 := H256.out x (List.mem_of_getElem? hx)
      have T := Lib.hid (writes_next L a bs m x hx)
      have hBw : B ≤ wr.heap.size := hR.bs
      have hln : (L ++ writes a (bs.take m)).length + 1 ≤ 1000000 := by
        rw [List.length_append, writes_length, List.length_take]; omega
      generalize hLL : L ++ writes a (bs.take m) = LL at *
      have OWN := Lib.hid (fun cs t => HR.out.own.alloc (.cells cs t))
      have FX := Lib.hid (show ∀ (W0 : World) (cs : Array Value) (t : TypeId) (w2 : World), W0.heap = wr.heap → (W0.alloc (.cells cs t)).grownBy w2 v'.ownBlock → w2.cell? ⟨X, 4, none⟩ = some v' ∧ w2.frozen? ⟨X, 4, none⟩ = false from fun W0 cs t w2 h0 hg => by
        have e := hg.block X (by simp [h0]; omega) fun e => HR.out.hx e.symm
        have e2 : w2.heap[X]? = wr.heap[X]? := by rw [← h0]; exact e.trans (heap_alloc_old _ _ (by rw [h0]; exact hlX))
        exact ⟨(World.cell?_of_block (a := ⟨X, 4, none⟩) e2).trans HR.out.c4, (World.frozen?_of_block (a := ⟨X, 4, none⟩) e2).trans HR.out.fz⟩)
      have MO := Lib.hid (show ∀ (W0 : World) (cs : Array Value) (t : TypeId) (w2 : World) (g cap : Nat), Below wr.heap.size wr W0 → W0.heap = wr.heap → (W0.alloc (.cells cs t)).grownBy w2 v'.ownBlock → w2.ownsRow B 88 2 (.slice (some ⟨g, 0, none⟩) (LL.length + 1) cap) (LL.length + 1) (cellsB LL ++ [.int .u32 ((a : Int) + (m : Int)), .int .u8 (x : Int)]) → (v'.ownBlock = some g ∨ g = wr.heap.size + 1) → _ from fun W0 cs t w2 g cap hb h0 hg ho ha =>
        HR.out.more (x := (a + m, x)) (g := g) (cap := cap) (V := W0.alloc (.cells cs t)) (hb.alloc (Nat.le_of_eq (by rw [h0])) (.cells cs t)) ⟨by show a + m < 4294967296; omega, hx256⟩ hln (by simpa using ho) hg (by rw [show (W0.alloc (.cells cs t)).heap.size = wr.heap.size + 1 by simp [h0]]; exact ha))
      have LEN := Lib.hid (show LL.length + 1 ≤ maxLen from Nat.le_trans hln (by decide))
      have BYT := Lib.hid (show (LL.length + 1) * 8 ≤ 140737488355328 by omega)
      have e1 : IntKind.u32.wrap (m : Int) = (m : Int) := wrap_in_u32 _ (by omega) (by omega)
      have e2 : IntKind.u32.wrap ((a : Int) + (m : Int)) = (a : Int) + (m : Int) := wrap_in_u32 _ (by omega) (by omega)
      clear hR hO H1 O1 hLL hx
      go_wp2_with fail
      go_region_law ((first
        | (refine step_append_lies _ (by rfl) _ _ _ (by rfl) B 88 i0 _ 2 8 Tryz.underlying50 hi hz0 hz1 hz2 rfl (by decide) v' LL.length (cellsB LL) (by rfl) ((OWN.out _ _).drew) ⟨wr.heap.size, 0, none⟩ 1 1 [.int .u32 ((a : Int) + (m : Int)), .int .u8 (x : Int)] (by rfl) (by rfl) (World.news_of_block (cs := #[.int .u32 ((a : Int) + (m : Int)), .int .u8 (x : Int)]) (t := 88) (fr := (0, 0)) (heap_alloc_new wr _)) (by simp [Value.oneCell']) (by decide) LEN.out BYT.out (by simp; omega) (wr.heap.size + 1) (by simp) ?_; intro g2 cap2 w2 hown hgd hat hlt2; have hg : (wr.alloc (.cells #[.int .u32 ((a : Int) + (m : Int)), .int .u8 (x : Int)] 88)).grownBy w2 v'.ownBlock := ⟨hgd.os, hgd.tape, hgd.output, hgd.size, hgd.block⟩; clear hgd; obtain ⟨d4, z4⟩ := FX.out wr _ _ w2 rfl hg; have HM := Lib.hid (MO.out wr _ _ w2 g2 cap2 (Below.refl _ _) rfl hg hown hat); clear hown hg hat hlt2)
        | (refine step_append_lies _ (by rfl) _ _ _ (by rfl) B 88 i0 _ 2 8 Tryz.underlying50 hi hz0 hz1 hz2 rfl (by decide) v' LL.length (cellsB LL) (by rfl) (OWN.out _ _) ⟨wr.heap.size, 0, none⟩ 1 1 [.int .u32 ((a : Int) + (m : Int)), .int .u8 (x : Int)] (by rfl) (by rfl) (World.news_of_block (cs := #[.int .u32 ((a : Int) + (m : Int)), .int .u8 (x : Int)]) (t := 88) (fr := (0, 0)) (heap_alloc_new wr _)) (by simp [Value.oneCell']) (by decide) LEN.out BYT.out (by simp; omega) (wr.heap.size + 1) (by simp) ?_; intro g2 cap2 w2 hown hg hat hlt2; obtain ⟨d4, z4⟩ := FX.out wr _ _ w2 rfl hg; have HM := Lib.hid (MO.out wr _ _ w2 g2 cap2 (Below.refl _ _) rfl hg hown hat); clear hown hg hat hlt2)))
      all_goals go_wp2
      all_goals go_roundw
      all_goals
        first
        | (obtain ⟨q1, q2, q3⟩ := HM.out
           exact ⟨m + 1, _, by omega, by go_num, by rw [T.out]; exact q1, HO.out.chain HF.out q2, HF.out.trans q3 HO.out.size⟩)
        | (simp [intOf]; done)
        | (simp [intOf]; omega)
    · obtain rfl : m = bs.length := by omega
      have HR := Lib.hid hR
      have HO := Lib.hid hO
      clear hR hO H1 O1 hlt
      go_wp2_with fail
      go_ret
      exact ⟨rfl, v', by have := HR.out; rwa [List.take_length] at this, HO.out, HF.out⟩
end Go.Proofs.YtmlhoagcppofgaaGreatDoor
