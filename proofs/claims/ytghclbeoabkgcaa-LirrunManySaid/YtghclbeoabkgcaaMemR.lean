/- The document's memory: what was written last, where bytes lie, Load, Fetch. -/
import Derived.Test.YtghclbeoabkgcaaMemH
namespace Go.Proofs.Ytghclbeoabkgcaa
open Go Go.RowKit
set_option linter.unusedVariables false

def cellsB : List (Nat × Nat) → List Value
  | [] => []
  | x :: l => .int .u32 (x.1 : Int) :: .int .u8 (x.2 : Int) :: cellsB l
theorem cellsB_len (l : List (Nat × Nat)) : (cellsB l).length = l.length * 2 := by
  induction l with
  | nil => rfl
  | cons x l ih => simp [cellsB, ih]; omega
theorem cellsB_append (l m : List (Nat × Nat)) : cellsB (l ++ m) = cellsB l ++ cellsB m := by
  induction l with
  | nil => rfl
  | cons x l ih => simp [cellsB, ih]
theorem cellsB_get {l : List (Nat × Nat)} {i : Nat} {x : Nat × Nat} (h : l[i]? = some x) : (cellsB l)[i * 2]? = some (.int .u32 (x.1 : Int)) ∧ (cellsB l)[i * 2 + 1]? = some (.int .u8 (x.2 : Int)) := by
  induction l generalizing i with
  | nil => simp at h
  | cons y l ih =>
    cases i with
    | zero => simp at h; subst h; simp [cellsB]
    | succ i =>
      simp at h
      obtain ⟨h1, h2⟩ := ih h
      rw [show (i + 1) * 2 = i * 2 + 1 + 1 by omega]
      simp [cellsB, h1, h2]
/-- bytes and addresses are such -/
def LogOk (L : List (Nat × Nat)) : Prop := ∀ x ∈ L, x.1 < 4294967296 ∧ x.2 < 256
theorem atL_lt {L : List (Nat × Nat)} (h : LogOk L) (a : Nat) : atL L a < 256 := by
  have key : ∀ (l : List (Nat × Nat)) (v : Nat), v < 256 → (∀ x ∈ l, x.2 < 256) → l.foldl (fun v x => if x.1 = a then x.2 else v) v < 256 := by
    intro l
    induction l with
    | nil => intro v hv _; exact hv
    | cons y l ih =>
      intro v hv hl
      refine ih _ ?_ fun x hx => hl x (by simp [hx])
      show (if y.1 = a then y.2 else v) < 256
      split
      · exact hl y (by simp)
      · exact hv
  exact key L 0 (by omega) fun x hx => (h x hx).2
theorem atL_take {L : List (Nat × Nat)} {m : Nat} {x : Nat × Nat} (h : L[m]? = some x) (a : Nat) : atL (L.take (m + 1)) a = if x.1 = a then x.2 else atL (L.take m) a := by
  rw [List.take_add_one, h]
  exact atL_snoc _ _ _

/-- where the document's memory may change -/
def RS (X : Nat) (v : Value) (j : Nat) : Prop := j = X ∨ v.ownBlock = some j
/-- the row is the elder one, or new -/
def Fresh (v v' : Value) (W : World) : Prop := ∀ j, v'.ownBlock = some j → v.ownBlock = some j ∨ W.heap.size ≤ j
theorem Fresh.refl (v : Value) (W : World) : Fresh v v W := fun _ h => .inl h
theorem Fresh.trans {v v' v'' : Value} {W a : World} (h : Fresh v v' W) (k : Fresh v' v'' a) (hs : W.heap.size ≤ a.heap.size) : Fresh v v'' W := fun j hj => by
  rcases k j hj with g | g
  · exact h j g
  · exact .inr (Nat.le_trans hs g)
theorem Out.chain {X : Nat} {v v' : Value} {W a b : World} (h : Out (RS X v) W a) (hf : Fresh v v' W) (k : Out (RS X v') a b) : Out (RS X v) W b :=
  ⟨k.os.trans h.os, k.tape.trans h.tape, k.output.trans h.output, Nat.le_trans h.size k.size, fun j hj hs => (k.block j (Nat.lt_of_lt_of_le hj h.size) fun g => by
    rcases g with g | g
    · exact hs (.inl g)
    · rcases hf j g with e | e
      · exact hs (.inr e)
      · omega).trans (h.block j hj hs)⟩
/-- a memory of the document -/
structure RefIs (X B f n1 r n2 : Nat) (L : List (Nat × Nat)) (v : Value) (W : World) : Prop where
  c0 : W.cell? ⟨X, 0, none⟩ = some (.int .u32 (f : Nat))
  c1 : W.cell? ⟨X, 1, none⟩ = some (.int .u32 (n1 : Nat))
  c2 : W.cell? ⟨X, 2, none⟩ = some (.int .u32 (r : Nat))
  c3 : W.cell? ⟨X, 3, none⟩ = some (.int .u32 (n2 : Nat))
  c4 : W.cell? ⟨X, 4, none⟩ = some v
  fz : W.frozen? ⟨X, 4, none⟩ = false
  own : W.ownsRow B 124 2 v L.length (cellsB L)
  ok : LogOk L
  hx : v.ownBlock ≠ some X
  lt : X < W.heap.size
  bs : B ≤ W.heap.size
  small : L.length ≤ 1000000
theorem RefIs.like {X B f n1 r n2 : Nat} {L : List (Nat × Nat)} {v : Value} {W W' : World} (h : RefIs X B f n1 r n2 L v W) (hl : LikeG W W') : RefIs X B f n1 r n2 L v W' :=
  { c0 := (hl.cell _).trans h.c0, c1 := (hl.cell _).trans h.c1, c2 := (hl.cell _).trans h.c2, c3 := (hl.cell _).trans h.c3, c4 := (hl.cell _).trans h.c4
    fz := by have := h.fz; unfold World.frozen? at *; rw [hl.1]; exact this
    own := hl.row (x := 0) h.own, ok := h.ok, hx := h.hx, lt := by rw [hl.1]; exact h.lt, bs := by rw [hl.1]; exact h.bs, small := h.small }
theorem ret_u8G {a b : Int} (h : a = b) : Ending.returned (.int .u8 a) = .returned (.int .u8 b) := by rw [h]
set_option maxHeartbeats 1000000 in
theorem at_any {X B f n1 r n2 : Nat} {L : List (Nat × Nat)} {v : Value} {W : World} (h : RefIs X B f n1 r n2 L v W) (a : Nat) (ha : a < 4294967296) :
    Calls Try.prog 56 #[.pointer (some ⟨X, 0, none⟩), .int .u32 (a : Nat)] W fun e w' => e = .returned (.int .u8 (atL L a : Nat)) ∧ W = w' := by
  have c4 := h.c4
  have own := h.own
  have hsm := h.small
  have OK := Lib.hid h.ok
  obtain ⟨hlen, hv⟩ := own
  rcases hv with ⟨rfl, h0⟩ | ⟨g, cap, cur, rfl, hB, hg, hnc, hcm, hcs, htk⟩
  · have : L = [] := List.eq_nil_of_length_eq_zero h0
    subst this
    clear h hlen h0 hsm OK
    go_enter Try.func56, Try.ntmps56
    go_wp2
    go_rounds 1
    go_ret
    exact ⟨rfl, rfl⟩
  · have CL := Lib.hid (show ∀ j u, (cellsB L)[j]? = some u → W.cell? ⟨g, j, none⟩ = some u from fun j u hj => by
      rw [cell_of_row W g j _ _ _ hg]
      rw [← htk, List.getElem?_take] at hj
      split at hj
      · simpa using hj
      · cases hj)
    clear h hlen hB hg hcs htk
    unfold maxLen at hcm
    go_enter Try.func56, Try.ntmps56
    go_wp2
    go_loop [5] (fun i => ∃ j : Nat, j ≤ L.length ∧ i = .int .i64 ((j : Int) - 1) ∧ atL L a = atL (L.take j) a) (fun i => (intOf i + 1).toNat)
    case atStart => exact ⟨L.length, Nat.le_refl _, rfl, by rw [List.take_length]⟩
    case round =>
      obtain ⟨j, hj, rfl, he⟩ := hrel
      have HE := Lib.hid he
      clear he
      rcases Nat.eq_zero_or_pos j with h0 | h0
      · subst h0
        go_wp2
        go_ret
        exact ⟨ret_u8G (by rw [HE.out]; rfl), rfl⟩
      · obtain ⟨m, rfl⟩ : ∃ m, j = m + 1 := ⟨j - 1, by omega⟩
        obtain ⟨x, hx⟩ : ∃ x, L[m]? = some x := ⟨L[m], List.getElem?_eq_getElem (by omega)⟩
        obtain ⟨g1, g2⟩ := cellsB_get hx
        have d1 := CL.out _ _ g1
        have d2 := CL.out _ _ g2
        have AT := Lib.hid (atL_take hx a)
        obtain ⟨x1, x2⟩ := x
        have hb := OK.out _ (List.mem_of_getElem? hx)
        simp only at hb d1 d2
        clear g1 g2 hx
        have em : (((m + 1 : Nat) : Int) - 1) = (m : Int) := by omega
        rw [em]
        clear em
        by_cases hxa : x1 = a
        · have t : ((x1 : Int) == (a : Int)) = true := by simp; omega
          have E := Lib.hid (show atL L a = x2 by rw [HE.out, AT.out]; simp [hxa])
          clear hxa
          go_wp2
          go_ret
          exact ⟨ret_u8G (by rw [E.out]), rfl⟩
        · have t : ((x1 : Int) == (a : Int)) = false := by simp; omega
          have E := Lib.hid (show atL L a = atL (L.take m) a by rw [HE.out, AT.out]; simp [hxa])
          clear hxa
          go_wp2
          go_round
          case rel => exact ⟨m, by omega, rfl, E.out⟩
          case measure => first | (simp [intOf]; done) | (simp [intOf]; omega)

theorem ret_boolG {a b : Bool} (h : a = b) : Ending.returned (.bool a) = .returned (.bool b) := by rw [h]
/-- what lies where -/
theorem in_any (f n a k : Nat) (W : World) (hf : f < 4294967296) (hn : n < 4294967296) (ha : a < 4294967296) (hk : k < 9223372036854775808) :
    Calls Try.prog 107 #[.int .u32 (f : Nat), .int .u32 (n : Nat), .int .u32 (a : Nat), .int .i64 (k : Nat)] W fun e w' => e = .returned (.bool (inB f n a k)) ∧ W = w' := by
  by_cases h1 : f ≤ a
  · have t1 : decide (f ≤ a) = true := by simp; omega
    by_cases h2 : a + k ≤ f + n
    · have t2 : decide ((k : Int) ≤ (f : Int) + (n : Int) - (a : Int)) = true := by simp; omega
      have E : inB f n a k = true := decide_eq_true (by omega)
      rw [E]
      clear E h1 h2
      go_enter Try.func107, Try.ntmps107
      go_wp2
      all_goals go_ret
      all_goals first | exact ⟨rfl, rfl⟩ | exact ⟨ret_boolG t2, rfl⟩
    · have t2 : decide ((k : Int) ≤ (f : Int) + (n : Int) - (a : Int)) = false := by simp; omega
      have E : inB f n a k = false := decide_eq_false (by omega)
      rw [E]
      clear E h1 h2
      go_enter Try.func107, Try.ntmps107
      go_wp2
      all_goals go_ret
      all_goals first | exact ⟨rfl, rfl⟩ | exact ⟨ret_boolG t2, rfl⟩
  · have t1 : decide (f ≤ a) = false := by simp; omega
    have E : inB f n a k = false := decide_eq_false (by omega)
    rw [E]
    clear E h1
    go_enter Try.func107, Try.ntmps107
    go_wp2
    all_goals go_ret
    all_goals exact ⟨rfl, rfl⟩
def InG (f n a k : Nat) (b : Bool) : Prop := ∀ W, Calls Try.prog 107 #[.int .u32 (f : Nat), .int .u32 (n : Nat), .int .u32 (a : Nat), .int .i64 (k : Nat)] W fun e w' => e = .returned (.bool b) ∧ W = w'
theorem inG_q {f n a k : Nat} {b : Bool} (h : InG f n a k b) (w : World) (m : Nat) :
    Calls Try.prog 107 #[.int .u32 (f : Nat), .int .u32 (n : Nat), .int .u32 (a : Nat), .int .i64 (k : Nat)] (w.drewN m) fun e w' => e = .returned (.bool b) ∧ ∃ j, w' = w.drewN j :=
  (h _).mono fun e w' ⟨he, hm⟩ => ⟨he, m, hm.symm⟩
def BoolPost (W : World) (b : Bool) (e : Ending) (w' : World) : Prop := e = .returned (.bool b) ∧ LikeG W w'
theorem rflash_any {X B f n1 r n2 : Nat} {L : List (Nat × Nat)} {v : Value} {W : World} (h : RefIs X B f n1 r n2 L v W) (hf : f < 4294967296) (hn : n1 < 4294967296) (a k : Nat) (ha : a < 4294967296) (hk : k < 9223372036854775808) :
    Calls Try.prog 94 #[.pointer (some ⟨X, 0, none⟩), .int .u32 (a : Nat), .int .i64 (k : Nat)] W (BoolPost W (inB f n1 a k)) := by
  have c0 := h.c0
  have c1 := h.c1
  have HI := Lib.hid (show InG f n1 a k (inB f n1 a k) from fun W => in_any f n1 a k W hf hn ha hk)
  generalize inB f n1 a k = b at *
  clear h
  go_enter Try.func94, Try.ntmps94
  go_wp2
  go_quiet ((go_at_call 107; exact inG_q HI.out _ _))
  rename_i nq
  go_wp2
  go_ret
  exact ⟨rfl, .drewN _ _⟩
theorem rram_any {X B f n1 r n2 : Nat} {L : List (Nat × Nat)} {v : Value} {W : World} (h : RefIs X B f n1 r n2 L v W) (hf : r < 4294967296) (hn : n2 < 4294967296) (a k : Nat) (ha : a < 4294967296) (hk : k < 9223372036854775808) :
    Calls Try.prog 95 #[.pointer (some ⟨X, 0, none⟩), .int .u32 (a : Nat), .int .i64 (k : Nat)] W (BoolPost W (inB r n2 a k)) := by
  have c2 := h.c2
  have c3 := h.c3
  have HI := Lib.hid (show InG r n2 a k (inB r n2 a k) from fun W => in_any r n2 a k W hf hn ha hk)
  generalize inB r n2 a k = b at *
  clear h
  go_enter Try.func95, Try.ntmps95
  go_wp2
  go_quiet ((go_at_call 107; exact inG_q HI.out _ _))
  rename_i nq
  go_wp2
  go_ret
  exact ⟨rfl, .drewN _ _⟩
theorem has_any {X B f n1 r n2 : Nat} {L : List (Nat × Nat)} {v : Value} {W : World} (h : RefIs X B f n1 r n2 L v W) (hb : Banks f n1 r n2) (a k : Nat) (ha : a < 4294967296) (hk : k < 9223372036854775808) :
    Calls Try.prog 79 #[.pointer (some ⟨X, 0, none⟩), .int .u32 (a : Nat), .int .i64 (k : Nat)] W (BoolPost W (wIn f n1 r n2 a k)) := by
  have q1 := hb.a; have q2 := hb.b; have q3 := hb.c; have q4 := hb.d
  have HF := Lib.hid (rflash_any h (by omega) (by omega) a k ha hk)
  have HR := Lib.hid (fun W' (hl : LikeG W W') => rram_any (h.like hl) (by omega) (by omega) a k ha hk)
  have E := Lib.hid (show wIn f n1 r n2 a k = (inB f n1 a k || inB r n2 a k) from rfl)
  generalize wIn f n1 r n2 a k = c at *
  generalize inB f n1 a k = b1 at *
  generalize inB r n2 a k = b2 at *
  clear h hb
  cases b1
  · go_enter Try.func79, Try.ntmps79
    go_wp2_with fail
    refine HF.out.mono ?_
    rintro e w1 ⟨rfl, hl⟩
    go_wp2_with fail
    refine (HR.out _ hl).mono ?_
    rintro e w2 ⟨rfl, hl2⟩
    go_wp2_with fail
    go_ret
    exact ⟨by rw [E.out]; rfl, hl.trans hl2⟩
  · go_enter Try.func79, Try.ntmps79
    go_wp2_with fail
    refine HF.out.mono ?_
    rintro e w1 ⟨rfl, hl⟩
    go_wp2_with fail
    go_ret
    exact ⟨by rw [E.out]; rfl, hl⟩
theorem wordL_lt {L : List (Nat × Nat)} (h : LogOk L) (a n : Nat) : wordL L a n < 256 ^ n := by
  induction n generalizing a with
  | zero => simp [wordL]
  | succ n ih =>
    have := ih (a + 1)
    have := atL_lt h a
    simp only [wordL, Nat.pow_succ]
    omega
set_option maxHeartbeats 1000000 in
theorem word_any {X B f n1 r n2 : Nat} {L : List (Nat × Nat)} {v : Value} {W : World} (h : RefIs X B f n1 r n2 L v W) (a k : Nat) (hk : k ≤ 4) (ha : a + k ≤ 4294967296) (ha2 : a < 4294967296) :
    Calls Try.prog 108 #[.pointer (some ⟨X, 0, none⟩), .int .u32 (a : Nat), .int .i64 (k : Nat)] W fun e w' => e = .returned (.int .u32 (wordL L a k : Nat)) ∧ W = w' := by
  have AT := Lib.hid (fun b (hb : b < 4294967296) => at_any h b hb)
  have OK := Lib.hid h.ok
  clear h
  go_enter Try.func108, Try.ntmps108
  go_wp2_with fail
  go_loop [7, 8] (fun x i => ∃ j : Nat, j ≤ k ∧ i = .int .i64 ((j : Int) - 1) ∧ x = .int .u32 (wordL L (a + j) (k - j) : Nat)) (fun _ i => (intOf i + 1).toNat)
  case atStart => exact ⟨k, Nat.le_refl _, rfl, by rw [Nat.sub_self]; rfl⟩
  case round =>
    obtain ⟨j, hj, rfl, rfl⟩ := hrel
    rcases Nat.eq_zero_or_pos j with h0 | h0
    · subst h0
      go_wp2_with fail
      go_ret
      exact ⟨rfl, rfl⟩
    · obtain ⟨m, rfl⟩ : ∃ m, j = m + 1 := ⟨j - 1, by omega⟩
      have em : (((m + 1 : Nat) : Int) - 1) = (m : Int) := by omega
      rw [em]
      clear em
      have hlt := wordL_lt OK.out (a + (m + 1)) (k - (m + 1))
      have hlt2 : (256 : Nat) ^ (k - (m + 1)) ≤ 256 ^ 3 := Nat.pow_le_pow_right (by decide) (by omega)
      have hlt3 := Nat.lt_of_lt_of_le hlt hlt2
      have E := Lib.hid (show wordL L (a + m) (k - m) = atL L (a + m) + 256 * wordL L (a + (m + 1)) (k - (m + 1)) by
        rw [show k - m = (k - (m + 1)) + 1 by omega]; rfl)
      have hb := atL_lt OK.out (a + m)
      have am := AT.out (a + m) (by omega)
      rw [Int.natCast_add] at am
      have AM := Lib.hid am
      clear am
      generalize wordL L (a + (m + 1)) (k - (m + 1)) = y at *
      generalize atL L (a + m) = z at *
      clear hlt hlt2
      have hy : y < 16777216 := hlt3
      clear hlt3
      go_wp2_with fail
      refine AM.out.mono ?_
      rintro e w1 ⟨rfl, rfl⟩
      go_wp2_with fail
      go_round
      case rel => exact ⟨m, by omega, rfl, by rw [E.out]; go_num⟩
      case measure => first | (simp [intOf]; done) | (simp [intOf]; omega)
end Go.Proofs.Ytghclbeoabkgcaa
