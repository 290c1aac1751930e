/- Contracts of lir.Writes, lir.Reads and of lists of numbers: what each call answers. -/
import Derived.Test.YtlieapapmkbbgaaLir
import Derived.Deep.OwnRows
namespace Go.Proofs.Ytlieapapmkbbgaa
open Go Go.RowKit
set_option linter.unusedVariables false

theorem ret_bool' {a b : Bool} (h : a = b) : Ending.returned (.bool a) = .returned (.bool b) := by rw [h]
theorem ret_i64' {a b : Int} (h : a = b) : Ending.returned (.int .i64 a) = .returned (.int .i64 b) := by rw [h]
theorem bt' {w a b : World} (h : Below w.heap.size w a) (k : Below a.heap.size a b) : Below w.heap.size w b := h.trans (k.mono h.size)

theorem can_yes (o d a b i : Int) (w : World) (h : canS ⟨o, d, a, b, i⟩ = true) : Calls Try.prog 26 #[.agg #[.int .i64 o, .int .i64 d, .int .i64 a, .int .i64 b, .int .i32 i]] w fun e w' =>
    e = .returned (.tuple #[.agg #[.bool (hasD o), .bool (hasA o), .bool (hasB o), .int .i32 (leastS o), .int .i32 (mostS o)], .bool true]) ∧ Below w.heap.size w w' :=
  (can_any o d a b i w).mono fun e w' hh => by
    obtain ⟨he, hb⟩ := hh
    rw [h] at he
    exact ⟨he, hb⟩
theorem can_not (o d a b i : Int) (w : World) (h : canS ⟨o, d, a, b, i⟩ = false) : Calls Try.prog 26 #[.agg #[.int .i64 o, .int .i64 d, .int .i64 a, .int .i64 b, .int .i32 i]] w fun e w' =>
    e = .returned (.tuple #[.agg #[.bool false, .bool false, .bool false, .int .i32 0, .int .i32 0], .bool false]) ∧ Below w.heap.size w w' :=
  (can_any o d a b i w).mono fun e w' hh => by
    obtain ⟨he, hb⟩ := hh
    rw [h] at he
    exact ⟨he, hb⟩

/-- the cells of a struct that was boxed first, behind a call -/
theorem boxed {w w1 : World} {cs : Array Value} {t : TypeId} (hb : Below (w.alloc (.cells cs t)).heap.size (w.alloc (.cells cs t)) w1) :
    (∀ j v, cs[j]? = some v → w1.cell? ⟨w.heap.size, j, none⟩ = some v) ∧ w.heap.size < w1.heap.size ∧ w.heap.size ≤ w1.heap.size := by
  have hs := hb.size
  simp at hs
  refine ⟨fun j v hv => (hb.cell (p := ⟨w.heap.size, j, none⟩) (by simp)).trans ?_, by omega, by omega⟩
  rw [World.cell?_alloc_new]
  exact hv

set_option maxHeartbeats 400000 in
theorem writes_any (o d a b i : Int) (w : World) :
    Calls Try.prog 41 #[.agg #[.int .i64 o, .int .i64 d, .int .i64 a, .int .i64 b, .int .i32 i]] w fun e w' => e = .returned (.int .i64 (writesS ⟨o, d, a, b, i⟩)) ∧ Below w.heap.size w w' := by
  cases hc : canS ⟨o, d, a, b, i⟩
  · have E := Lib.hid (show writesS ⟨o, d, a, b, i⟩ = -1 by unfold writesS; rw [hc]; rfl)
    have C := Lib.hid hc
    clear hc
    go_enter Try.func41, Try.ntmps41
    go_wp2_with fail
    refine (can_not o d a b i _ C.out).mono ?_
    rintro e w1 ⟨rfl, hb⟩
    obtain ⟨hc, hz, hz'⟩ := boxed hb
    have HB := Lib.hid hb
    clear hb hc
    go_wp2_with fail
    go_ret
    exact ⟨ret_i64' E.out.symm, bt' (by go_grown) (bt' HB.out (by go_grown))⟩
  · cases hd : hasD o
    · have E := Lib.hid (show writesS ⟨o, d, a, b, i⟩ = -1 by unfold writesS; simp [hd])
      have C := Lib.hid hc
      have HD := Lib.hid hd
      clear hc hd
      go_enter Try.func41, Try.ntmps41
      go_wp2_with fail
      refine (can_yes o d a b i _ C.out).mono ?_
      rw [HD.out]
      rintro e w1 ⟨rfl, hb⟩
      obtain ⟨hc, hz, hz'⟩ := boxed hb
      have HB := Lib.hid hb
      clear hb hc
      go_wp2_with fail
      go_ret
      exact ⟨ret_i64' E.out.symm, bt' (by go_grown) (bt' HB.out (by go_grown))⟩
    · have E := Lib.hid (show writesS ⟨o, d, a, b, i⟩ = d by unfold writesS; simp [hc, hd])
      have C := Lib.hid hc
      have HD := Lib.hid hd
      clear hc hd
      go_enter Try.func41, Try.ntmps41
      go_wp2_with fail
      refine (can_yes o d a b i _ C.out).mono ?_
      rw [HD.out]
      rintro e w1 ⟨rfl, hb⟩
      obtain ⟨hc, hz, hz'⟩ := boxed hb
      have c1 := hc 1 _ rfl
      have HB := Lib.hid hb
      clear hb hc
      go_wp2_with fail
      go_ret
      exact ⟨ret_i64' E.out.symm, bt' (by go_grown) (bt' HB.out (by go_grown))⟩

theorem info_int : (Try.prog.info? 3).map (fun i => (i.zero, i.size, i.bytes)) = some (some (.int .i64 0), 1, 8) := by kernel_rfl
def iv (x : Int) : Value := .int .i64 x
/-- numbers that the call itself owns -/
def OwnI (w : World) (base : Nat) (v : Value) (l : List Int) : Prop := w.ownsRow base 3 1 v l.length (l.map iv)
theorem iv_one (l : List Int) : ∀ u ∈ l.map iv, u.oneCell' = true := by
  intro u hu
  simp only [List.mem_map] at hu
  obtain ⟨x, _, rfl⟩ := hu
  rfl
theorem news_one (w : World) (x : Int) (H : Nat) (hH : w.heap.size = H) : ∀ j u, [iv x][j]? = some u → (w.alloc (.cells #[.int .i64 x] 3)).cell? ((⟨H, 0, none⟩ : Addr).add j) = some u := by
  subst hH
  intro j u h
  rw [add_at, Nat.zero_add, World.cell?_alloc_new]
  simpa [iv] using h
theorem below_grown' {w w1 w' : World} {v : Value} (h : Below w.heap.size w w1) (hg : w1.grownBy w' v.ownBlock) (hv : ∀ k, v.ownBlock = some k → w.heap.size ≤ k) : Below w.heap.size w w' :=
  h.grown hg h.size hv
theorem cell_two {w1 : World} {cs ds : Array Value} {t u : TypeId} {j : Nat} {v : Value} (h : cs[j]? = some v) : ((w1.alloc (.cells cs t)).alloc (.cells ds u)).cell? ⟨w1.heap.size, j, none⟩ = some v := by
  rw [World.cell?_alloc_past _ _ _ (by simp), World.cell?_alloc_new]; exact h
theorem cell_old {w1 : World} {o o' : Obj} {b j : Nat} {v : Value} (h : w1.cell? ⟨b, j, none⟩ = some v) (hb : b < w1.heap.size) : ((w1.alloc o).alloc o').cell? ⟨b, j, none⟩ = some v := by
  rw [World.cell?_alloc_past _ _ _ (by simp; omega), World.cell?_alloc_past _ _ _ hb]; exact h
def ReadsPost (w : World) (l : List Int) (e : Ending) (w' : World) : Prop := ∃ v, e = .returned v ∧ OwnI w' w.heap.size v l ∧ Below w.heap.size w w'
theorem reads_none {x : Q5} (h : canS x = false) : readsS x = [] := by unfold readsS; rw [h]; rfl
theorem reads_ab {x : Q5} (h : canS x = true) (ha : hasA x.o = true) (hb : hasB x.o = true) : readsS x = [x.a, x.b] := by unfold readsS; simp [h, ha, hb]
theorem reads_a {x : Q5} (h : canS x = true) (ha : hasA x.o = true) (hb : hasB x.o = false) : readsS x = [x.a] := by unfold readsS; simp [h, ha, hb]
theorem reads_0 {x : Q5} (h : canS x = true) (ha : hasA x.o = false) (hb : hasB x.o = false) : readsS x = [] := by unfold readsS; simp [h, ha, hb]
theorem hasB_A {o : Int} (h : hasB o = true) : hasA o = true := by unfold hasB at h; unfold hasA; simp at *; omega
theorem own_nilI (w : World) (base : Nat) : OwnI w base (.slice none 0 0) [] := World.ownsRow_nil _ _ _ _

end Go.Proofs.Ytlieapapmkbbgaa

namespace Go.Proofs.Ytlieapapmkbbgaa
open Go Go.RowKit
set_option linter.unusedVariables false

/-- a slice of numbers: where they lie -/
def IAt (w : World) (a : Option Addr) (l : List Int) : Prop := l.length ≤ 1000000000000 ∧ (l = [] ∨ ∃ b off, a = some ⟨b, off, none⟩ ∧ b < w.heap.size ∧ ∀ k x, l[k]? = some x → w.cell? ⟨b, off + k, none⟩ = some (.int .i64 x))
theorem IAt.later {w w' : World} {a : Option Addr} {l : List Int} (h : IAt w a l) (hb : Below w.heap.size w w') : IAt w' a l := by
  obtain ⟨h1, h | ⟨b, off, rfl, hlt, hc⟩⟩ := h
  · exact ⟨h1, Or.inl h⟩
  · exact ⟨h1, Or.inr ⟨b, off, rfl, Nat.lt_of_lt_of_le hlt hb.size, fun k x hx => (hb.cell hlt).trans (hc k x hx)⟩⟩
theorem own_i {w : World} {base : Nat} {v : Value} {l : List Int} (h : OwnI w base v l) (hl : l.length ≤ 1000000000000) : ∃ a c, v = .slice a l.length c ∧ IAt w a l := by
  have hlt := h.lt
  have h' := h
  obtain ⟨_, ⟨hv, hn⟩ | ⟨g, cap, cur, hv, hg, hh, hc, hcm, _⟩⟩ := h
  · have : l = [] := List.eq_nil_of_length_eq_zero hn
    subst this
    exact ⟨none, 0, hv, by simp, Or.inl rfl⟩
  · refine ⟨some ⟨g, 0, none⟩, cap, hv, hl, Or.inr ⟨g, 0, rfl, (hlt g (by rw [hv]; rfl)).2, fun k x hx => ?_⟩⟩
    have := h'.cells (g := g) (by rw [hv]; rfl) k (iv x) (by rw [List.getElem?_map, hx]; rfl)
    rw [add_at] at this
    exact this
theorem ints_lit (w : World) (l : List Int) (H : Nat) (hH : w.heap.size = H) (hl : l.length ≤ 1000000000000) : IAt (w.alloc (.cells (l.map iv).toArray 3)) (some ⟨H, 0, none⟩) l := by
  subst hH
  refine ⟨hl, Or.inr ⟨w.heap.size, 0, rfl, by simp, fun k x hx => ?_⟩⟩
  rw [Nat.zero_add, World.cell?_alloc_new]
  simp [hx, iv]

theorem own_shrink {w : World} {base g n cap : Nat} {e : TypeId} {xs : List Value} (h : w.ownsRow base e 1 (.slice (some ⟨g, 0, none⟩) (n + 1) cap) (n + 1) xs) :
    w.ownsRow base e 1 (.slice (some ⟨g, 0, none⟩) n cap) n xs.dropLast := by
  obtain ⟨hl, ⟨h', _⟩ | ⟨g', cap', cur, h', hb, hg, hnc, hcm, hcs, htake⟩⟩ := h
  · cases h'
  · simp only [Value.slice.injEq, Option.some.injEq, Addr.mk.injEq, and_true, true_and] at h'
    obtain ⟨rfl, rfl⟩ := h'
    refine ⟨by simp [hl], .inr ⟨g, cap, cur, rfl, hb, hg, by omega, hcm, hcs, ?_⟩⟩
    rw [List.dropLast_eq_take, ← htake, List.take_take, List.length_take]
    congr 1
    rw [Array.length_toList, hcs]
    omega

def ivn (b : Nat) : Value := .int .i64 (b : Int)
theorem news_n (w : World) (x : Nat) (H : Nat) (hH : w.heap.size = H) : ∀ j u, [ivn x][j]? = some u → (w.alloc (.cells #[.int .i64 (x : Int)] 3)).cell? ((⟨H, 0, none⟩ : Addr).add j) = some u := by
  subst hH
  intro j u h
  rw [add_at, Nat.zero_add, World.cell?_alloc_new]
  simpa [ivn] using h
theorem ivn_one {k : Nat} : ∀ u ∈ [ivn k], u.oneCell' = true := by
  intro u hu
  simp only [List.mem_singleton] at hu
  subst hu
  rfl
def EndsRel (w : World) (l : List Q5) (v5 i : Value) (wr : World) : Prop := ∃ (k : Nat) (P : List Int) (O : List Nat), k ≤ l.length ∧ i = .int .i64 k ∧ P.length = l.length ∧ (∀ b ∈ O, b < k) ∧ O.length ≤ k ∧
  runE (l.drop k) k (P, O) = runE l 0 (List.replicate l.length 0, []) ∧ wr.ownsRow w.heap.size 3 1 (.slice (some ⟨w.heap.size, 0, none⟩) l.length l.length) l.length (P.map iv) ∧
  wr.ownsRow (w.heap.size + 1) 3 1 v5 O.length (O.map ivn) ∧ Below w.heap.size w wr
def EndsPost (w : World) (l : List Q5) (e : Ending) (w' : World) : Prop :=
  (match endsS l with
    | some P => ∃ v, e = .returned (.tuple #[v, .bool true]) ∧ OwnI w' w.heap.size v P
    | none => e = .returned (.tuple #[.slice none 0 0, .bool false])) ∧ Below w.heap.size w w'
theorem made_zero (n : Nat) : (madeCells #[Value.int .i64 0] n).toList = (List.replicate n (0 : Int)).map iv := by
  apply List.ext_getElem
  · simp [madeCells]
  · intro i h1 h2
    simp [madeCells, iv, Nat.mod_one]

theorem own_form {w : World} {base n : Nat} {e : TypeId} {v : Value} {xs : List Value} (h : w.ownsRow base e 1 v n xs) : ∃ a c, v = .slice a n c ∧ n ≤ c ∧ c ≤ 9223372036854775807 ∧ (0 < n → ∃ g, a = some ⟨g, 0, none⟩ ∧ base ≤ g ∧ g < w.heap.size) := by
  have hlt := h.lt
  obtain ⟨_, ⟨hv, hn⟩ | ⟨g, cap, cur, hv, hg, hh, hc, hcm, _⟩⟩ := h
  · subst hn; exact ⟨none, 0, hv, by omega, by omega, fun h => by omega⟩
  · exact ⟨_, cap, hv, hc, by simpa [maxLen] using hcm, fun _ => ⟨g, rfl, hg, (hlt g (by rw [hv]; rfl)).2⟩⟩
theorem ends_push {w w2 : World} {l : List Q5} {k : Nat} {P : List Int} {O : List Nat} {x : Q5} {v i : Value} (hlt : k < l.length) (hx : l[k]? = some x) (h23 : x.o = 23) (hP : P.length = l.length) (hO : ∀ b ∈ O, b < k) (hK : O.length ≤ k)
    (hrun : runE (l.drop k) k (P, O) = runE l 0 (List.replicate l.length 0, []))
    (own4 : w2.ownsRow w.heap.size 3 1 (.slice (some ⟨w.heap.size, 0, none⟩) l.length l.length) l.length ((P.map iv).set k (iv (-1))))
    (own5 : w2.ownsRow (w.heap.size + 1) 3 1 v (O.length + 1) (O.map ivn ++ [ivn k])) (hb : Below w.heap.size w w2) (hi : i = .int .i64 ((k + 1 : Nat) : Int)) : EndsRel w l v i w2 := by
  refine ⟨k + 1, P.set k (-1), O ++ [k], by omega, hi, by simp [hP], ?_, by simp; omega, ?_, by rw [List.map_set]; exact own4, by simpa using own5, hb⟩
  · intro b hb
    rcases List.mem_append.1 hb with g | g
    · have := hO b g; omega
    · simp at g; omega
  · rw [← hrun, runE_step hx, stepE, if_pos h23]
theorem ends_other {w w2 : World} {l : List Q5} {k : Nat} {P : List Int} {O : List Nat} {x : Q5} {v i : Value} (hlt : k < l.length) (hx : l[k]? = some x) (h23 : x.o ≠ 23) (h24 : x.o ≠ 24) (hP : P.length = l.length) (hO : ∀ b ∈ O, b < k) (hK : O.length ≤ k)
    (hrun : runE (l.drop k) k (P, O) = runE l 0 (List.replicate l.length 0, []))
    (own4 : w2.ownsRow w.heap.size 3 1 (.slice (some ⟨w.heap.size, 0, none⟩) l.length l.length) l.length ((P.map iv).set k (iv (-1))))
    (own5 : w2.ownsRow (w.heap.size + 1) 3 1 v O.length (O.map ivn)) (hb : Below w.heap.size w w2) (hi : i = .int .i64 ((k + 1 : Nat) : Int)) : EndsRel w l v i w2 := by
  refine ⟨k + 1, P.set k (-1), O, by omega, hi, by simp [hP], ?_, by omega, ?_, by rw [List.map_set]; exact own4, own5, hb⟩
  · intro b hb; have := hO b hb; omega
  · rw [← hrun, runE_step hx, stepE, if_neg h23, if_neg h24]
theorem ends_pop {w w2 : World} {l : List Q5} {k b : Nat} {P : List Int} {O : List Nat} {x : Q5} {v i : Value} (hlt : k < l.length) (hx : l[k]? = some x) (h24 : x.o = 24) (hP : P.length = l.length) (hO : ∀ c ∈ O ++ [b], c < k) (hK : O.length ≤ k)
    (hrun : runE (l.drop k) k (P, O ++ [b]) = runE l 0 (List.replicate l.length 0, []))
    (own4 : w2.ownsRow w.heap.size 3 1 (.slice (some ⟨w.heap.size, 0, none⟩) l.length l.length) l.length ((((P.map iv).set k (iv (-1))).set k (ivn b)).set b (ivn k)))
    (own5 : w2.ownsRow (w.heap.size + 1) 3 1 v O.length (O.map ivn)) (hb : Below w.heap.size w w2) (hi : i = .int .i64 ((k + 1 : Nat) : Int)) : EndsRel w l v i w2 := by
  refine ⟨k + 1, ((P.set k (-1)).set k (b : Int)).set b (k : Int), O, by omega, hi, by simp [hP], ?_, by omega, ?_, by rw [List.map_set, List.map_set, List.map_set]; exact own4, own5, hb⟩
  · intro c hc; have := hO c (List.mem_append_left _ hc); omega
  · rw [← hrun, runE_step hx, stepE, if_neg (by omega), if_pos h24]
    simp
theorem ends_bad {w w2 : World} {l : List Q5} {k : Nat} {P : List Int} {x : Q5} (hx : l[k]? = some x) (h24 : x.o = 24)
    (hrun : runE (l.drop k) k (P, []) = runE l 0 (List.replicate l.length 0, [])) (hb : Below w.heap.size w w2) : EndsPost w l (.returned (.tuple #[.slice none 0 0, .bool false])) w2 := by
  have : endsS l = none := by
    unfold endsS
    rw [← hrun, runE_step hx, stepE, if_neg (by omega), if_pos h24]
    rfl
  unfold EndsPost
  rw [this]
  exact ⟨rfl, hb⟩
theorem ends_open {w w2 : World} {l : List Q5} {P : List Int} {O : List Nat} (hO : O ≠ [])
    (hrun : runE (l.drop l.length) l.length (P, O) = runE l 0 (List.replicate l.length 0, [])) (hb : Below w.heap.size w w2) : EndsPost w l (.returned (.tuple #[.slice none 0 0, .bool false])) w2 := by
  have : endsS l = none := by
    unfold endsS
    rw [← hrun, List.drop_length]
    cases O with
    | nil => exact absurd rfl hO
    | cons a b => rfl
  unfold EndsPost
  rw [this]
  exact ⟨rfl, hb⟩
theorem ends_good {w w2 : World} {l : List Q5} {P : List Int} {v : Value} (hP : P.length = l.length)
    (hrun : runE (l.drop l.length) l.length (P, []) = runE l 0 (List.replicate l.length 0, []))
    (own4 : w2.ownsRow w.heap.size 3 1 v l.length (P.map iv)) (hb : Below w.heap.size w w2) : EndsPost w l (.returned (.tuple #[v, .bool true])) w2 := by
  have : endsS l = some P := by
    unfold endsS
    rw [← hrun, List.drop_length]
    rfl
  unfold EndsPost
  rw [this]
  refine ⟨⟨v, rfl, ?_⟩, hb⟩
  unfold OwnI
  rw [hP]
  exact own4

set_option maxRecDepth 100000 in
set_option maxHeartbeats 1000000 in
theorem ends_any (a : Option Addr) (c : Nat) (l : List Q5) (w : World) (hl : L5 w a l) :
    Calls Try.prog 15 #[.slice a l.length c] w (EndsPost w l) := by
  obtain ⟨i0, hi, hz0, hz1, hz2⟩ := info_parts info_int
  have hlen := hl.1
  have hmk := fun W => run_make_row' (P := Try.prog) 40 3 (.int .i64 0) 8 Try.underlying40 info_int rfl .i64 .i64 l.length (by omega) (by omega) W
  have OW0 := Lib.hid (World.ownsRow_lit (base := w.heap.size) (size := 1) (e := 3) w (madeCells #[Value.int .i64 0] l.length) l.length (Nat.le_refl _) (by simp only [maxLen]; omega) (by rw [size_madeCells]; omega))
  have HL := Lib.hid hl
  clear hl
  go_enter Try.func15, Try.ntmps15
  go_wp2_with fail
  go_loopw [5, 14] (fun v5 i wr => EndsRel w l v5 i wr) (fun _ i _ => l.length - (intOf i).toNat)
  case atStart =>
    exact ⟨0, List.replicate l.length 0, [], Nat.zero_le _, rfl, by simp, by simp, by simp, rfl, by rw [← made_zero]; exact OW0.out, World.ownsRow_nil _ _ _ _, by go_grown⟩
  case round =>
    obtain ⟨k, P, O, hk, rfl, hP, hO, hK, hrun, own4, own5, hb⟩ := hrel
    clear hmk
    by_cases hlt : k < l.length
    · obtain ⟨x, hx⟩ := lookup hlt
      have hl2 := HL.out.later hb
      obtain ⟨_, hnil | ⟨bb, off, rfl, hbb, hc⟩⟩ := hl2
      · rw [hnil] at hlt; simp at hlt
      obtain ⟨p0, p1, p2, p3, p4⟩ := hc k x hx
      have c4 := own4.cellAt k (by omega)
      rw [List.getElem?_map] at c4
      obtain ⟨y, hy⟩ := lookup (l := P) (k := k) (by omega)
      rw [hy] at c4
      have c4' : wr.cell? ⟨w.heap.size, k, none⟩ = some (.int .i64 y) := c4
      have fz := own4.frozenAt k
      have hz := (own4.lt w.heap.size rfl).2
      clear c4 hc
      have RUN := Lib.hid (runE_step hx k (P, O))
      have HR := Lib.hid hrun
      have HX := Lib.hid hx
      have HO := Lib.hid hO
      have HP := Lib.hid hP
      have HY := Lib.hid hy
      clear hrun hx hO hP hy
      have H5 := Lib.hid own5
      have H4 := Lib.hid own4
      have HB := Lib.hid hb
      have ST := Lib.hid (own4.stored k (iv (-1)))
      have K5 := Lib.hid (own5.kept (own4.stored k (iv (-1))).2 (by
        cases h : u5.ownBlock with
        | none => exact Or.inl rfl
        | some q => have := (own5.lt q h).1; right; simp; omega))
      have LT5 := Lib.hid own5.lt
      obtain ⟨a5, q5, rfl, hq1, hq2, hg5⟩ := own_form own5
      have E1 := Lib.hid (show O.length + 1 ≤ maxLen by simp only [maxLen]; omega)
      have HB5 := Lib.hid (show Below w.heap.size w (wr.setCell ⟨w.heap.size, k, none⟩ (.int .i64 (-1))) from hb.setCell (Nat.le_refl _) _)
      clear own4 own5 hb
      by_cases h23 : x.o = 23
      · have t1 : (x.o == 23) = true := by simp [h23]
        have H23 := Lib.hid h23
        clear h23 hg5
        go_wp2_with ((at_builtin; refine wpList_append_own _ rfl (.tmp 26) (.tmp 28) 40 rfl (w.heap.size + 1) 3 i0 (.int .i64 0) 1 8 Try.underlying40 hi hz0 hz1 hz2 rfl (by decide) (.slice a5 O.length q5) O.length (O.map ivn) rfl ((K5.out.alloc _).alloc _) ⟨wr.heap.size + 1, 0, none⟩ 1 1 [ivn k] rfl rfl (news_n _ k _ (by simp)) ivn_one E1.out (by omega) (by simp; omega) ?_; intro v1 w2 hown hg hn))
        refine ⟨ends_push hlt HX.out H23.out HP.out HO.out hK HR.out (((ST.out.1.alloc _).alloc _).kept hg ?_) hown ?_ rfl, by simp [intOf]; omega⟩
        · right
          intro e
          have := (LT5.out w.heap.size e.symm).1
          omega
        · exact below_grown' ((HB5.out.alloc (by simp; omega) _).alloc (by simp; omega) _) hg (fun q hq => by have := (LT5.out q hq).1; omega)
      · by_cases h24 : x.o = 24
        · have t1 : (x.o == 23) = false := by simp [h23]
          have t2 : (x.o == 24) = true := by simp [h24]
          have H24 := Lib.hid h24
          clear h23 h24
          by_cases hn : O = []
          · subst hn
            go_wp2_with fail
            go_ret2
            exact ends_bad HX.out H24.out HR.out (HB5.out.alloc (by simp; omega) _)
          · obtain ⟨O', b, rfl⟩ : ∃ O' b, O = O' ++ [b] := ⟨O.dropLast, O.getLast hn, (List.dropLast_concat_getLast hn).symm⟩
            clear hn
            obtain ⟨g, rfl, hg1, hg2⟩ := hg5 (by simp)
            have hlen2 : (O' ++ [b]).length = O'.length + 1 := by simp
            have cg := (H5.out.cellAt O'.length (by simp))
            simp at cg
            have hb1 := HO.out b (by simp)
            have hgn : g ≠ w.heap.size := by omega
            have hgn' : w.heap.size ≠ g := by omega
            have L1 := Lib.hid hlen2
            rw [hlen2] at hq1 hK ⊢
            clear hlen2 hg5
            unfold ivn at cg
            obtain ⟨y2, hy2⟩ := lookup (l := P) (k := b) (by rw [HP.out]; omega)
            have cb := H4.out.cellAt b (by omega)
            rw [List.getElem?_map, hy2, Option.map_some] at cb
            unfold iv at cb
            have fzb := H4.out.frozenAt b
            clear hy2
            have S2 := Lib.hid (ST.out.1.stored k (ivn b))
            have S3 := Lib.hid (S2.out.1.stored b (ivn k))
            have ne5 : (Value.slice (some ⟨g, 0, none⟩) (O' ++ [b]).length q5).ownBlock ≠ some w.heap.size := by simp [Value.ownBlock]; omega
            have F5 := Lib.hid (own_shrink (by rw [← L1.out]; exact ((K5.out.kept S2.out.2 (Or.inr ne5)).kept S3.out.2 (Or.inr ne5))))
            have HB6 := Lib.hid ((HB5.out.setCell (p := ⟨w.heap.size, k, none⟩) (Nat.le_refl _) (.int .i64 (b : Int))).setCell (p := ⟨w.heap.size, b, none⟩) (Nat.le_refl _) (.int .i64 (k : Int)))
            clear ne5
            go_wp2_with fail
            refine ⟨ends_pop hlt HX.out H24.out HP.out HO.out (by omega) HR.out (S3.out.1.alloc _) ?_ (HB6.out.alloc (by simp; omega) _) rfl, by simp [intOf]; omega⟩
            have := F5.out
            simp only [List.map_append, List.map_cons, List.map_nil, List.dropLast_concat] at this
            exact this.alloc _
        · have t1 : (x.o == 23) = false := by simp [h23]
          have t2 : (x.o == 24) = false := by simp [h24]
          have H23 := Lib.hid h23
          have H24 := Lib.hid h24
          clear h23 h24 hg5
          go_wp2_with fail
          refine ⟨ends_other hlt HX.out H23.out H24.out HP.out HO.out hK HR.out (ST.out.1.alloc _) (K5.out.alloc _) (HB5.out.alloc (by simp; omega) _) rfl, by simp [intOf]; omega⟩
    · obtain rfl : k = l.length := by omega
      clear hlt
      obtain ⟨a5, q5, rfl, hq1, hq2, hg5⟩ := own_form own5
      have H4 := Lib.hid own4
      have HR := Lib.hid hrun
      have HB := Lib.hid hb
      have HP := Lib.hid hP
      clear own4 own5 hrun hb hO hg5 hP
      by_cases hn : O = []
      · subst hn
        go_wp2_with fail
        go_ret2
        exact ends_good HP.out HR.out H4.out HB.out
      · have hpos : 0 < O.length := List.length_pos_iff.2 hn
        have hpos' : decide (0 < O.length) = true := by simpa using hpos
        have HN := Lib.hid hn
        clear hn
        go_wp2_with fail
        go_ret2
        exact ends_open HN.out HR.out HB.out
end Go.Proofs.Ytlieapapmkbbgaa

namespace Go.Proofs.Ytlieapapmkbbgaa
open Go Go.RowKit
set_option linter.unusedVariables false

theorem grown_of_below {a w : World} (h : Below a.heap.size a w) (row : Option Nat) : a.grownBy w row := ⟨h.os, h.tape, h.output, h.size, fun i hi _ => h.block i hi⟩
theorem own_later {w w1 : World} {base n size : Nat} {e : TypeId} {v : Value} {xs : List Value} (h : w.ownsRow base e size v n xs) (hb : Below w.heap.size w w1) : w1.ownsRow base e size v n xs :=
  h.kept (grown_of_below hb none) (by cases v.ownBlock <;> simp)

/-- how many times each variable is the counter of an open loop -/
def cntL (cs : List Int) : List Int := (List.range 64).map fun d : Nat => ((cs.count (d : Int) : Nat) : Int)
theorem cnt_len (cs : List Int) : (cntL cs).length = 64 := by simp [cntL]
theorem cnt_at {cs : List Int} {d : Nat} (h : d < 64) : (cntL cs)[d]? = some ((cs.count (d : Int) : Nat) : Int) := by simp [cntL, h]
theorem cnt_push {cs : List Int} {d : Nat} (h : d < 64) : (cntL cs).set d (((cs.count (d : Int) : Nat) : Int) + 1) = cntL (cs ++ [(d : Int)]) := by
  apply List.ext_getElem?
  intro i
  rcases Nat.lt_or_ge i 64 with hi | hi
  · rw [List.getElem?_set, cnt_at hi, cnt_at hi, cnt_len]
    by_cases e : d = i
    · subst e; simp [h, List.count_append]
    · rw [if_neg e, List.count_append]
      have : List.count (i : Int) [(d : Int)] = 0 := by rw [List.count_eq_zero]; simp; omega
      rw [this]; simp
  · rw [List.getElem?_eq_none (by simp [cnt_len]; omega), List.getElem?_eq_none (by rw [cnt_len]; omega)]
theorem cnt_pop {cs : List Int} {d : Nat} (h : d < 64) : (cntL (cs ++ [(d : Int)])).set d (((List.count (d : Int) (cs ++ [(d : Int)]) : Nat) : Int) - 1) = cntL cs := by
  apply List.ext_getElem?
  intro i
  rcases Nat.lt_or_ge i 64 with hi | hi
  · rw [List.getElem?_set, cnt_at hi, cnt_at hi, cnt_len]
    by_cases e : d = i
    · subst e; simp [h, List.count_append]
    · rw [if_neg e, List.count_append]
      have : List.count (i : Int) [(d : Int)] = 0 := by rw [List.count_eq_zero]; simp; omega
      rw [this]; simp
  · rw [List.getElem?_eq_none (by simp [cnt_len]; omega), List.getElem?_eq_none (by rw [cnt_len]; omega)]
theorem cnt_le (cs : List Int) (d : Int) : cs.count d ≤ cs.length := List.count_le_length

def CntRel (w : World) (l : List Q5) (v4 i : Value) (wr : World) : Prop := ∃ (k : Nat) (P : List Int) (O : List Nat) (cs : List Int), k ≤ l.length ∧ i = .int .i64 k ∧ cs.length ≤ 10 ∧ O.length = cs.length ∧ (∀ d ∈ cs, 0 ≤ d ∧ d < 64) ∧
  runE (l.drop k) k (P, O) = runE l 0 (List.replicate l.length 0, []) ∧ runC (l.drop k) cs = runC l [] ∧
  wr.ownsRow w.heap.size 85 1 (.slice (some ⟨w.heap.size, 0, none⟩) 64 64) 64 ((cntL cs).map iv) ∧
  wr.ownsRow (w.heap.size + 1) 3 1 v4 cs.length (cs.map iv) ∧ Below w.heap.size w wr
theorem writes_23 {x : Q5} (hc : canS x = true) (h : x.o = 23) : writesS x = x.d := by
  unfold writesS
  have : hasD x.o = true := by unfold hasD; simp; omega
  simp [hc, this]
theorem run_none {l : List Q5} {k : Nat} {P : List Int} (he : (endsS l).isSome = true) {x : Q5} (hx : l[k]? = some x) (h24 : x.o = 24)
    (hrun : runE (l.drop k) k (P, []) = runE l 0 (List.replicate l.length 0, [])) : False := by
  unfold endsS at he
  rw [← hrun, runE_step hx, stepE, if_neg (by omega), if_pos h24] at he
  simp at he
theorem cnt_pop_rel {w w2 : World} {l : List Q5} {k : Nat} {P : List Int} {O : List Nat} {cs : List Int} {d : Int} {x : Q5} {v i : Value} (hlt : k < l.length) (hx : l[k]? = some x) (h24 : x.o = 24)
    (hn : (cs ++ [d]).length ≤ 10) (hO : O.length = (cs ++ [d]).length) (hd : ∀ c ∈ cs ++ [d], 0 ≤ c ∧ c < 64)
    (hrun : runE (l.drop k) k (P, O) = runE l 0 (List.replicate l.length 0, [])) (hcnt : runC (l.drop k) (cs ++ [d]) = runC l [])
    (own3 : w2.ownsRow w.heap.size 85 1 (.slice (some ⟨w.heap.size, 0, none⟩) 64 64) 64 ((cntL cs).map iv))
    (own4 : w2.ownsRow (w.heap.size + 1) 3 1 v cs.length (cs.map iv)) (hb : Below w.heap.size w w2) (hi : i = .int .i64 ((k + 1 : Nat) : Int)) : CntRel w l v i w2 := by
  obtain ⟨O', b, rfl⟩ : ∃ O' b, O = O' ++ [b] := by
    have hn : O ≠ [] := by intro h; subst h; simp at hO
    exact ⟨O.dropLast, O.getLast hn, (List.dropLast_concat_getLast hn).symm⟩
  refine ⟨k + 1, ((P.set k (-1)).set k (b : Int)).set b (k : Int), O', cs, by omega, hi, by simp at hn; omega, by simpa using hO, fun c hc => hd c (List.mem_append_left _ hc), ?_, ?_, own3, own4, hb⟩
  · rw [← hrun, runE_step hx, stepE, if_neg (by omega), if_pos h24]; simp
  · rw [← hcnt, runC_step hx, stepC, if_pos h24]; simp
theorem cnt_skip_rel {w w2 : World} {l : List Q5} {k : Nat} {P : List Int} {O : List Nat} {cs : List Int} {x : Q5} {v i : Value} (hlt : k < l.length) (hx : l[k]? = some x) (h24 : x.o ≠ 24) (h23 : x.o ≠ 23)
    (hn : cs.length ≤ 10) (hO : O.length = cs.length) (hd : ∀ c ∈ cs, 0 ≤ c ∧ c < 64) (hw : ¬ (writesS x ≠ -1 ∧ writesS x ∈ cs))
    (hrun : runE (l.drop k) k (P, O) = runE l 0 (List.replicate l.length 0, [])) (hcnt : runC (l.drop k) cs = runC l [])
    (own3 : w2.ownsRow w.heap.size 85 1 (.slice (some ⟨w.heap.size, 0, none⟩) 64 64) 64 ((cntL cs).map iv))
    (own4 : w2.ownsRow (w.heap.size + 1) 3 1 v cs.length (cs.map iv)) (hb : Below w.heap.size w w2) (hi : i = .int .i64 ((k + 1 : Nat) : Int)) : CntRel w l v i w2 := by
  refine ⟨k + 1, P.set k (-1), O, cs, by omega, hi, hn, hO, hd, ?_, ?_, own3, own4, hb⟩
  · rw [← hrun, runE_step hx, stepE, if_neg h23, if_neg h24]
  · rw [← hcnt, runC_step hx, stepC, if_neg h24, if_neg hw, if_neg h23]
theorem cnt_push_rel {w w2 : World} {l : List Q5} {k : Nat} {P : List Int} {O : List Nat} {cs : List Int} {x : Q5} {v i : Value} (hlt : k < l.length) (hx : l[k]? = some x) (h23 : x.o = 23)
    (hn : cs.length < 10) (hO : O.length = cs.length) (hd : ∀ c ∈ cs, 0 ≤ c ∧ c < 64) (hw : ¬ (writesS x ≠ -1 ∧ writesS x ∈ cs)) (hx2 : 0 ≤ x.d ∧ x.d < 64)
    (hrun : runE (l.drop k) k (P, O) = runE l 0 (List.replicate l.length 0, [])) (hcnt : runC (l.drop k) cs = runC l [])
    (own3 : w2.ownsRow w.heap.size 85 1 (.slice (some ⟨w.heap.size, 0, none⟩) 64 64) 64 ((cntL (cs ++ [x.d])).map iv))
    (own4 : w2.ownsRow (w.heap.size + 1) 3 1 v (cs.length + 1) (cs.map iv ++ [iv x.d])) (hb : Below w.heap.size w w2) (hi : i = .int .i64 ((k + 1 : Nat) : Int)) : CntRel w l v i w2 := by
  refine ⟨k + 1, P.set k (-1), O ++ [k], cs ++ [x.d], by omega, hi, by simp; omega, by simp [hO], ?_, ?_, ?_, own3, by simpa using own4, hb⟩
  · intro c hc
    rcases List.mem_append.1 hc with g | g
    · exact hd c g
    · simp at g; omega
  · rw [← hrun, runE_step hx, stepE, if_pos h23]
  · rw [← hcnt, runC_step hx, stepC, if_neg (by omega), if_neg hw, if_pos h23, if_neg (by omega)]
theorem cnt_no {l : List Q5} {k : Nat} {cs : List Int} {x : Q5} (hx : l[k]? = some x) (h24 : x.o ≠ 24)
    (hw : (writesS x ≠ -1 ∧ writesS x ∈ cs) ∨ (x.o = 23 ∧ cs.length = 10)) (hcnt : runC (l.drop k) cs = runC l []) : countedS l = false := by
  unfold countedS
  rw [← hcnt, runC_step hx, stepC, if_neg h24]
  rcases hw with hw | ⟨h23, h10⟩
  · rw [if_pos hw]; rfl
  · by_cases h : writesS x ≠ -1 ∧ writesS x ∈ cs
    · rw [if_pos h]; rfl
    · rw [if_neg h, if_pos h23, if_pos h10]; rfl
theorem cnt_all {l : List Q5} {cs : List Int} (hcnt : runC (l.drop l.length) cs = runC l []) : countedS l = true := by
  unfold countedS
  rw [← hcnt, List.drop_length]
  rfl

set_option maxRecDepth 100000 in
set_option maxHeartbeats 1000000 in
theorem counted_any (a : Option Addr) (c : Nat) (l : List Q5) (w : World) (hl : L5 w a l) (hcan : ∀ x ∈ l, canS x = true) (he : (endsS l).isSome = true) :
    Calls Try.prog 27 #[.slice a l.length c] w fun e w' => e = .returned (.bool (countedS l)) ∧ Below w.heap.size w w' := by
  obtain ⟨i0, hi, hz0, hz1, hz2⟩ := info_parts info_int
  have hlen := hl.1
  have HL := Lib.hid hl
  have HE := Lib.hid he
  have HC := Lib.hid hcan
  clear hl he hcan
  go_enter Try.func27, Try.ntmps27
  go_wp2_with fail
  go_loopw [4, 11] (fun v4 i wr => CntRel w l v4 i wr) (fun _ i _ => l.length - (intOf i).toNat)
  case atStart =>
    exact ⟨0, List.replicate l.length 0, [], [], Nat.zero_le _, rfl, by simp, by simp, by simp, rfl, rfl,
      World.ownsRow_lit (base := w.heap.size) (size := 1) (e := 85) w ((cntL []).map iv).toArray 64 (Nat.le_refl _) (by decide) (by simp [cnt_len]), World.ownsRow_nil _ _ _ _, by go_grown⟩
  case round =>
    obtain ⟨k, P, O, cs, hk, rfl, hn10, hO, hd, hrun, hcnt, own3, own4, hb⟩ := hrel
    by_cases hlt : k < l.length
    · obtain ⟨x, hx⟩ := lookup hlt
      obtain ⟨xo, xd, xa, xb, xi⟩ := x
      have hl2 := HL.out.later hb
      obtain ⟨_, hnil | ⟨bb, off, rfl, hbb, hc⟩⟩ := hl2
      · rw [hnil] at hlt; simp at hlt
      obtain ⟨p0, p1, p2, p3, p4⟩ := hc k _ hx
      have hcx := HC.out _ (List.mem_of_getElem? hx)
      have hz := (own3.lt w.heap.size rfl).2
      have HCX := Lib.hid hcx
      have HR := Lib.hid hrun
      have HK := Lib.hid hcnt
      have HX := Lib.hid hx
      have HO := Lib.hid hO
      have HD := Lib.hid hd
      have HB := Lib.hid hb
      have H3 := Lib.hid own3
      have H4 := Lib.hid own4
      obtain ⟨a4, q4, rfl, hq1, hq2, hg4⟩ := own_form own4
      clear hrun hcnt hx hO hd hb hc hcx own3 own4
      by_cases h24 : xo = 24
      · have t24 : (xo == 24) = true := by simp [h24]
        have H24 := Lib.hid h24
        clear h24
        by_cases hcs : cs = []
        · subst hcs
          exfalso
          have h0 : O = [] := List.eq_nil_of_length_eq_zero (by simpa using HO.out)
          subst h0
          exact run_none HE.out HX.out H24.out HR.out
        · obtain ⟨cs', d, rfl⟩ : ∃ cs' d, cs = cs' ++ [d] := ⟨cs.dropLast, cs.getLast hcs, (List.dropLast_concat_getLast hcs).symm⟩
          clear hcs
          obtain ⟨g, rfl, hg1, hg2⟩ := hg4 (by simp)
          obtain ⟨hd0, hd1⟩ := HD.out d (by simp)
          obtain ⟨D, rfl⟩ : ∃ D : Nat, d = (D : Int) := ⟨d.toNat, by omega⟩
          have hD : D < 64 := by omega
          have cg := H4.out.cellAt cs'.length (by simp)
          simp at cg
          unfold iv at cg
          have cd := H3.out.cellAt D (by omega)
          rw [List.getElem?_map, cnt_at hD, Option.map_some] at cd
          unfold iv at cd
          have fz := H3.out.frozenAt D
          have hgn : g ≠ w.heap.size := by omega
          have hgn' : w.heap.size ≠ g := by omega
          have hlen2 : (cs' ++ [(D : Int)]).length = cs'.length + 1 := by simp
          have cle := cnt_le (cs' ++ [(D : Int)]) (D : Int)
          have ST := Lib.hid (H3.out.stored D (iv (((List.count (D : Int) (cs' ++ [(D : Int)]) : Nat) : Int) - 1)))
          have PP := Lib.hid (cnt_pop (cs := cs') hD)
          have L1 := Lib.hid hlen2
          have HN := Lib.hid hn10
          rw [hlen2] at hq1 cle ⊢
          have hn10' : cs'.length + 1 ≤ 10 := by omega
          generalize List.count (D : Int) (cs' ++ [(D : Int)]) = cn at *
          clear hlen2 hg4 hn10
          go_wp2_with fail
          refine ⟨cnt_pop_rel hlt HX.out H24.out HN.out HO.out HD.out HR.out HK.out ?_ ?_ ((HB.out.setCell (Nat.le_refl _) _).alloc (by simp; omega) _) rfl, by simp [intOf]; omega⟩
          · have := ST.out.1
            rw [← List.map_set, PP.out] at this
            exact this.alloc _
          · have h5 := H4.out
            rw [L1.out] at h5
            have := own_shrink (h5.kept ST.out.2 (Or.inr (by simp [Value.ownBlock]; omega)))
            simp only [List.map_append, List.map_cons, List.map_nil, List.dropLast_concat] at this
            exact this.alloc _
      · have t24 : (xo == 24) = false := by simp [h24]
        have H24 := Lib.hid h24
        clear h24 hg4
        go_wp2_with fail
        have HB0 := Lib.hid HB.out
        rcases writes_bd (x := ⟨xo, xd, xa, xb, xi⟩) with hw | hw
        · have h23 : xo ≠ 23 := fun h => by
            have h1 := writes_23 HCX.out h
            have h2 := can_d HCX.out
            rw [hw] at h1
            simp only at h1 h2
            omega
          have t23 : (xo == 23) = false := by simp [h23]
          have H23 := Lib.hid h23
          have HW := Lib.hid hw
          clear h23 hw
          refine (writes_any xo xd xa xb xi _).mono ?_
          rw [HW.out]
          rintro e w1 ⟨rfl, hb1⟩
          obtain ⟨hbox, hz1', hz2'⟩ := boxed hb1
          have b0 := hbox 0 (.int .i64 xo) rfl
          have O3 := Lib.hid (own_later (H3.out.alloc _) hb1)
          have O4 := Lib.hid (own_later (H4.out.alloc _) hb1)
          have HB1 := Lib.hid ((HB.out.alloc (o := .cells #[.int .i64 xo, .int .i64 xd, .int .i64 xa, .int .i64 xb, .int .i32 xi] 46) (by omega)).trans (hb1.mono (by simp; omega)))
          clear hbox hb1
          go_wp2_with fail
          refine ⟨cnt_skip_rel hlt HX.out H24.out H23.out hn10 HO.out HD.out (fun h => h.1 HW.out) HR.out HK.out O3.out O4.out HB1.out rfl, by simp [intOf]; omega⟩
        · obtain ⟨D, hwD⟩ : ∃ D : Nat, writesS ⟨xo, xd, xa, xb, xi⟩ = (D : Int) := ⟨(writesS ⟨xo, xd, xa, xb, xi⟩).toNat, by omega⟩
          have hD : D < 64 := by omega
          have HW := Lib.hid hwD
          clear hwD hw
          refine (writes_any xo xd xa xb xi _).mono ?_
          rw [HW.out]
          rintro e w1 ⟨rfl, hb1⟩
          obtain ⟨hbox, hz1', hz2'⟩ := boxed hb1
          have b0 := hbox 0 (.int .i64 xo) rfl
          have b1 := hbox 1 (.int .i64 xd) rfl
          have O3 := Lib.hid (own_later (H3.out.alloc (.cells #[.int .i64 xo, .int .i64 xd, .int .i64 xa, .int .i64 xb, .int .i32 xi] 46)) hb1)
          have O4 := Lib.hid (own_later (H4.out.alloc (.cells #[.int .i64 xo, .int .i64 xd, .int .i64 xa, .int .i64 xb, .int .i32 xi] 46)) hb1)
          have HB1 := Lib.hid ((HB.out.alloc (o := .cells #[.int .i64 xo, .int .i64 xd, .int .i64 xa, .int .i64 xb, .int .i32 xi] 46) (by omega)).trans (hb1.mono (by simp; omega)))
          have cd := O3.out.cellAt D (by omega)
          rw [List.getElem?_map, cnt_at hD, Option.map_some] at cd
          unfold iv at cd
          have fz := O3.out.frozenAt D
          have hzH : w.heap.size < w1.heap.size := by omega
          have tm : ((D : Int) != -1) = true := by first | (simp; done) | (simp; omega)
          have cle := cnt_le cs (D : Int)
          have CP := Lib.hid (List.count_pos_iff (a := (D : Int)) (l := cs))
          have ST := Lib.hid (O3.out.stored D (iv (((List.count (D : Int) cs : Nat) : Int) + 1)))
          have PP := Lib.hid (cnt_push (cs := cs) hD)
          have LT4 := Lib.hid O4.out.lt
          clear hbox hb1
          generalize List.count (D : Int) cs = cn at *
          by_cases hcn : 0 < cn
          · go_wp2_with fail
            go_ret
            exact ⟨ret_bool' (cnt_no HX.out H24.out (Or.inl ⟨by rw [HW.out]; omega, by rw [HW.out]; exact CP.out.1 hcn⟩) HK.out).symm, HB1.out⟩
          · have HN := Lib.hid (show ¬ (writesS ⟨xo, xd, xa, xb, xi⟩ ≠ -1 ∧ writesS ⟨xo, xd, xa, xb, xi⟩ ∈ cs) from fun h => hcn (CP.out.2 (by rw [← HW.out]; exact h.2)))
            by_cases h23 : xo = 23
            · have t23 : (xo == 23) = true := by simp [h23]
              have H23 := Lib.hid h23
              have hxd := writes_23 HCX.out h23
              rw [HW.out] at hxd
              simp only at hxd
              clear h23
              subst hxd
              by_cases h10 : cs.length = 10
              · have t10 : ((cs.length : Int) == 10) = true := by first | (simp [h10]; done) | (simp; omega)
                have H10 := Lib.hid h10
                clear h10
                go_wp2_with fail
                go_ret
                exact ⟨ret_bool' (cnt_no HX.out H24.out (Or.inr ⟨H23.out, H10.out⟩) HK.out).symm, HB1.out⟩
              · have t10 : ((cs.length : Int) == 10) = false := by simp; omega
                have K4 := Lib.hid (O4.out.kept ST.out.2 (by
                  cases h : (Value.slice a4 cs.length q4).ownBlock with
                  | none => exact Or.inl rfl
                  | some q => have := (LT4.out q h).1; right; simp; omega))
                have E1 := Lib.hid (show cs.length + 1 ≤ maxLen by simp only [maxLen]; omega)
                have HB2 := Lib.hid (HB1.out.setCell (p := ⟨w.heap.size, D, none⟩) (Nat.le_refl _) (.int .i64 ((cn : Int) + 1)))
                go_wp2_with ((at_builtin; refine wpList_append_own _ rfl (.tmp 54) (.tmp 57) 40 rfl (w.heap.size + 1) 3 i0 (.int .i64 0) 1 8 Try.underlying40 hi hz0 hz1 hz2 rfl (by decide) (.slice a4 cs.length q4) cs.length (cs.map iv) rfl (K4.out.alloc _) ⟨w1.heap.size, 0, none⟩ 1 1 [ivn D] rfl rfl (news_n _ D _ (by simp)) ivn_one E1.out (by omega) (by simp; omega) ?_; intro v1 w2 hown hg hn))
                refine ⟨cnt_push_rel hlt HX.out H23.out (by omega) HO.out HD.out HN.out (by simp only; omega) HR.out HK.out ?_ hown ?_ rfl, by simp [intOf]; omega⟩
                · have := ST.out.1
                  rw [← List.map_set, PP.out] at this
                  refine (this.alloc _).kept hg (Or.inr ?_)
                  intro e
                  have := (LT4.out w.heap.size e.symm).1
                  omega
                · exact below_grown' (HB2.out.alloc (by simp; omega) _) hg (fun q hq => by have := (LT4.out q hq).1; omega)
            · have t23 : (xo == 23) = false := by simp [h23]
              have H23 := Lib.hid h23
              clear h23
              go_wp2_with fail
              refine ⟨cnt_skip_rel hlt HX.out H24.out H23.out hn10 HO.out HD.out HN.out HR.out HK.out O3.out O4.out HB1.out rfl, by simp [intOf]; omega⟩
    · obtain rfl : k = l.length := by omega
      have HK := Lib.hid hcnt
      have HB := Lib.hid hb
      clear hlt hrun hcnt own3 own4 hb hd hO
      go_wp2_with fail
      go_ret
      exact ⟨ret_bool' (cnt_all HK.out).symm, HB.out⟩

theorem check_long {l : List Q5} (h : 20000 < l.length) : checkS l = 2 := by unfold checkS; rw [if_pos h]
theorem check_arg {l : List Q5} {x : Q5} (h : ¬ 20000 < l.length) (hx : x ∈ l) (hc : canS x = false) : checkS l = 1 := by
  unfold checkS
  rw [if_neg h, if_pos (by rw [List.any_eq_true]; exact ⟨x, hx, by rw [hc]; rfl⟩)]
theorem check_ends {l : List Q5} (h : ¬ 20000 < l.length) (hc : ∀ x ∈ l, canS x = true) (he : endsS l = none) : checkS l = 4 := by
  unfold checkS
  rw [if_neg h, if_neg (by simp; exact hc), if_pos (by rw [he]; rfl)]
theorem check_cnt {l : List Q5} (h : ¬ 20000 < l.length) (hc : ∀ x ∈ l, canS x = true) {P : List Int} (he : endsS l = some P) : checkS l = if countedS l then 0 else 4 := by
  unfold checkS
  rw [if_neg h, if_neg (by simp; exact hc), he]
  cases countedS l <;> rfl

set_option maxRecDepth 100000 in
set_option maxHeartbeats 1000000 in
theorem check_any (a : Option Addr) (c : Nat) (l : List Q5) (w : World) (hl : L5 w a l) :
    Calls Try.prog 14 #[.slice a l.length c] w fun e w' => e = .returned (.int .i64 (checkS l)) ∧ Below w.heap.size w w' := by
  have hlen := hl.1
  have HL := Lib.hid hl
  clear hl
  by_cases h2 : 20000 < l.length
  · have E := Lib.hid (check_long h2)
    have h2' : decide (20000 < l.length) = true := by simpa using h2
    go_enter Try.func14, Try.ntmps14
    go_wp2_with fail
    go_ret
    exact ⟨ret_i64' E.out.symm, by go_grown⟩
  · have H2 := Lib.hid h2
    have h2' : decide (20000 < l.length) = false := by simpa using h2
    go_enter Try.func14, Try.ntmps14
    go_wp2_with fail
    clear h2'
    go_loopw [14] (fun i wr => ∃ k : Nat, k ≤ l.length ∧ i = .int .i64 k ∧ (∀ x ∈ l.take k, canS x = true) ∧ Below w.heap.size w wr) (fun i _ => l.length - (intOf i).toNat)
    case atStart => exact ⟨0, Nat.zero_le _, rfl, by simp, by go_grown⟩
    case round =>
      obtain ⟨k, hk, rfl, hall, hb⟩ := hrel
      have HA := Lib.hid hall
      clear hall
      by_cases hlt : k < l.length
      · obtain ⟨x, hx⟩ := lookup hlt
        obtain ⟨xo, xd, xa, xb, xi⟩ := x
        have hl2 := HL.out.later hb
        obtain ⟨_, hnil | ⟨bb, off, rfl, hbb, hc⟩⟩ := hl2
        · rw [hnil] at hlt; simp at hlt
        obtain ⟨p0, p1, p2, p3, p4⟩ := hc k _ hx
        have HX := Lib.hid hx
        have HB := Lib.hid hb
        have hz := hb.size
        clear hx hc hb
        cases hcx : canS ⟨xo, xd, xa, xb, xi⟩
        · have E := Lib.hid (check_arg H2.out (List.mem_of_getElem? HX.out) hcx)
          have CX := Lib.hid hcx
          clear hcx
          go_wp2_with fail
          refine (can_not xo xd xa xb xi _ CX.out).mono ?_
          rintro e w1 ⟨rfl, hb1⟩
          obtain ⟨_, hz1, hz2⟩ := boxed hb1
          have HB1 := Lib.hid ((HB.out.alloc (o := .cells #[.int .i64 xo, .int .i64 xd, .int .i64 xa, .int .i64 xb, .int .i32 xi] 46) (by omega)).trans (hb1.mono (by simp; omega)))
          clear hb1
          go_wp2_with fail
          go_ret
          exact ⟨ret_i64' E.out.symm, HB1.out.alloc (by omega) _⟩
        · have CX := Lib.hid hcx
          clear hcx
          go_wp2_with fail
          refine (can_yes xo xd xa xb xi _ CX.out).mono ?_
          rintro e w1 ⟨rfl, hb1⟩
          obtain ⟨_, hz1, hz2⟩ := boxed hb1
          have HB1 := Lib.hid ((HB.out.alloc (o := .cells #[.int .i64 xo, .int .i64 xd, .int .i64 xa, .int .i64 xb, .int .i32 xi] 46) (by omega)).trans (hb1.mono (by simp; omega)))
          clear hb1
          go_wp2_with fail
          refine ⟨⟨k + 1, by omega, rfl, ?_, HB1.out.alloc (by omega) _⟩, by simp [intOf]; omega⟩
          intro y hy
          rw [List.take_add_one, HX.out] at hy
          rcases List.mem_append.1 hy with g | g
          · exact HA.out y g
          · simp at g; subst g; exact CX.out
      · obtain rfl : k = l.length := by omega
        clear hlt
        have hall := HA.out
        rw [List.take_length] at hall
        have HC := Lib.hid hall
        have HB := Lib.hid hb
        have L2 := Lib.hid (HL.out.later hb)
        have hz := hb.size
        clear hall hb HA
        go_wp2_with fail
        refine (ends_any a c l wr L2.out).mono ?_
        rintro e w1 ⟨hm, hb1⟩
        have HB1 := Lib.hid (HB.out.trans (hb1.mono hz))
        have L3 := Lib.hid (L2.out.later hb1)
        clear hb1
        cases he : endsS l with
        | none =>
          have E := Lib.hid (check_ends H2.out HC.out he)
          rw [he] at hm
          subst hm
          clear he
          go_wp2_with fail
          go_ret
          exact ⟨ret_i64' E.out.symm, HB1.out⟩
        | some P =>
          have E := Lib.hid (check_cnt H2.out HC.out he)
          rw [he] at hm
          obtain ⟨v, rfl, _⟩ := hm
          have HE := Lib.hid (show (endsS l).isSome = true by rw [he]; rfl)
          clear he
          go_wp2_with fail
          refine (counted_any a c l w1 L3.out HC.out HE.out).mono ?_
          cases hcn : countedS l
          · have HK := Lib.hid hcn
            clear hcn
            rintro e w2 ⟨rfl, hb2⟩
            have HB2 := Lib.hid (HB1.out.trans (hb2.mono HB1.out.size))
            clear hb2
            go_wp2_with fail
            go_ret
            exact ⟨ret_i64' (by rw [E.out, HK.out]; rfl), HB2.out⟩
          · have HK := Lib.hid hcn
            clear hcn
            rintro e w2 ⟨rfl, hb2⟩
            have HB2 := Lib.hid (HB1.out.trans (hb2.mono HB1.out.size))
            clear hb2
            go_wp2_with fail
            go_ret
            exact ⟨ret_i64' (by rw [E.out, HK.out]; rfl), HB2.out⟩
end Go.Proofs.Ytlieapapmkbbgaa
