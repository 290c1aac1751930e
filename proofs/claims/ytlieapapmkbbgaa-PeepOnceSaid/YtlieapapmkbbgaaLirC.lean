/- Contracts of lir.Ends and of comparing lists of numbers. -/
import Derived.Test.YtlieapapmkbbgaaLirB
import Derived.Deep.OwnRows
namespace Go.Proofs.Ytlieapapmkbbgaa
open Go Go.RowKit
set_option linter.unusedVariables false

/-- a slice of numbers: where they lie -/
def IAt (w : World) (a : Option Addr) (l : List Int) : Prop := l.length ≤ 1000000000000 ∧ (l = [] ∨ ∃ b off, a = some ⟨b, off, none⟩ ∧ b < w.heap.size ∧ ∀ k x, l[k]? = some x → w.cell? ⟨b, off + k, none⟩ = some (.int .i64 x))
theorem IAt.later {w w' : World} {a : Option Addr} {l : List Int} (h : IAt w a l) (hb : Below w.heap.size w w') : IAt w' a l := by
  obtain ⟨h1, h | ⟨b, off, rfl, hlt, hc⟩⟩ := h
  · exact ⟨h1, Or.inl h⟩
  · exact ⟨h1, Or.inr ⟨b, off, rfl, Nat.lt_of_lt_of_le hlt hb.size, fun k x hx => (hb.cell hlt).trans (hc k x hx)⟩⟩
theorem own_i {w : World} {base : Nat} {v : Value} {l : List Int} (h : OwnI w base v l) (hl : l.length ≤ 1000000000000) : ∃ a c, v = .slice a l.length c ∧ IAt w a l := by
  have hlt := h.lt
  have h' := h
  obtain ⟨_, ⟨hv, hn⟩ | ⟨g, cap, cur, hv, hg, hh, hc, hcm, _⟩⟩ := h
  · have : l = [] := List.eq_nil_of_length_eq_zero hn
    subst this
    exact ⟨none, 0, hv, by simp, Or.inl rfl⟩
  · refine ⟨some ⟨g, 0, none⟩, cap, hv, hl, Or.inr ⟨g, 0, rfl, (hlt g (by rw [hv]; rfl)).2, fun k x hx => ?_⟩⟩
    have := h'.cells (g := g) (by rw [hv]; rfl) k (iv x) (by rw [List.getElem?_map, hx]; rfl)
    rw [add_at] at this
    exact this
theorem ints_lit (w : World) (l : List Int) (H : Nat) (hH : w.heap.size = H) (hl : l.length ≤ 1000000000000) : IAt (w.alloc (.cells (l.map iv).toArray 3)) (some ⟨H, 0, none⟩) l := by
  subst hH
  refine ⟨hl, Or.inr ⟨w.heap.size, 0, rfl, by simp, fun k x hx => ?_⟩⟩
  rw [Nat.zero_add, World.cell?_alloc_new]
  simp [hx, iv]

theorem own_shrink {w : World} {base g n cap : Nat} {e : TypeId} {xs : List Value} (h : w.ownsRow base e 1 (.slice (some ⟨g, 0, none⟩) (n + 1) cap) (n + 1) xs) :
    w.ownsRow base e 1 (.slice (some ⟨g, 0, none⟩) n cap) n xs.dropLast := by
  obtain ⟨hl, ⟨h', _⟩ | ⟨g', cap', cur, h', hb, hg, hnc, hcm, hcs, htake⟩⟩ := h
  · cases h'
  · simp only [Value.slice.injEq, Option.some.injEq, Addr.mk.injEq, and_true, true_and] at h'
    obtain ⟨rfl, rfl⟩ := h'
    refine ⟨by simp [hl], .inr ⟨g, cap, cur, rfl, hb, hg, by omega, hcm, hcs, ?_⟩⟩
    rw [List.dropLast_eq_take, ← htake, List.take_take, List.length_take]
    congr 1
    rw [Array.length_toList, hcs]
    omega

def ivn (b : Nat) : Value := .int .i64 (b : Int)
theorem news_n (w : World) (x : Nat) (H : Nat) (hH : w.heap.size = H) : ∀ j u, [ivn x][j]? = some u → (w.alloc (.cells #[.int .i64 (x : Int)] 3)).cell? ((⟨H, 0, none⟩ : Addr).add j) = some u := by
  subst hH
  intro j u h
  rw [add_at, Nat.zero_add, World.cell?_alloc_new]
  simpa [ivn] using h
theorem ivn_one {k : Nat} : ∀ u ∈ [ivn k], u.oneCell' = true := by
  intro u hu
  simp only [List.mem_singleton] at hu
  subst hu
  rfl
def EndsRel (w : World) (l : List Q5) (v5 i : Value) (wr : World) : Prop := ∃ (k : Nat) (P : List Int) (O : List Nat), k ≤ l.length ∧ i = .int .i64 k ∧ P.length = l.length ∧ (∀ b ∈ O, b < k) ∧ O.length ≤ k ∧
  runE (l.drop k) k (P, O) = runE l 0 (List.replicate l.length 0, []) ∧ wr.ownsRow w.heap.size 3 1 (.slice (some ⟨w.heap.size, 0, none⟩) l.length l.length) l.length (P.map iv) ∧
  wr.ownsRow (w.heap.size + 1) 3 1 v5 O.length (O.map ivn) ∧ Below w.heap.size w wr
def EndsPost (w : World) (l : List Q5) (e : Ending) (w' : World) : Prop :=
  (match endsS l with
    | some P => ∃ v, e = .returned (.tuple #[v, .bool true]) ∧ OwnI w' w.heap.size v P
    | none => e = .returned (.tuple #[.slice none 0 0, .bool false])) ∧ Below w.heap.size w w'
theorem made_zero (n : Nat) : (madeCells #[Value.int .i64 0] n).toList = (List.replicate n (0 : Int)).map iv := by
  apply List.ext_getElem
  · simp [madeCells]
  · intro i h1 h2
    simp [madeCells, iv, Nat.mod_one]

theorem own_form {w : World} {base n : Nat} {e : TypeId} {v : Value} {xs : List Value} (h : w.ownsRow base e 1 v n xs) : ∃ a c, v = .slice a n c ∧ n ≤ c ∧ c ≤ 9223372036854775807 ∧ (0 < n → ∃ g, a = some ⟨g, 0, none⟩ ∧ base ≤ g ∧ g < w.heap.size) := by
  have hlt := h.lt
  obtain ⟨_, ⟨hv, hn⟩ | ⟨g, cap, cur, hv, hg, hh, hc, hcm, _⟩⟩ := h
  · subst hn; exact ⟨none, 0, hv, by omega, by omega, fun h => by omega⟩
  · exact ⟨_, cap, hv, hc, by simpa [maxLen] using hcm, fun _ => ⟨g, rfl, hg, (hlt g (by rw [hv]; rfl)).2⟩⟩
theorem ends_push {w w2 : World} {l : List Q5} {k : Nat} {P : List Int} {O : List Nat} {x : Q5} {v i : Value} (hlt : k < l.length) (hx : l[k]? = some x) (h23 : x.o = 23) (hP : P.length = l.length) (hO : ∀ b ∈ O, b < k) (hK : O.length ≤ k)
    (hrun : runE (l.drop k) k (P, O) = runE l 0 (List.replicate l.length 0, []))
    (own4 : w2.ownsRow w.heap.size 3 1 (.slice (some ⟨w.heap.size, 0, none⟩) l.length l.length) l.length ((P.map iv).set k (iv (-1))))
    (own5 : w2.ownsRow (w.heap.size + 1) 3 1 v (O.length + 1) (O.map ivn ++ [ivn k])) (hb : Below w.heap.size w w2) (hi : i = .int .i64 ((k + 1 : Nat) : Int)) : EndsRel w l v i w2 := by
  refine ⟨k + 1, P.set k (-1), O ++ [k], by omega, hi, by simp [hP], ?_, by simp; omega, ?_, by rw [List.map_set]; exact own4, by simpa using own5, hb⟩
  · intro b hb
    rcases List.mem_append.1 hb with g | g
    · have := hO b g; omega
    · simp at g; omega
  · rw [← hrun, runE_step hx, stepE, if_pos h23]
theorem ends_other {w w2 : World} {l : List Q5} {k : Nat} {P : List Int} {O : List Nat} {x : Q5} {v i : Value} (hlt : k < l.length) (hx : l[k]? = some x) (h23 : x.o ≠ 23) (h24 : x.o ≠ 24) (hP : P.length = l.length) (hO : ∀ b ∈ O, b < k) (hK : O.length ≤ k)
    (hrun : runE (l.drop k) k (P, O) = runE l 0 (List.replicate l.length 0, []))
    (own4 : w2.ownsRow w.heap.size 3 1 (.slice (some ⟨w.heap.size, 0, none⟩) l.length l.length) l.length ((P.map iv).set k (iv (-1))))
    (own5 : w2.ownsRow (w.heap.size + 1) 3 1 v O.length (O.map ivn)) (hb : Below w.heap.size w w2) (hi : i = .int .i64 ((k + 1 : Nat) : Int)) : EndsRel w l v i w2 := by
  refine ⟨k + 1, P.set k (-1), O, by omega, hi, by simp [hP], ?_, by omega, ?_, by rw [List.map_set]; exact own4, own5, hb⟩
  · intro b hb; have := hO b hb; omega
  · rw [← hrun, runE_step hx, stepE, if_neg h23, if_neg h24]
theorem ends_pop {w w2 : World} {l : List Q5} {k b : Nat} {P : List Int} {O : List Nat} {x : Q5} {v i : Value} (hlt : k < l.length) (hx : l[k]? = some x) (h24 : x.o = 24) (hP : P.length = l.length) (hO : ∀ c ∈ O ++ [b], c < k) (hK : O.length ≤ k)
    (hrun : runE (l.drop k) k (P, O ++ [b]) = runE l 0 (List.replicate l.length 0, []))
    (own4 : w2.ownsRow w.heap.size 3 1 (.slice (some ⟨w.heap.size, 0, none⟩) l.length l.length) l.length ((((P.map iv).set k (iv (-1))).set k (ivn b)).set b (ivn k)))
    (own5 : w2.ownsRow (w.heap.size + 1) 3 1 v O.length (O.map ivn)) (hb : Below w.heap.size w w2) (hi : i = .int .i64 ((k + 1 : Nat) : Int)) : EndsRel w l v i w2 := by
  refine ⟨k + 1, ((P.set k (-1)).set k (b : Int)).set b (k : Int), O, by omega, hi, by simp [hP], ?_, by omega, ?_, by rw [List.map_set, List.map_set, List.map_set]; exact own4, own5, hb⟩
  · intro c hc; have := hO c (List.mem_append_left _ hc); omega
  · rw [← hrun, runE_step hx, stepE, if_neg (by omega), if_pos h24]
    simp
theorem ends_bad {w w2 : World} {l : List Q5} {k : Nat} {P : List Int} {x : Q5} (hx : l[k]? = some x) (h24 : x.o = 24)
    (hrun : runE (l.drop k) k (P, []) = runE l 0 (List.replicate l.length 0, [])) (hb : Below w.heap.size w w2) : EndsPost w l (.returned (.tuple #[.slice none 0 0, .bool false])) w2 := by
  have : endsS l = none := by
    unfold endsS
    rw [← hrun, runE_step hx, stepE, if_neg (by omega), if_pos h24]
    rfl
  unfold EndsPost
  rw [this]
  exact ⟨rfl, hb⟩
theorem ends_open {w w2 : World} {l : List Q5} {P : List Int} {O : List Nat} (hO : O ≠ [])
    (hrun : runE (l.drop l.length) l.length (P, O) = runE l 0 (List.replicate l.length 0, [])) (hb : Below w.heap.size w w2) : EndsPost w l (.returned (.tuple #[.slice none 0 0, .bool false])) w2 := by
  have : endsS l = none := by
    unfold endsS
    rw [← hrun, List.drop_length]
    cases O with
    | nil => exact absurd rfl hO
    | cons a b => rfl
  unfold EndsPost
  rw [this]
  exact ⟨rfl, hb⟩
theorem ends_good {w w2 : World} {l : List Q5} {P : List Int} {v : Value} (hP : P.length = l.length)
    (hrun : runE (l.drop l.length) l.length (P, []) = runE l 0 (List.replicate l.length 0, []))
    (own4 : w2.ownsRow w.heap.size 3 1 v l.length (P.map iv)) (hb : Below w.heap.size w w2) : EndsPost w l (.returned (.tuple #[v, .bool true])) w2 := by
  have : endsS l = some P := by
    unfold endsS
    rw [← hrun, List.drop_length]
    rfl
  unfold EndsPost
  rw [this]
  refine ⟨⟨v, rfl, ?_⟩, hb⟩
  unfold OwnI
  rw [hP]
  exact own4

set_option maxRecDepth 100000 in
set_option maxHeartbeats 1000000 in
theorem ends_any (a : Option Addr) (c : Nat) (l : List Q5) (w : World) (hl : L5 w a l) :
    Calls Try.prog 15 #[.slice a l.length c] w (EndsPost w l) := by
  obtain ⟨i0, hi, hz0, hz1, hz2⟩ := info_parts info_int
  have hlen := hl.1
  have hmk := fun W => run_make_row' (P := Try.prog) 40 3 (.int .i64 0) 8 Try.underlying40 info_int rfl .i64 .i64 l.length (by omega) (by omega) W
  have OW0 := Lib.hid (World.ownsRow_lit (base := w.heap.size) (size := 1) (e := 3) w (madeCells #[Value.int .i64 0] l.length) l.length (Nat.le_refl _) (by simp only [maxLen]; omega) (by rw [size_madeCells]; omega))
  have HL := Lib.hid hl
  clear hl
  go_enter Try.func15, Try.ntmps15
  go_wp2_with fail
  go_loopw [5, 14] (fun v5 i wr => EndsRel w l v5 i wr) (fun _ i _ => l.length - (intOf i).toNat)
  case atStart =>
    exact ⟨0, List.replicate l.length 0, [], Nat.zero_le _, rfl, by simp, by simp, by simp, rfl, by rw [← made_zero]; exact OW0.out, World.ownsRow_nil _ _ _ _, by go_grown⟩
  case round =>
    obtain ⟨k, P, O, hk, rfl, hP, hO, hK, hrun, own4, own5, hb⟩ := hrel
    clear hmk
    by_cases hlt : k < l.length
    · obtain ⟨x, hx⟩ := lookup hlt
      have hl2 := HL.out.later hb
      obtain ⟨_, hnil | ⟨bb, off, rfl, hbb, hc⟩⟩ := hl2
      · rw [hnil] at hlt; simp at hlt
      obtain ⟨p0, p1, p2, p3, p4⟩ := hc k x hx
      have c4 := own4.cellAt k (by omega)
      rw [List.getElem?_map] at c4
      obtain ⟨y, hy⟩ := lookup (l := P) (k := k) (by omega)
      rw [hy] at c4
      have c4' : wr.cell? ⟨w.heap.size, k, none⟩ = some (.int .i64 y) := c4
      have fz := own4.frozenAt k
      have hz := (own4.lt w.heap.size rfl).2
      clear c4 hc
      have RUN := Lib.hid (runE_step hx k (P, O))
      have HR := Lib.hid hrun
      have HX := Lib.hid hx
      have HO := Lib.hid hO
      have HP := Lib.hid hP
      have HY := Lib.hid hy
      clear hrun hx hO hP hy
      have H5 := Lib.hid own5
      have H4 := Lib.hid own4
      have HB := Lib.hid hb
      have ST := Lib.hid (own4.stored k (iv (-1)))
      have K5 := Lib.hid (own5.kept (own4.stored k (iv (-1))).2 (by
        cases h : u5.ownBlock with
        | none => exact Or.inl rfl
        | some q => have := (own5.lt q h).1; right; simp; omega))
      have LT5 := Lib.hid own5.lt
      obtain ⟨a5, q5, rfl, hq1, hq2, hg5⟩ := own_form own5
      have E1 := Lib.hid (show O.length + 1 ≤ maxLen by simp only [maxLen]; omega)
      have HB5 := Lib.hid (show Below w.heap.size w (wr.setCell ⟨w.heap.size, k, none⟩ (.int .i64 (-1))) from hb.setCell (Nat.le_refl _) _)
      clear own4 own5 hb
      by_cases h23 : x.o = 23
      · have t1 : (x.o == 23) = true := by simp [h23]
        have H23 := Lib.hid h23
        clear h23 hg5
        go_wp2_with ((at_builtin; refine wpList_append_own _ rfl (.tmp 26) (.tmp 28) 40 rfl (w.heap.size + 1) 3 i0 (.int .i64 0) 1 8 Try.underlying40 hi hz0 hz1 hz2 rfl (by decide) (.slice a5 O.length q5) O.length (O.map ivn) rfl ((K5.out.alloc _).alloc _) ⟨wr.heap.size + 1, 0, none⟩ 1 1 [ivn k] rfl rfl (news_n _ k _ (by simp)) ivn_one E1.out (by omega) (by simp; omega) ?_; intro v1 w2 hown hg hn))
        refine ⟨ends_push hlt HX.out H23.out HP.out HO.out hK HR.out (((ST.out.1.alloc _).alloc _).kept hg ?_) hown ?_ rfl, by simp [intOf]; omega⟩
        · right
          intro e
          have := (LT5.out w.heap.size e.symm).1
          omega
        · exact below_grown' ((HB5.out.alloc (by simp; omega) _).alloc (by simp; omega) _) hg (fun q hq => by have := (LT5.out q hq).1; omega)
      · by_cases h24 : x.o = 24
        · have t1 : (x.o == 23) = false := by simp [h23]
          have t2 : (x.o == 24) = true := by simp [h24]
          have H24 := Lib.hid h24
          clear h23 h24
          by_cases hn : O = []
          · subst hn
            go_wp2_with fail
            go_ret2
            exact ends_bad HX.out H24.out HR.out (HB5.out.alloc (by simp; omega) _)
          · obtain ⟨O', b, rfl⟩ : ∃ O' b, O = O' ++ [b] := ⟨O.dropLast, O.getLast hn, (List.dropLast_concat_getLast hn).symm⟩
            clear hn
            obtain ⟨g, rfl, hg1, hg2⟩ := hg5 (by simp)
            have hlen2 : (O' ++ [b]).length = O'.length + 1 := by simp
            have cg := (H5.out.cellAt O'.length (by simp))
            simp at cg
            have hb1 := HO.out b (by simp)
            have hgn : g ≠ w.heap.size := by omega
            have hgn' : w.heap.size ≠ g := by omega
            have L1 := Lib.hid hlen2
            rw [hlen2] at hq1 hK ⊢
            clear hlen2 hg5
            unfold ivn at cg
            obtain ⟨y2, hy2⟩ := lookup (l := P) (k := b) (by rw [HP.out]; omega)
            have cb := H4.out.cellAt b (by omega)
            rw [List.getElem?_map, hy2, Option.map_some] at cb
            unfold iv at cb
            have fzb := H4.out.frozenAt b
            clear hy2
            have S2 := Lib.hid (ST.out.1.stored k (ivn b))
            have S3 := Lib.hid (S2.out.1.stored b (ivn k))
            have ne5 : (Value.slice (some ⟨g, 0, none⟩) (O' ++ [b]).length q5).ownBlock ≠ some w.heap.size := by simp [Value.ownBlock]; omega
            have F5 := Lib.hid (own_shrink (by rw [← L1.out]; exact ((K5.out.kept S2.out.2 (Or.inr ne5)).kept S3.out.2 (Or.inr ne5))))
            have HB6 := Lib.hid ((HB5.out.setCell (p := ⟨w.heap.size, k, none⟩) (Nat.le_refl _) (.int .i64 (b : Int))).setCell (p := ⟨w.heap.size, b, none⟩) (Nat.le_refl _) (.int .i64 (k : Int)))
            clear ne5
            go_wp2_with fail
            refine ⟨ends_pop hlt HX.out H24.out HP.out HO.out (by omega) HR.out (S3.out.1.alloc _) ?_ (HB6.out.alloc (by simp; omega) _) rfl, by simp [intOf]; omega⟩
            have := F5.out
            simp only [List.map_append, List.map_cons, List.map_nil, List.dropLast_concat] at this
            exact this.alloc _
        · have t1 : (x.o == 23) = false := by simp [h23]
          have t2 : (x.o == 24) = false := by simp [h24]
          have H23 := Lib.hid h23
          have H24 := Lib.hid h24
          clear h23 h24 hg5
          go_wp2_with fail
          refine ⟨ends_other hlt HX.out H23.out H24.out HP.out HO.out hK HR.out (ST.out.1.alloc _) (K5.out.alloc _) (HB5.out.alloc (by simp; omega) _) rfl, by simp [intOf]; omega⟩
    · obtain rfl : k = l.length := by omega
      clear hlt
      obtain ⟨a5, q5, rfl, hq1, hq2, hg5⟩ := own_form own5
      have H4 := Lib.hid own4
      have HR := Lib.hid hrun
      have HB := Lib.hid hb
      have HP := Lib.hid hP
      clear own4 own5 hrun hb hO hg5 hP
      by_cases hn : O = []
      · subst hn
        go_wp2_with fail
        go_ret2
        exact ends_good HP.out HR.out H4.out HB.out
      · have hpos : 0 < O.length := List.length_pos_iff.2 hn
        have hpos' : decide (0 < O.length) = true := by simpa using hpos
        have HN := Lib.hid hn
        clear hn
        go_wp2_with fail
        go_ret2
        exact ends_open HN.out HR.out HB.out
end Go.Proofs.Ytlieapapmkbbgaa
