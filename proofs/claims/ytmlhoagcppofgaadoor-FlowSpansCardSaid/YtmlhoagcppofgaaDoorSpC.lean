/- Package flow: Spans, for all words. -/
import Derived.Test.YtmlhoagcppofgaaDoorSpB
import Derived.Test.YtmlhoagcppofgaaDoorFlF
import Derived.Deep.OwnRows
namespace Go.Proofs.YtmlhoagcppofgaaDoor
open Go Go.RowKit Pl
set_option linter.unusedVariables false

theorem info_span : (Tryd.prog.info? 39).map (fun i => (i.zero, i.size, i.bytes)) = some (some (.agg #[.int .i64 0, .int .i64 0, .slice none 0 0]), 3, 40) := by kernel_rfl
/-- a span as it lies -/
structure Sp where
  f : Nat
  t : Nat
  v : Value
def spCells (T : List Sp) : List Value := T.flatMap fun s => [.int .i64 (s.f : Int), .int .i64 (s.t : Int), s.v]
theorem spCells_put (T : List Sp) (s : Sp) : spCells (T ++ [s]) = spCells T ++ [.int .i64 (s.f : Int), .int .i64 (s.t : Int), s.v] := by
  unfold spCells; rw [List.flatMap_append]; rfl
def spP (T : List Sp) : List (Nat × Nat) := T.map fun s => (s.f, s.t)
/-- where one goes from a span's end -/
def spN (l : List Nat) (t : Nat) : List Int := if (qAt l (t - 1)).o = 45 then [] else castI (nextN (qAt l (t - 1)) (t - 1) l.length)
theorem rows_apart {w : World} {b1 b2 n1 n2 s1 s2 : Nat} {e1 e2 : TypeId} {v1 v2 : Value} {xs1 xs2 : List Value} (h1 : w.ownsRow b1 e1 s1 v1 n1 xs1) (h2 : w.ownsRow b2 e2 s2 v2 n2 xs2) (hne : e1 ≠ e2) : v1.ownBlock = none ∨ v1.ownBlock ≠ v2.ownBlock := by
  obtain ⟨_, ⟨rfl, _⟩ | ⟨g1, c1, cu1, rfl, _, hh1, _⟩⟩ := h1
  · exact .inl rfl
  · obtain ⟨_, ⟨rfl, _⟩ | ⟨g2, c2, cu2, rfl, _, hh2, _⟩⟩ := h2
    · exact .inr (by simp [Value.ownBlock])
    · refine .inr fun e => ?_
      have e' : g1 = g2 := by simpa [Value.ownBlock] using e
      subst e'
      rw [hh1] at hh2
      have := Option.some.inj hh2
      injection this with _ h2 _
      exact hne h2
/-- all that is told of where one goes lies there -/
def NextsIn (l : List Nat) (base : Nat) (T : List Sp) (w : World) : Prop := ∀ s, s ∈ T → OwnI w base s.v (spN l s.t)
theorem NextsIn.later {l : List Nat} {base : Nat} {T : List Sp} {w w' : World} (h : NextsIn l base T w) (hb : Below w.heap.size w w') : NextsIn l base T w' := fun s hs => own_later (h s hs) hb
theorem bool_not_span : (4 : TypeId) ≠ 39 := by decide
theorem span_not_int : (3 : TypeId) ≠ 39 := by decide
theorem NextsIn.grown {l : List Nat} {base b n : Nat} {T : List Sp} {w w' : World} {v : Value} {xs : List Value} (h : NextsIn l base T w) (hr : w.ownsRow b 39 3 v n xs) (hg : w.grownBy w' v.ownBlock) : NextsIn l base T w' := fun s hs => (h s hs).kept hg (rows_apart (h s hs) hr span_not_int)
theorem NextsIn.put {l : List Nat} {base : Nat} {T : List Sp} {s : Sp} {w : World} (h : NextsIn l base T w) (hs : OwnI w base s.v (spN l s.t)) : NextsIn l base (T ++ [s]) w := by
  intro q hq
  rw [List.mem_append, List.mem_singleton] at hq
  rcases hq with hq | rfl
  · exact h q hq
  · exact hs
/-- Next, whatever the word -/
theorem inext_both (a : Option Addr) (c : Nat) (l : List Nat) (i : Nat) (w : World) (ht : T3 w) (hw : WordsC w a l c) (hi : i < l.length) (hl : l.length ≤ 1000) :
    Calls Tryd.prog 8 #[.slice a l.length c, .int .i64 (i : Nat)] w fun e w' => ∃ v ok, e = .returned (.tuple #[v, .bool ok]) ∧ OwnI w' w.heap.size v (spN l (i + 1)) ∧ Below w.heap.size w w' := by
  by_cases h : (qAt l i).o = 45
  · refine (inext_jalr a c l i w ht hw hi hl h).mono ?_
    rintro e w' ⟨rfl, hb⟩
    refine ⟨_, _, rfl, ?_, hb⟩
    unfold spN
    rw [if_pos (by simpa using h)]
    exact own_nilI _ _
  · refine (inext_any a c l i w ht hw hi hl h).mono ?_
    rintro e w' ⟨v, rfl, own, hb⟩
    refine ⟨_, _, rfl, ?_, hb⟩
    unfold spN
    rw [if_neg (by simpa using h)]
    exact own
theorem news_sp (w : World) (f t : Int) (a : Option Addr) (n c H : Nat) (hH : w.heap.size = H) : ∀ j u, [Value.int .i64 f, Value.int .i64 t, Value.slice a n c][j]? = some u → (w.alloc (.cells #[.int .i64 f, .int .i64 t, .slice a n c] 39)).cell? ((⟨H, 0, none⟩ : Addr).add j) = some u := by
  subst hH
  intro j u hj
  match j, hj with
  | 0, hj => cases hj; go_simp
  | 1, hj => cases hj; go_simp
  | 2, hj => cases hj; go_simp
set_option maxRecDepth 100000 in
set_option maxHeartbeats 2000000 in
theorem spans_any (a : Option Addr) (c : Nat) (l : List Nat) (w : World) (ht : T3 w) (hw : WordsC w a l c) (hl : l.length ≤ 30) :
    Calls Tryd.prog 13 #[.slice a l.length c] w fun e w' => ∃ v T, e = .returned v ∧ w'.ownsRow w.heap.size 39 3 v T.length (spCells T) ∧ spP T = (spS l l.length).1 ∧ NextsIn l w.heap.size T w' ∧ Below w.heap.size w w' := by
  obtain ⟨i0, hi, hz0, hz1, hz2⟩ := info_parts info_span
  have HW := Lib.hid hw
  have HT := Lib.hid ht
  have FI := Lib.hid (firsts_any a c l w ht hw hl)
  clear hw ht
  go_enter Tryd.func13, Tryd.ntmps13
  go_wp2_with fail
  refine FI.out.mono ?_
  rintro e w1 ⟨gf, rfl, hf, hb1⟩
  have HF := Lib.hid hf
  have B1 := Lib.hid hb1
  clear hf hb1 FI
  go_wp2_with fail
  go_loopw [3, 5, 13] (fun v fr i wr => ∃ (n : Nat) (T : List Sp), n ≤ l.length ∧ i = .int .i64 n ∧ fr = .int .i64 ((spS l n).2 : Nat) ∧ wr.ownsRow w.heap.size 39 3 v T.length (spCells T) ∧ spP T = (spS l n).1 ∧ NextsIn l w.heap.size T wr ∧ Below w.heap.size w wr ∧ wr.ownsRow w.heap.size 4 1 (.slice (some ⟨gf, 0, none⟩) l.length l.length) l.length (rowB (firstB l) l.length)) (fun _ _ i _ => l.length - (intOf i).toNat)
  case atStart => exact ⟨0, [], Nat.zero_le _, rfl, rfl, World.ownsRow_nil _ _ _ _, rfl, fun s hs => by simp at hs, B1.out, HF.out⟩
  case round =>
    obtain ⟨n, T, hn, rfl, rfl, own, hP, hN, hb, hf⟩ := hrel
    by_cases hlt : n < l.length
    · have un := IntWalk.i64_in ((n : Int) + 1) (by omega)
      have OWN := Lib.hid own
      have HP := Lib.hid hP
      have HN := Lib.hid hN
      have HB := Lib.hid hb
      have HFF := Lib.hid hf
      have hTl : T.length ≤ n := by
        have h1 := spS_len l n
        rw [← hP] at h1
        simpa [spP] using h1
      by_cases hgo : n + 1 < l.length ∧ firstB l (n + 1) = false
      · have cF := (hf.cellAt (n + 1) (by omega)).trans (rowB_at hgo.1)
        have hgl := (hf.lt gf rfl).2
        rw [hgo.2] at cF
        have SG := Lib.hid (spS_go hgo)
        have k0 : (0 : Int) ≤ (n : Int) + 1 := by omega
        have k1 : (n : Int) + 1 < (l.length : Int) := by omega
        clear own hP hN hb hf hgo
        go_wp2_with fail
        refine ⟨⟨n + 1, T, by omega, rfl, by rw [SG.out], OWN.out, by rw [SG.out]; exact HP.out, HN.out, HB.out, HFF.out⟩, by simp [intOf]; omega⟩
      · have SG := Lib.hid (spS_cut hgo)
        by_cases hlast : n + 1 < l.length
        · have hF : firstB l (n + 1) = true := by
            cases hx : firstB l (n + 1)
            · exact absurd ⟨hlast, hx⟩ hgo
            · rfl
          have cF := (hf.cellAt (n + 1) (by omega)).trans (rowB_at hlast)
          have hgl := (hf.lt gf rfl).2
          rw [hF] at cF
          have k0 : (0 : Int) ≤ (n : Int) + 1 := by omega
          have k1 : (n : Int) + 1 < (l.length : Int) := by omega
          clear hf hgo hF
          clear own hP hN hb
          go_wp2_with fail
          refine (inext_both a c l n _ (HT.out.later HB.out) (HW.out.later HB.out) hlt (by omega)).mono ?_
          rintro e w3 ⟨v, ok, rfl, own3, hb3⟩
          obtain ⟨an, cn, rfl⟩ := own_formF own3
          have OW3 := Lib.hid (own_laterF OWN.out hb3)
          have HB3 := Lib.hid (below_trans HB.out hb3)
          have NX3 := Lib.hid (NextsIn.put (s := ⟨(spS l n).2, n + 1, _⟩) (HN.out.later hb3) (own_base own3 HB.out.size))
          have HF3 := Lib.hid (own_laterF HFF.out hb3)
          have VO := Lib.hid OW3.out.lt
          have E1 := Lib.hid (show T.length + 1 ≤ maxLen by simp only [maxLen]; omega)
          have E2 := Lib.hid (show (T.length + 1) * 40 ≤ 140737488355328 by omega)
          have NW2 := fun W => news_sp W ((spS l n).2 : Int) ((n : Int) + 1) an (spN l (n + 1)).length cn _ rfl
          have hs3 := HB3.out.size
          clear own3 hb3
          generalize (spS l n).2 = F at *
          go_wp2_with (at_builtin; refine wpList_append_own _ rfl (.tmp 35) (.tmp 41) 36 rfl w.heap.size 39 i0 (.agg #[.int .i64 0, .int .i64 0, .slice none 0 0]) 3 40 Tryd.underlying36 hi hz0 hz1 hz2 rfl (by decide) _ _ _ rfl (OW3.out.alloc _) ⟨_, 0, none⟩ 1 1 [.int .i64 (F : Int), .int .i64 ((n : Int) + 1), .slice an (spN l (n + 1)).length cn] rfl rfl (NW2 _) (by simp [Value.oneCell']) E1.out E2.out (by simp; omega) ?_; intro v1 w4 hown hg hnil)
          refine ⟨⟨n + 1, T ++ [⟨F, n + 1, .slice an (spN l (n + 1)).length cn⟩], by omega, rfl, by rw [SG.out]; rfl, ?_, ?_, ?_, ?_, ?_⟩, by simp [intOf]; omega⟩
          · rw [spCells_put, List.length_append]; exact hown
          · rw [SG.out]
            unfold spP
            rw [List.map_append]
            have := HP.out
            unfold spP at this
            rw [this]
            rfl
          · exact (NX3.out.later ((Below.refl _ _).alloc (Nat.le_refl _) _)).grown (OW3.out.alloc _) hg
          · exact below_grownF (HB3.out.alloc (by omega) _) hg (by simp; omega) (fun q hq => (VO.out q hq).1)
          · exact (HF3.out.alloc _).kept hg (rows_apart HF3.out OW3.out bool_not_span)
        · have k1 : ¬ ((n : Int) + 1 < (l.length : Int)) := by omega
          clear hgo hf
          clear own hP hN hb
          go_wp2_with fail
          refine (inext_both a c l n _ (HT.out.later HB.out) (HW.out.later HB.out) hlt (by omega)).mono ?_
          rintro e w3 ⟨v, ok, rfl, own3, hb3⟩
          obtain ⟨an, cn, rfl⟩ := own_formF own3
          have OW3 := Lib.hid (own_laterF OWN.out hb3)
          have HB3 := Lib.hid (below_trans HB.out hb3)
          have NX3 := Lib.hid (NextsIn.put (s := ⟨(spS l n).2, n + 1, _⟩) (HN.out.later hb3) (own_base own3 HB.out.size))
          have HF3 := Lib.hid (own_laterF HFF.out hb3)
          have VO := Lib.hid OW3.out.lt
          have E1 := Lib.hid (show T.length + 1 ≤ maxLen by simp only [maxLen]; omega)
          have E2 := Lib.hid (show (T.length + 1) * 40 ≤ 140737488355328 by omega)
          have NW2 := fun W => news_sp W ((spS l n).2 : Int) ((n : Int) + 1) an (spN l (n + 1)).length cn _ rfl
          have hs3 := HB3.out.size
          clear own3 hb3
          generalize (spS l n).2 = F at *
          go_wp2_with (at_builtin; refine wpList_append_own _ rfl (.tmp 35) (.tmp 41) 36 rfl w.heap.size 39 i0 (.agg #[.int .i64 0, .int .i64 0, .slice none 0 0]) 3 40 Tryd.underlying36 hi hz0 hz1 hz2 rfl (by decide) _ _ _ rfl (OW3.out.alloc _) ⟨_, 0, none⟩ 1 1 [.int .i64 (F : Int), .int .i64 ((n : Int) + 1), .slice an (spN l (n + 1)).length cn] rfl rfl (NW2 _) (by simp [Value.oneCell']) E1.out E2.out (by simp; omega) ?_; intro v1 w4 hown hg hnil)
          refine ⟨⟨n + 1, T ++ [⟨F, n + 1, .slice an (spN l (n + 1)).length cn⟩], by omega, rfl, by rw [SG.out]; rfl, ?_, ?_, ?_, ?_, ?_⟩, by simp [intOf]; omega⟩
          · rw [spCells_put, List.length_append]; exact hown
          · rw [SG.out]
            unfold spP
            rw [List.map_append]
            have := HP.out
            unfold spP at this
            rw [this]
            rfl
          · exact (NX3.out.later ((Below.refl _ _).alloc (Nat.le_refl _) _)).grown (OW3.out.alloc _) hg
          · exact below_grownF (HB3.out.alloc (by omega) _) hg (by simp; omega) (fun q hq => (VO.out q hq).1)
          · exact (HF3.out.alloc _).kept hg (rows_apart HF3.out OW3.out bool_not_span)
    · obtain rfl : n = l.length := by omega
      have OWN := Lib.hid own
      have HP := Lib.hid hP
      have HN := Lib.hid hN
      have HB := Lib.hid hb
      clear own hP hN hb hf
      go_wp2_with fail
      go_ret
      exact ⟨_, T, rfl, OWN.out, HP.out, HN.out, HB.out⟩
end Go.Proofs.YtmlhoagcppofgaaDoor
