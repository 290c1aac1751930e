/- Contracts of lir.counted and lir.Check. -/
import Derived.Test.YtlieapapmkbbgaaLirC
namespace Go.Proofs.Ytlieapapmkbbgaa
open Go Go.RowKit
set_option linter.unusedVariables false

theorem grown_of_below {a w : World} (h : Below a.heap.size a w) (row : Option Nat) : a.grownBy w row := ⟨h.os, h.tape, h.output, h.size, fun i hi _ => h.block i hi⟩
theorem own_later {w w1 : World} {base n size : Nat} {e : TypeId} {v : Value} {xs : List Value} (h : w.ownsRow base e size v n xs) (hb : Below w.heap.size w w1) : w1.ownsRow base e size v n xs :=
  h.kept (grown_of_below hb none) (by cases v.ownBlock <;> simp)

/-- how many times each variable is the counter of an open loop -/
def cntL (cs : List Int) : List Int := (List.range 64).map fun d : Nat => ((cs.count (d : Int) : Nat) : Int)
theorem cnt_len (cs : List Int) : (cntL cs).length = 64 := by simp [cntL]
theorem cnt_at {cs : List Int} {d : Nat} (h : d < 64) : (cntL cs)[d]? = some ((cs.count (d : Int) : Nat) : Int) := by simp [cntL, h]
theorem cnt_push {cs : List Int} {d : Nat} (h : d < 64) : (cntL cs).set d (((cs.count (d : Int) : Nat) : Int) + 1) = cntL (cs ++ [(d : Int)]) := by
  apply List.ext_getElem?
  intro i
  rcases Nat.lt_or_ge i 64 with hi | hi
  · rw [List.getElem?_set, cnt_at hi, cnt_at hi, cnt_len]
    by_cases e : d = i
    · subst e; simp [h, List.count_append]
    · rw [if_neg e, List.count_append]
      have : List.count (i : Int) [(d : Int)] = 0 := by rw [List.count_eq_zero]; simp; omega
      rw [this]; simp
  · rw [List.getElem?_eq_none (by simp [cnt_len]; omega), List.getElem?_eq_none (by rw [cnt_len]; omega)]
theorem cnt_pop {cs : List Int} {d : Nat} (h : d < 64) : (cntL (cs ++ [(d : Int)])).set d (((List.count (d : Int) (cs ++ [(d : Int)]) : Nat) : Int) - 1) = cntL cs := by
  apply List.ext_getElem?
  intro i
  rcases Nat.lt_or_ge i 64 with hi | hi
  · rw [List.getElem?_set, cnt_at hi, cnt_at hi, cnt_len]
    by_cases e : d = i
    · subst e; simp [h, List.count_append]
    · rw [if_neg e, List.count_append]
      have : List.count (i : Int) [(d : Int)] = 0 := by rw [List.count_eq_zero]; simp; omega
      rw [this]; simp
  · rw [List.getElem?_eq_none (by simp [cnt_len]; omega), List.getElem?_eq_none (by rw [cnt_len]; omega)]
theorem cnt_le (cs : List Int) (d : Int) : cs.count d ≤ cs.length := List.count_le_length

def CntRel (w : World) (l : List Q5) (v4 i : Value) (wr : World) : Prop := ∃ (k : Nat) (P : List Int) (O : List Nat) (cs : List Int), k ≤ l.length ∧ i = .int .i64 k ∧ cs.length ≤ 10 ∧ O.length = cs.length ∧ (∀ d ∈ cs, 0 ≤ d ∧ d < 64) ∧
  runE (l.drop k) k (P, O) = runE l 0 (List.replicate l.length 0, []) ∧ runC (l.drop k) cs = runC l [] ∧
  wr.ownsRow w.heap.size 85 1 (.slice (some ⟨w.heap.size, 0, none⟩) 64 64) 64 ((cntL cs).map iv) ∧
  wr.ownsRow (w.heap.size + 1) 3 1 v4 cs.length (cs.map iv) ∧ Below w.heap.size w wr
theorem writes_23 {x : Q5} (hc : canS x = true) (h : x.o = 23) : writesS x = x.d := by
  unfold writesS
  have : hasD x.o = true := by unfold hasD; simp; omega
  simp [hc, this]
theorem run_none {l : List Q5} {k : Nat} {P : List Int} (he : (endsS l).isSome = true) {x : Q5} (hx : l[k]? = some x) (h24 : x.o = 24)
    (hrun : runE (l.drop k) k (P, []) = runE l 0 (List.replicate l.length 0, [])) : False := by
  unfold endsS at he
  rw [← hrun, runE_step hx, stepE, if_neg (by omega), if_pos h24] at he
  simp at he
theorem cnt_pop_rel {w w2 : World} {l : List Q5} {k : Nat} {P : List Int} {O : List Nat} {cs : List Int} {d : Int} {x : Q5} {v i : Value} (hlt : k < l.length) (hx : l[k]? = some x) (h24 : x.o = 24)
    (hn : (cs ++ [d]).length ≤ 10) (hO : O.length = (cs ++ [d]).length) (hd : ∀ c ∈ cs ++ [d], 0 ≤ c ∧ c < 64)
    (hrun : runE (l.drop k) k (P, O) = runE l 0 (List.replicate l.length 0, [])) (hcnt : runC (l.drop k) (cs ++ [d]) = runC l [])
    (own3 : w2.ownsRow w.heap.size 85 1 (.slice (some ⟨w.heap.size, 0, none⟩) 64 64) 64 ((cntL cs).map iv))
    (own4 : w2.ownsRow (w.heap.size + 1) 3 1 v cs.length (cs.map iv)) (hb : Below w.heap.size w w2) (hi : i = .int .i64 ((k + 1 : Nat) : Int)) : CntRel w l v i w2 := by
  obtain ⟨O', b, rfl⟩ : ∃ O' b, O = O' ++ [b] := by
    have hn : O ≠ [] := by intro h; subst h; simp at hO
    exact ⟨O.dropLast, O.getLast hn, (List.dropLast_concat_getLast hn).symm⟩
  refine ⟨k + 1, ((P.set k (-1)).set k (b : Int)).set b (k : Int), O', cs, by omega, hi, by simp at hn; omega, by simpa using hO, fun c hc => hd c (List.mem_append_left _ hc), ?_, ?_, own3, own4, hb⟩
  · rw [← hrun, runE_step hx, stepE, if_neg (by omega), if_pos h24]; simp
  · rw [← hcnt, runC_step hx, stepC, if_pos h24]; simp
theorem cnt_skip_rel {w w2 : World} {l : List Q5} {k : Nat} {P : List Int} {O : List Nat} {cs : List Int} {x : Q5} {v i : Value} (hlt : k < l.length) (hx : l[k]? = some x) (h24 : x.o ≠ 24) (h23 : x.o ≠ 23)
    (hn : cs.length ≤ 10) (hO : O.length = cs.length) (hd : ∀ c ∈ cs, 0 ≤ c ∧ c < 64) (hw : ¬ (writesS x ≠ -1 ∧ writesS x ∈ cs))
    (hrun : runE (l.drop k) k (P, O) = runE l 0 (List.replicate l.length 0, [])) (hcnt : runC (l.drop k) cs = runC l [])
    (own3 : w2.ownsRow w.heap.size 85 1 (.slice (some ⟨w.heap.size, 0, none⟩) 64 64) 64 ((cntL cs).map iv))
    (own4 : w2.ownsRow (w.heap.size + 1) 3 1 v cs.length (cs.map iv)) (hb : Below w.heap.size w w2) (hi : i = .int .i64 ((k + 1 : Nat) : Int)) : CntRel w l v i w2 := by
  refine ⟨k + 1, P.set k (-1), O, cs, by omega, hi, hn, hO, hd, ?_, ?_, own3, own4, hb⟩
  · rw [← hrun, runE_step hx, stepE, if_neg h23, if_neg h24]
  · rw [← hcnt, runC_step hx, stepC, if_neg h24, if_neg hw, if_neg h23]
theorem cnt_push_rel {w w2 : World} {l : List Q5} {k : Nat} {P : List Int} {O : List Nat} {cs : List Int} {x : Q5} {v i : Value} (hlt : k < l.length) (hx : l[k]? = some x) (h23 : x.o = 23)
    (hn : cs.length < 10) (hO : O.length = cs.length) (hd : ∀ c ∈ cs, 0 ≤ c ∧ c < 64) (hw : ¬ (writesS x ≠ -1 ∧ writesS x ∈ cs)) (hx2 : 0 ≤ x.d ∧ x.d < 64)
    (hrun : runE (l.drop k) k (P, O) = runE l 0 (List.replicate l.length 0, [])) (hcnt : runC (l.drop k) cs = runC l [])
    (own3 : w2.ownsRow w.heap.size 85 1 (.slice (some ⟨w.heap.size, 0, none⟩) 64 64) 64 ((cntL (cs ++ [x.d])).map iv))
    (own4 : w2.ownsRow (w.heap.size + 1) 3 1 v (cs.length + 1) (cs.map iv ++ [iv x.d])) (hb : Below w.heap.size w w2) (hi : i = .int .i64 ((k + 1 : Nat) : Int)) : CntRel w l v i w2 := by
  refine ⟨k + 1, P.set k (-1), O ++ [k], cs ++ [x.d], by omega, hi, by simp; omega, by simp [hO], ?_, ?_, ?_, own3, by simpa using own4, hb⟩
  · intro c hc
    rcases List.mem_append.1 hc with g | g
    · exact hd c g
    · simp at g; omega
  · rw [← hrun, runE_step hx, stepE, if_pos h23]
  · rw [← hcnt, runC_step hx, stepC, if_neg (by omega), if_neg hw, if_pos h23, if_neg (by omega)]
theorem cnt_no {l : List Q5} {k : Nat} {cs : List Int} {x : Q5} (hx : l[k]? = some x) (h24 : x.o ≠ 24)
    (hw : (writesS x ≠ -1 ∧ writesS x ∈ cs) ∨ (x.o = 23 ∧ cs.length = 10)) (hcnt : runC (l.drop k) cs = runC l []) : countedS l = false := by
  unfold countedS
  rw [← hcnt, runC_step hx, stepC, if_neg h24]
  rcases hw with hw | ⟨h23, h10⟩
  · rw [if_pos hw]; rfl
  · by_cases h : writesS x ≠ -1 ∧ writesS x ∈ cs
    · rw [if_pos h]; rfl
    · rw [if_neg h, if_pos h23, if_pos h10]; rfl
theorem cnt_all {l : List Q5} {cs : List Int} (hcnt : runC (l.drop l.length) cs = runC l []) : countedS l = true := by
  unfold countedS
  rw [← hcnt, List.drop_length]
  rfl

set_option maxRecDepth 100000 in
set_option maxHeartbeats 1000000 in
theorem counted_any (a : Option Addr) (c : Nat) (l : List Q5) (w : World) (hl : L5 w a l) (hcan : ∀ x ∈ l, canS x = true) (he : (endsS l).isSome = true) :
    Calls Try.prog 27 #[.slice a l.length c] w fun e w' => e = .returned (.bool (countedS l)) ∧ Below w.heap.size w w' := by
  obtain ⟨i0, hi, hz0, hz1, hz2⟩ := info_parts info_int
  have hlen := hl.1
  have HL := Lib.hid hl
  have HE := Lib.hid he
  have HC := Lib.hid hcan
  clear hl he hcan
  go_enter Try.func27, Try.ntmps27
  go_wp2_with fail
  go_loopw [4, 11] (fun v4 i wr => CntRel w l v4 i wr) (fun _ i _ => l.length - (intOf i).toNat)
  case atStart =>
    exact ⟨0, List.replicate l.length 0, [], [], Nat.zero_le _, rfl, by simp, by simp, by simp, rfl, rfl,
      World.ownsRow_lit (base := w.heap.size) (size := 1) (e := 85) w ((cntL []).map iv).toArray 64 (Nat.le_refl _) (by decide) (by simp [cnt_len]), World.ownsRow_nil _ _ _ _, by go_grown⟩
  case round =>
    obtain ⟨k, P, O, cs, hk, rfl, hn10, hO, hd, hrun, hcnt, own3, own4, hb⟩ := hrel
    by_cases hlt : k < l.length
    · obtain ⟨x, hx⟩ := lookup hlt
      obtain ⟨xo, xd, xa, xb, xi⟩ := x
      have hl2 := HL.out.later hb
      obtain ⟨_, hnil | ⟨bb, off, rfl, hbb, hc⟩⟩ := hl2
      · rw [hnil] at hlt; simp at hlt
      obtain ⟨p0, p1, p2, p3, p4⟩ := hc k _ hx
      have hcx := HC.out _ (List.mem_of_getElem? hx)
      have hz := (own3.lt w.heap.size rfl).2
      have HCX := Lib.hid hcx
      have HR := Lib.hid hrun
      have HK := Lib.hid hcnt
      have HX := Lib.hid hx
      have HO := Lib.hid hO
      have HD := Lib.hid hd
      have HB := Lib.hid hb
      have H3 := Lib.hid own3
      have H4 := Lib.hid own4
      obtain ⟨a4, q4, rfl, hq1, hq2, hg4⟩ := own_form own4
      clear hrun hcnt hx hO hd hb hc hcx own3 own4
      by_cases h24 : xo = 24
      · have t24 : (xo == 24) = true := by simp [h24]
        have H24 := Lib.hid h24
        clear h24
        by_cases hcs : cs = []
        · subst hcs
          exfalso
          have h0 : O = [] := List.eq_nil_of_length_eq_zero (by simpa using HO.out)
          subst h0
          exact run_none HE.out HX.out H24.out HR.out
        · obtain ⟨cs', d, rfl⟩ : ∃ cs' d, cs = cs' ++ [d] := ⟨cs.dropLast, cs.getLast hcs, (List.dropLast_concat_getLast hcs).symm⟩
          clear hcs
          obtain ⟨g, rfl, hg1, hg2⟩ := hg4 (by simp)
          obtain ⟨hd0, hd1⟩ := HD.out d (by simp)
          obtain ⟨D, rfl⟩ : ∃ D : Nat, d = (D : Int) := ⟨d.toNat, by omega⟩
          have hD : D < 64 := by omega
          have cg := H4.out.cellAt cs'.length (by simp)
          simp at cg
          unfold iv at cg
          have cd := H3.out.cellAt D (by omega)
          rw [List.getElem?_map, cnt_at hD, Option.map_some] at cd
          unfold iv at cd
          have fz := H3.out.frozenAt D
          have hgn : g ≠ w.heap.size := by omega
          have hgn' : w.heap.size ≠ g := by omega
          have hlen2 : (cs' ++ [(D : Int)]).length = cs'.length + 1 := by simp
          have cle := cnt_le (cs' ++ [(D : Int)]) (D : Int)
          have ST := Lib.hid (H3.out.stored D (iv (((List.count (D : Int) (cs' ++ [(D : Int)]) : Nat) : Int) - 1)))
          have PP := Lib.hid (cnt_pop (cs := cs') hD)
          have L1 := Lib.hid hlen2
          have HN := Lib.hid hn10
          rw [hlen2] at hq1 cle ⊢
          have hn10' : cs'.length + 1 ≤ 10 := by omega
          generalize List.count (D : Int) (cs' ++ [(D : Int)]) = cn at *
          clear hlen2 hg4 hn10
          go_wp2_with fail
          refine ⟨cnt_pop_rel hlt HX.out H24.out HN.out HO.out HD.out HR.out HK.out ?_ ?_ ((HB.out.setCell (Nat.le_refl _) _).alloc (by simp; omega) _) rfl, by simp [intOf]; omega⟩
          · have := ST.out.1
            rw [← List.map_set, PP.out] at this
            exact this.alloc _
          · have h5 := H4.out
            rw [L1.out] at h5
            have := own_shrink (h5.kept ST.out.2 (Or.inr (by simp [Value.ownBlock]; omega)))
            simp only [List.map_append, List.map_cons, List.map_nil, List.dropLast_concat] at this
            exact this.alloc _
      · have t24 : (xo == 24) = false := by simp [h24]
        have H24 := Lib.hid h24
        clear h24 hg4
        go_wp2_with fail
        have HB0 := Lib.hid HB.out
        rcases writes_bd (x := ⟨xo, xd, xa, xb, xi⟩) with hw | hw
        · have h23 : xo ≠ 23 := fun h => by
            have h1 := writes_23 HCX.out h
            have h2 := can_d HCX.out
            rw [hw] at h1
            simp only at h1 h2
            omega
          have t23 : (xo == 23) = false := by simp [h23]
          have H23 := Lib.hid h23
          have HW := Lib.hid hw
          clear h23 hw
          refine (writes_any xo xd xa xb xi _).mono ?_
          rw [HW.out]
          rintro e w1 ⟨rfl, hb1⟩
          obtain ⟨hbox, hz1', hz2'⟩ := boxed hb1
          have b0 := hbox 0 (.int .i64 xo) rfl
          have O3 := Lib.hid (own_later (H3.out.alloc _) hb1)
          have O4 := Lib.hid (own_later (H4.out.alloc _) hb1)
          have HB1 := Lib.hid ((HB.out.alloc (o := .cells #[.int .i64 xo, .int .i64 xd, .int .i64 xa, .int .i64 xb, .int .i32 xi] 46) (by omega)).trans (hb1.mono (by simp; omega)))
          clear hbox hb1
          go_wp2_with fail
          refine ⟨cnt_skip_rel hlt HX.out H24.out H23.out hn10 HO.out HD.out (fun h => h.1 HW.out) HR.out HK.out O3.out O4.out HB1.out rfl, by simp [intOf]; omega⟩
        · obtain ⟨D, hwD⟩ : ∃ D : Nat, writesS ⟨xo, xd, xa, xb, xi⟩ = (D : Int) := ⟨(writesS ⟨xo, xd, xa, xb, xi⟩).toNat, by omega⟩
          have hD : D < 64 := by omega
          have HW := Lib.hid hwD
          clear hwD hw
          refine (writes_any xo xd xa xb xi _).mono ?_
          rw [HW.out]
          rintro e w1 ⟨rfl, hb1⟩
          obtain ⟨hbox, hz1', hz2'⟩ := boxed hb1
          have b0 := hbox 0 (.int .i64 xo) rfl
          have b1 := hbox 1 (.int .i64 xd) rfl
          have O3 := Lib.hid (own_later (H3.out.alloc (.cells #[.int .i64 xo, .int .i64 xd, .int .i64 xa, .int .i64 xb, .int .i32 xi] 46)) hb1)
          have O4 := Lib.hid (own_later (H4.out.alloc (.cells #[.int .i64 xo, .int .i64 xd, .int .i64 xa, .int .i64 xb, .int .i32 xi] 46)) hb1)
          have HB1 := Lib.hid ((HB.out.alloc (o := .cells #[.int .i64 xo, .int .i64 xd, .int .i64 xa, .int .i64 xb, .int .i32 xi] 46) (by omega)).trans (hb1.mono (by simp; omega)))
          have cd := O3.out.cellAt D (by omega)
          rw [List.getElem?_map, cnt_at hD, Option.map_some] at cd
          unfold iv at cd
          have fz := O3.out.frozenAt D
          have hzH : w.heap.size < w1.heap.size := by omega
          have tm : ((D : Int) != -1) = true := by first | (simp; done) | (simp; omega)
          have cle := cnt_le cs (D : Int)
          have CP := Lib.hid (List.count_pos_iff (a := (D : Int)) (l := cs))
          have ST := Lib.hid (O3.out.stored D (iv (((List.count (D : Int) cs : Nat) : Int) + 1)))
          have PP := Lib.hid (cnt_push (cs := cs) hD)
          have LT4 := Lib.hid O4.out.lt
          clear hbox hb1
          generalize List.count (D : Int) cs = cn at *
          by_cases hcn : 0 < cn
          · go_wp2_with fail
            go_ret
            exact ⟨ret_bool' (cnt_no HX.out H24.out (Or.inl ⟨by rw [HW.out]; omega, by rw [HW.out]; exact CP.out.1 hcn⟩) HK.out).symm, HB1.out⟩
          · have HN := Lib.hid (show ¬ (writesS ⟨xo, xd, xa, xb, xi⟩ ≠ -1 ∧ writesS ⟨xo, xd, xa, xb, xi⟩ ∈ cs) from fun h => hcn (CP.out.2 (by rw [← HW.out]; exact h.2)))
            by_cases h23 : xo = 23
            · have t23 : (xo == 23) = true := by simp [h23]
              have H23 := Lib.hid h23
              have hxd := writes_23 HCX.out h23
              rw [HW.out] at hxd
              simp only at hxd
              clear h23
              subst hxd
              by_cases h10 : cs.length = 10
              · have t10 : ((cs.length : Int) == 10) = true := by first | (simp [h10]; done) | (simp; omega)
                have H10 := Lib.hid h10
                clear h10
                go_wp2_with fail
                go_ret
                exact ⟨ret_bool' (cnt_no HX.out H24.out (Or.inr ⟨H23.out, H10.out⟩) HK.out).symm, HB1.out⟩
              · have t10 : ((cs.length : Int) == 10) = false := by simp; omega
                have K4 := Lib.hid (O4.out.kept ST.out.2 (by
                  cases h : (Value.slice a4 cs.length q4).ownBlock with
                  | none => exact Or.inl rfl
                  | some q => have := (LT4.out q h).1; right; simp; omega))
                have E1 := Lib.hid (show cs.length + 1 ≤ maxLen by simp only [maxLen]; omega)
                have HB2 := Lib.hid (HB1.out.setCell (p := ⟨w.heap.size, D, none⟩) (Nat.le_refl _) (.int .i64 ((cn : Int) + 1)))
                go_wp2_with ((at_builtin; refine wpList_append_own _ rfl (.tmp 54) (.tmp 57) 40 rfl (w.heap.size + 1) 3 i0 (.int .i64 0) 1 8 Try.underlying40 hi hz0 hz1 hz2 rfl (by decide) (.slice a4 cs.length q4) cs.length (cs.map iv) rfl (K4.out.alloc _) ⟨w1.heap.size, 0, none⟩ 1 1 [ivn D] rfl rfl (news_n _ D _ (by simp)) ivn_one E1.out (by omega) (by simp; omega) ?_; intro v1 w2 hown hg hn))
                refine ⟨cnt_push_rel hlt HX.out H23.out (by omega) HO.out HD.out HN.out (by simp only; omega) HR.out HK.out ?_ hown ?_ rfl, by simp [intOf]; omega⟩
                · have := ST.out.1
                  rw [← List.map_set, PP.out] at this
                  refine (this.alloc _).kept hg (Or.inr ?_)
                  intro e
                  have := (LT4.out w.heap.size e.symm).1
                  omega
                · exact below_grown' (HB2.out.alloc (by simp; omega) _) hg (fun q hq => by have := (LT4.out q hq).1; omega)
            · have t23 : (xo == 23) = false := by simp [h23]
              have H23 := Lib.hid h23
              clear h23
              go_wp2_with fail
              refine ⟨cnt_skip_rel hlt HX.out H24.out H23.out hn10 HO.out HD.out HN.out HR.out HK.out O3.out O4.out HB1.out rfl, by simp [intOf]; omega⟩
    · obtain rfl : k = l.length := by omega
      have HK := Lib.hid hcnt
      have HB := Lib.hid hb
      clear hlt hrun hcnt own3 own4 hb hd hO
      go_wp2_with fail
      go_ret
      exact ⟨ret_bool' (cnt_all HK.out).symm, HB.out⟩

theorem check_long {l : List Q5} (h : 20000 < l.length) : checkS l = 2 := by unfold checkS; rw [if_pos h]
theorem check_arg {l : List Q5} {x : Q5} (h : ¬ 20000 < l.length) (hx : x ∈ l) (hc : canS x = false) : checkS l = 1 := by
  unfold checkS
  rw [if_neg h, if_pos (by rw [List.any_eq_true]; exact ⟨x, hx, by rw [hc]; rfl⟩)]
theorem check_ends {l : List Q5} (h : ¬ 20000 < l.length) (hc : ∀ x ∈ l, canS x = true) (he : endsS l = none) : checkS l = 4 := by
  unfold checkS
  rw [if_neg h, if_neg (by simp; exact hc), if_pos (by rw [he]; rfl)]
theorem check_cnt {l : List Q5} (h : ¬ 20000 < l.length) (hc : ∀ x ∈ l, canS x = true) {P : List Int} (he : endsS l = some P) : checkS l = if countedS l then 0 else 4 := by
  unfold checkS
  rw [if_neg h, if_neg (by simp; exact hc), he]
  cases countedS l <;> rfl

set_option maxRecDepth 100000 in
set_option maxHeartbeats 1000000 in
theorem check_any (a : Option Addr) (c : Nat) (l : List Q5) (w : World) (hl : L5 w a l) :
    Calls Try.prog 14 #[.slice a l.length c] w fun e w' => e = .returned (.int .i64 (checkS l)) ∧ Below w.heap.size w w' := by
  have hlen := hl.1
  have HL := Lib.hid hl
  clear hl
  by_cases h2 : 20000 < l.length
  · have E := Lib.hid (check_long h2)
    have h2' : decide (20000 < l.length) = true := by simpa using h2
    go_enter Try.func14, Try.ntmps14
    go_wp2_with fail
    go_ret
    exact ⟨ret_i64' E.out.symm, by go_grown⟩
  · have H2 := Lib.hid h2
    have h2' : decide (20000 < l.length) = false := by simpa using h2
    go_enter Try.func14, Try.ntmps14
    go_wp2_with fail
    clear h2'
    go_loopw [14] (fun i wr => ∃ k : Nat, k ≤ l.length ∧ i = .int .i64 k ∧ (∀ x ∈ l.take k, canS x = true) ∧ Below w.heap.size w wr) (fun i _ => l.length - (intOf i).toNat)
    case atStart => exact ⟨0, Nat.zero_le _, rfl, by simp, by go_grown⟩
    case round =>
      obtain ⟨k, hk, rfl, hall, hb⟩ := hrel
      have HA := Lib.hid hall
      clear hall
      by_cases hlt : k < l.length
      · obtain ⟨x, hx⟩ := lookup hlt
        obtain ⟨xo, xd, xa, xb, xi⟩ := x
        have hl2 := HL.out.later hb
        obtain ⟨_, hnil | ⟨bb, off, rfl, hbb, hc⟩⟩ := hl2
        · rw [hnil] at hlt; simp at hlt
        obtain ⟨p0, p1, p2, p3, p4⟩ := hc k _ hx
        have HX := Lib.hid hx
        have HB := Lib.hid hb
        have hz := hb.size
        clear hx hc hb
        cases hcx : canS ⟨xo, xd, xa, xb, xi⟩
        · have E := Lib.hid (check_arg H2.out (List.mem_of_getElem? HX.out) hcx)
          have CX := Lib.hid hcx
          clear hcx
          go_wp2_with fail
          refine (can_not xo xd xa xb xi _ CX.out).mono ?_
          rintro e w1 ⟨rfl, hb1⟩
          obtain ⟨_, hz1, hz2⟩ := boxed hb1
          have HB1 := Lib.hid ((HB.out.alloc (o := .cells #[.int .i64 xo, .int .i64 xd, .int .i64 xa, .int .i64 xb, .int .i32 xi] 46) (by omega)).trans (hb1.mono (by simp; omega)))
          clear hb1
          go_wp2_with fail
          go_ret
          exact ⟨ret_i64' E.out.symm, HB1.out.alloc (by omega) _⟩
        · have CX := Lib.hid hcx
          clear hcx
          go_wp2_with fail
          refine (can_yes xo xd xa xb xi _ CX.out).mono ?_
          rintro e w1 ⟨rfl, hb1⟩
          obtain ⟨_, hz1, hz2⟩ := boxed hb1
          have HB1 := Lib.hid ((HB.out.alloc (o := .cells #[.int .i64 xo, .int .i64 xd, .int .i64 xa, .int .i64 xb, .int .i32 xi] 46) (by omega)).trans (hb1.mono (by simp; omega)))
          clear hb1
          go_wp2_with fail
          refine ⟨⟨k + 1, by omega, rfl, ?_, HB1.out.alloc (by omega) _⟩, by simp [intOf]; omega⟩
          intro y hy
          rw [List.take_add_one, HX.out] at hy
          rcases List.mem_append.1 hy with g | g
          · exact HA.out y g
          · simp at g; subst g; exact CX.out
      · obtain rfl : k = l.length := by omega
        clear hlt
        have hall := HA.out
        rw [List.take_length] at hall
        have HC := Lib.hid hall
        have HB := Lib.hid hb
        have L2 := Lib.hid (HL.out.later hb)
        have hz := hb.size
        clear hall hb HA
        go_wp2_with fail
        refine (ends_any a c l wr L2.out).mono ?_
        rintro e w1 ⟨hm, hb1⟩
        have HB1 := Lib.hid (HB.out.trans (hb1.mono hz))
        have L3 := Lib.hid (L2.out.later hb1)
        clear hb1
        cases he : endsS l with
        | none =>
          have E := Lib.hid (check_ends H2.out HC.out he)
          rw [he] at hm
          subst hm
          clear he
          go_wp2_with fail
          go_ret
          exact ⟨ret_i64' E.out.symm, HB1.out⟩
        | some P =>
          have E := Lib.hid (check_cnt H2.out HC.out he)
          rw [he] at hm
          obtain ⟨v, rfl, _⟩ := hm
          have HE := Lib.hid (show (endsS l).isSome = true by rw [he]; rfl)
          clear he
          go_wp2_with fail
          refine (counted_any a c l w1 L3.out HC.out HE.out).mono ?_
          cases hcn : countedS l
          · have HK := Lib.hid hcn
            clear hcn
            rintro e w2 ⟨rfl, hb2⟩
            have HB2 := Lib.hid (HB1.out.trans (hb2.mono HB1.out.size))
            clear hb2
            go_wp2_with fail
            go_ret
            exact ⟨ret_i64' (by rw [E.out, HK.out]; rfl), HB2.out⟩
          · have HK := Lib.hid hcn
            clear hcn
            rintro e w2 ⟨rfl, hb2⟩
            have HB2 := Lib.hid (HB1.out.trans (hb2.mono HB1.out.size))
            clear hb2
            go_wp2_with fail
            go_ret
            exact ⟨ret_i64' (by rw [E.out, HK.out]; rfl), HB2.out⟩
end Go.Proofs.Ytlieapapmkbbgaa
