/- The statement PeepOnce of layer 39: it returns true for all inputs. -/
import Derived.Test.YtlieapapmkbbgaaRows
import Derived.Test.YtlieapapmkbbgaaTdS
import Derived.Test.YtlieapapmkbbgaaTdL
import Derived.Test.YtlieapapmkbbgaaOpen
import Derived.Test.YtlieapapmkbbgaaLirG
namespace Go.Proofs.Ytlieapapmkbbgaa
open Go Go.RowKit Go.ChangeShapes Go.WideShapes Go.ChangeAt
set_option linter.unusedVariables false

set_option maxRecDepth 100000 in
theorem lop_in {H : Type} {enc : TypeId × Value → H} {w : World} {r : Reach} {b base : Nat} {spare : Nat → Bool} {held : Bool} {v : Value} {d : DataW H} {p : List MemPlace}
    (hv : Value.okWide Try.prog w r b 22 v) (h : DataW.Trod enc Try.prog w base spare held 22 v d p) : ∃ (a : Option Addr) (c : Nat) (l : List Q5), v = .slice a l.length c ∧ L5In w a l c := by
  refine lops_in Try.underlying22 Try.underlying46 (by kernel_rfl) (by rfl) (by kernel_rfl) ?_ hv h
  intro j f hf
  match j, hf with
  | 0, hf => simp at hf; subst hf; exact Try.underlying3
  | 1, hf => simp at hf; subst hf; exact Try.underlying3
  | 2, hf => simp at hf; subst hf; exact Try.underlying3
  | 3, hf => simp at hf; subst hf; exact Try.underlying3
  | 4, hf => simp at hf; subst hf; exact Try.underlying21
  | j + 5, hf => simp at hf
theorem wf_take {l t : List Q5} (h : ∀ x ∈ l, x.wf) (ht : t = l.take 60) : ∀ x ∈ t, x.wf := by
  subst ht
  exact fun x hx => h x (List.mem_of_mem_take hx)
theorem runAppendZero {P : Program} {t ty e : TypeId} (ht : P.underlying t = some (.slice e)) {i : TypeInfo} {z : Value} (hi : P.info? e = some i) (hz : i.zero = some z) (g : Nat) (ad : Option Addr) (c : Nat) (w : World) :
    (Builtin.append_ #[t, t] ty #[.slice (some ⟨g, 0, none⟩) 0 0, .slice ad 0 c]).run P w = .ok (.slice (some ⟨g, 0, none⟩) 0 0) w := by
  cases ad <;> simp [Builtin.append_, run_underlying ht, sizeOf, typeInfo, hi, Builtin.lenOf, Builtin.firstCells, loadCells, loadCellsFrom, storeCells]
theorem appendZero {P : Program} {ops : Array Oper} {rest : List Oper} {o : Oper} {a : Act} {w : World} {Q : Exit → Act → World → Prop} (hgd : o.guard = none) (s x : Operand) (t : TypeId)
    (ho : o.op = .call { callee := .builtin .append, args := #[s, x], argTypes := #[t, t] })
    (e : TypeId) (i : TypeInfo) (z : Value) (ht : P.underlying t = some (.slice e)) (hi : P.info? e = some i) (hz : i.zero = some z)
    (g : Nat) (hs : a.eval s = .slice (some ⟨g, 0, none⟩) 0 0) (ad : Option Addr) (c : Nat) (hx : a.eval x = .slice ad 0 c)
    (h : wpList P ops Q rest (a.put o.dst (.slice (some ⟨g, 0, none⟩) 0 0)) w) : wpList P ops Q (o :: rest) a w := by
  refine wpList_plain hgd fun K hK => ?_
  have hr := runAppendZero (P := P) (ty := o.type) ht hi hz g ad c w
  unfold Oper.wp execOp
  simp only [ho, resolve, invoke, builtin, Sem.run_bind, Sem.run_pure, Result.andThen_ok, List.map_toArray, List.map_cons, List.map_nil, hs, hx, hr]
  exact hK _ _ h
theorem flat_of {w : World} {b off : Nat} {l : List Q5} (h : ∀ k x, l[k]? = some x → w.cell? ⟨b, off + k * 5, none⟩ = some (.int .i64 x.o) ∧ w.cell? ⟨b, off + k * 5 + 1, none⟩ = some (.int .i64 x.d) ∧ w.cell? ⟨b, off + k * 5 + 2, none⟩ = some (.int .i64 x.a) ∧ w.cell? ⟨b, off + k * 5 + 3, none⟩ = some (.int .i64 x.b) ∧ w.cell? ⟨b, off + k * 5 + 4, none⟩ = some (.int .i32 x.i)) :
    ∀ j u, (flat l)[j]? = some u → w.cell? ⟨b, off + j, none⟩ = some u := by
  induction l generalizing off with
  | nil => intro j u hj; simp [flat] at hj
  | cons x l ih =>
    intro j u hj
    obtain ⟨c0, c1, c2, c3, c4⟩ := h 0 x rfl
    have e : flat (x :: l) = x.cells ++ flat l := rfl
    rw [e] at hj
    have hl : x.cells.length = 5 := rfl
    by_cases hj5 : j < 5
    · rw [List.getElem?_append_left (by rw [hl]; exact hj5)] at hj
      rw [Nat.zero_mul] at c0 c1 c2 c3 c4
      have : j = 0 ∨ j = 1 ∨ j = 2 ∨ j = 3 ∨ j = 4 := by omega
      rcases this with rfl | rfl | rfl | rfl | rfl <;> cases hj
      · exact c0
      · exact c1
      · exact c2
      · exact c3
      · exact c4
    · rw [List.getElem?_append_right (by rw [hl]; omega), hl] at hj
      have := ih (off := off + 5) (fun k y hy => by
        have := h (k + 1) y hy
        rwa [show off + (k + 1) * 5 = off + 5 + k * 5 by omega] at this) (j - 5) u hj
      rwa [show off + 5 + (j - 5) = off + j by omega] at this
theorem l5_put {w : World} {base : Nat} {v : Value} {t : List Q5} (h : w.ownsRow base 46 5 v (0 + t.length) ([] ++ flat t)) (hne : t ≠ []) (hn : t.length ≤ 1000) :
    ∃ g c, v = .slice (some ⟨g, 0, none⟩) t.length c ∧ base ≤ g ∧ L5 w (some ⟨g, 0, none⟩) t := by
  rw [Nat.zero_add, List.nil_append] at h
  have hp : 0 < t.length := List.length_pos_iff.2 hne
  have hlt := h.lt
  have h' := h
  obtain ⟨_, ⟨hv, hn0⟩ | ⟨g, cap, cur, hv, hg, hh, hc, hcm, _⟩⟩ := h
  · omega
  · refine ⟨g, cap, hv, hg, l5_mk (by omega) (hlt g (by rw [hv]; rfl)).2 fun j u hj => ?_⟩
    have := h'.cells (g := g) (by rw [hv]; rfl) j u hj
    rw [add_at] at this
    exact this
theorem btT {w a b : World} (h : Below w.heap.size w a) (k : Below a.heap.size a b) : Below w.heap.size w b := h.trans (k.mono h.size)
theorem l5_ownT {w : World} {base : Nat} {a : Option Addr} {c : Nat} {t : List Q5} (h : w.ownsRow base 46 5 (.slice a t.length c) t.length (flat t)) (hn : t.length ≤ 1000) : L5 w a t := by
  by_cases he : t = []
  · subst he; exact ⟨by simp, .inl rfl⟩
  · obtain ⟨g, c', hv, _, hL⟩ := l5_put (t := t) (by rw [Nat.zero_add, List.nil_append]; exact h) he hn
    obtain ⟨rfl, _⟩ : a = some ⟨g, 0, none⟩ ∧ c = c' := by injection hv with e1 e2 e3; exact ⟨e1, e3⟩
    exact hL

set_option maxRecDepth 100000 in
set_option maxHeartbeats 4000000 in
theorem po_a (w : World) (a0 : Option Addr) (c0 : Nat) (l0 l t : List Q5) (P P2 : List Int) (w0 : L5In w a0 l0 c0) (hl : l = l0.take 60) (hc : checkS l = 0) (hP : endsS l = some P) (ht : t = tidyS l P) (hct : checkS t = 0) (hP2 : endsS t = some P2) (hst : tidyS t P2 = t) (htl : t.length ≤ 60) (htw : ∀ x ∈ t, x.wf) (he : t = []) :
    Calls Try.prog 4 #[.slice a0 l0.length c0] w fun e w' => e = .returned (.bool true) ∧ Below w.heap.size w w' := by
  have HL := Lib.hid hl
  have W0 := Lib.hid w0
  have HC := Lib.hid hc
  have HP := Lib.hid hP
  have HT := Lib.hid ht
  have HCT := Lib.hid hct
  have HP2 := Lib.hid hP2
  have HS := Lib.hid hst
  have HTW := Lib.hid htw
  have HEM := Lib.hid he
  obtain ⟨i0, hi0, hz0, hz1, hz2⟩ := info_parts info_lopF
  clear hl w0 hc hP ht hct hP2 hst htw he
  go_enter Try.func4, Try.ntmps4
  go_wp2_with fail
  refine (fewL_at a0 c0 l0 l w W0.out HL.out).mono ?_
  rintro e w1 ⟨a1, c1, rfl, s1, b1⟩
  have S1 := Lib.hid s1
  have B1 := Lib.hid b1
  clear s1 b1
  go_wp2_with fail
  refine (tidy_any a1 c1 l P w1 S1.out HC.out HP.out).mono ?_
  rw [← HT.out]
  rintro e w4 ⟨a3, c3, rfl, own, b4⟩
  have OWN := Lib.hid own
  have B4 := Lib.hid (btT B1.out b4)
  have S4 := Lib.hid (show L5 w4 a3 t from ⟨by rw [HEM.out]; simp, .inl HEM.out⟩)
  clear own b4
  have OWN0 := Lib.hid (own_emptyL w4)
  have BL0 := Lib.hid ((Below.refl w4.heap.size w4).alloc (Nat.le_refl _) (.cells #[] 46))
  have HL0 := Lib.hid (show t.length = 0 by rw [HEM.out]; rfl)
  obtain ⟨nl, hnl⟩ : ∃ n : Int, n = (l.length : Int) - (t.length : Int) := ⟨_, rfl⟩
  rw [← hnl]
  clear hnl
  go_wp2_with (at_builtin; refine appendZero rfl (.tmp 21) (.tmp 22) 22 rfl 46 i0 _ Try.underlying22 hi0 hz0 w4.heap.size rfl a3 c3 (show Value.slice a3 t.length c3 = Value.slice a3 0 c3 by rw [HL0.out]) ?_)
  have S7 := Lib.hid (show L5 (w4.alloc (.cells #[] 46)) (some ⟨w4.heap.size, 0, none⟩) t by rw [HEM.out]; exact ⟨by simp, .inl rfl⟩)
  have B47 := Lib.hid BL0.out
  generalize w4.alloc (.cells #[] 46) = w7 at *
  clear OWN0 BL0
  obtain ⟨g5, hg5⟩ : ∃ g5, w4.heap.size = g5 := ⟨_, rfl⟩
  rw [hg5] at S7 ⊢
  obtain ⟨c5, hc5⟩ : ∃ c5, c5 = 0 := ⟨_, rfl⟩
  rw [show (Value.slice (some ⟨g5, 0, none⟩) 0 0) = Value.slice (some ⟨g5, 0, none⟩) t.length c5 by rw [HL0.out, hc5]]
  clear hc5 hg5
  have B7 := Lib.hid (btT B4.out B47.out)
  have S37 := Lib.hid (S4.out.later B47.out)
  clear B47
  refine (tidy_any _ c5 t P2 w7 S7.out HCT.out HP2.out).mono ?_
  rw [HS.out]
  rintro e w8 ⟨a8, c8, rfl, own8, b8⟩
  have S8 := Lib.hid (S37.out.later b8)
  have T8 : L5 w8 a8 t := l5_ownT own8 (by omega)
  have T8 := Lib.hid T8
  have B8 := Lib.hid (btT B7.out b8)
  have e0 : (t.length : Int) - (t.length : Int) = 0 := by omega
  rw [e0]
  clear own8 b8 e0
  go_wp2_with fail
  refine (rcheck_any a3 c3 t w8 S8.out HTW.out).mono ?_
  rw [HCT.out]
  rintro e w9 ⟨rfl, b9⟩
  have S9 := Lib.hid (S8.out.later b9)
  have T9 := Lib.hid (T8.out.later b9)
  have B9 := Lib.hid (btT B8.out b9)
  clear b9
  go_wp2_with fail
  refine (same_any a3 a8 c3 c8 t w9 S9.out T9.out).mono ?_
  rintro e wa ⟨rfl, ba⟩
  have BA := Lib.hid (btT B9.out ba)
  clear ba
  go_wp2_with fail
  refine (lives39 _).mono ?_
  rintro e wb ⟨rfl, bb⟩
  have BB := Lib.hid (btT BA.out bb)
  clear bb
  go_wp2_with fail
  go_ret
  exact ⟨rfl, BB.out⟩

set_option maxRecDepth 100000 in
set_option maxHeartbeats 4000000 in
theorem po_b (w : World) (a0 : Option Addr) (c0 : Nat) (l0 l t : List Q5) (P P2 : List Int) (w0 : L5In w a0 l0 c0) (hl : l = l0.take 60) (hc : checkS l = 0) (hP : endsS l = some P) (ht : t = tidyS l P) (hct : checkS t = 0) (hP2 : endsS t = some P2) (hst : tidyS t P2 = t) (htl : t.length ≤ 60) (htw : ∀ x ∈ t, x.wf) (he : t ≠ []) :
    Calls Try.prog 4 #[.slice a0 l0.length c0] w fun e w' => e = .returned (.bool true) ∧ Below w.heap.size w w' := by
  have HL := Lib.hid hl
  have W0 := Lib.hid w0
  have HC := Lib.hid hc
  have HP := Lib.hid hP
  have HT := Lib.hid ht
  have HCT := Lib.hid hct
  have HP2 := Lib.hid hP2
  have HS := Lib.hid hst
  have HTW := Lib.hid htw
  have HEM := Lib.hid he
  obtain ⟨i0, hi0, hz0, hz1, hz2⟩ := info_parts info_lopF
  clear hl w0 hc hP ht hct hP2 hst htw he
  go_enter Try.func4, Try.ntmps4
  go_wp2_with fail
  refine (fewL_at a0 c0 l0 l w W0.out HL.out).mono ?_
  rintro e w1 ⟨a1, c1, rfl, s1, b1⟩
  have S1 := Lib.hid s1
  have B1 := Lib.hid b1
  clear s1 b1
  go_wp2_with fail
  refine (tidy_any a1 c1 l P w1 S1.out HC.out HP.out).mono ?_
  rw [← HT.out]
  rintro e w4 ⟨a3, c3, rfl, own, b4⟩
  have OWN := Lib.hid own
  have B4 := Lib.hid (btT B1.out b4)
  obtain ⟨b9, c9, hv9, hg9, hL9⟩ := l5_put (t := t) (by rw [Nat.zero_add, List.nil_append]; exact own) HEM.out (by omega)
  obtain ⟨rfl, rfl⟩ : a3 = some ⟨b9, 0, none⟩ ∧ c3 = c9 := by injection hv9 with e1 e2 e3; exact ⟨e1, e3⟩
  have S4 := Lib.hid hL9
  clear own b4 hv9 hg9 hL9
  have OWN0 := Lib.hid (own_emptyL w4)
  have BL0 := Lib.hid ((Below.refl w4.heap.size w4).alloc (Nat.le_refl _) (.cells #[] 46))
  obtain ⟨b1, off, hbo, hb1w, hflat⟩ : ∃ b1 off, some (⟨b9, 0, none⟩ : Addr) = some ⟨b1, off, none⟩ ∧ b1 < w4.heap.size ∧ ∀ j u, (flat t)[j]? = some u → w4.cell? ⟨b1, off + j, none⟩ = some u := by
    obtain ⟨_, h | ⟨b1, off, h1, h2, h3⟩⟩ := S4.out
    · exact absurd h HEM.out
    · exact ⟨b1, off, h1, h2, flat_of h3⟩
  rw [hbo] at S4 ⊢
  clear hbo OWN
  have NEWS := Lib.hid (show ∀ j u, (flat t)[j]? = some u → (w4.alloc (.cells #[] 46)).cell? ((⟨b1, off, none⟩ : Addr).add j) = some u from fun j u hj => by
    rw [add_at]
    exact (BL0.out.cell (p := ⟨b1, off + j, none⟩) hb1w).trans (hflat j u hj))
  have LNF := Lib.hid (flat_len t)
  have ONEF := Lib.hid (flat_one t)
  have MX := Lib.hid (show 0 + t.length ≤ maxLen by unfold maxLen; omega)
  have MXB := Lib.hid (show (0 + t.length) * 40 ≤ 140737488355328 by omega)
  have SZ := Lib.hid (show w4.heap.size ≤ (w4.alloc (.cells #[] 46)).heap.size by simp)
  obtain ⟨nl, hnl⟩ : ∃ n : Int, n = (l.length : Int) - (t.length : Int) := ⟨_, rfl⟩
  rw [← hnl]
  clear hflat hnl
  go_wp2_with (at_builtin; refine wpList_append_own _ rfl (.tmp 21) (.tmp 22) 22 rfl w4.heap.size 46 i0 (.agg #[.int .i64 0, .int .i64 0, .int .i64 0, .int .i64 0, .int .i32 0]) 5 40 Try.underlying22 hi0 hz0 hz1 hz2 rfl (by decide) (.slice (some ⟨w4.heap.size, 0, none⟩) 0 0) 0 [] rfl OWN0.out ⟨b1, off, none⟩ t.length c3 (flat t) rfl LNF.out NEWS.out ONEF.out MX.out MXB.out SZ.out ?_; intro v5 w7 hown hgrow hn7; obtain ⟨g5, c5, rfl, hG5, hL5⟩ := l5_put hown HEM.out (by omega); have S7 := Lib.hid hL5; have B47 := Lib.hid (BL0.out.grown hgrow BL0.out.size (fun k hk => by cases hk; exact Nat.le_refl _)); clear hown hgrow hn7 hL5 hG5)
  clear OWN0 BL0 NEWS SZ
  have B7 := Lib.hid (btT B4.out B47.out)
  have S37 := Lib.hid (S4.out.later B47.out)
  clear B47
  refine (tidy_any _ c5 t P2 w7 S7.out HCT.out HP2.out).mono ?_
  rw [HS.out]
  rintro e w8 ⟨a8, c8, rfl, own8, b8⟩
  have S8 := Lib.hid (S37.out.later b8)
  have T8 : L5 w8 a8 t := l5_ownT own8 (by omega)
  have T8 := Lib.hid T8
  have B8 := Lib.hid (btT B7.out b8)
  have e0 : (t.length : Int) - (t.length : Int) = 0 := by omega
  rw [e0]
  clear own8 b8 e0
  go_wp2_with fail
  refine (rcheck_any (some ⟨b1, off, none⟩) c3 t w8 S8.out HTW.out).mono ?_
  rw [HCT.out]
  rintro e w9 ⟨rfl, b9⟩
  have S9 := Lib.hid (S8.out.later b9)
  have T9 := Lib.hid (T8.out.later b9)
  have B9 := Lib.hid (btT B8.out b9)
  clear b9
  go_wp2_with fail
  refine (same_any (some ⟨b1, off, none⟩) a8 c3 c8 t w9 S9.out T9.out).mono ?_
  rintro e wa ⟨rfl, ba⟩
  have BA := Lib.hid (btT B9.out ba)
  clear ba
  go_wp2_with fail
  refine (lives39 _).mono ?_
  rintro e wb ⟨rfl, bb⟩
  have BB := Lib.hid (btT BA.out bb)
  clear bb
  go_wp2_with fail
  go_ret
  exact ⟨rfl, BB.out⟩

set_option maxRecDepth 100000 in
set_option maxHeartbeats 4000000 in
theorem po_bad (w : World) (a0 : Option Addr) (c0 : Nat) (l0 l : List Q5) (w0 : L5In w a0 l0 c0) (hl : l = l0.take 60) (hc : checkS l ≠ 0) :
    Calls Try.prog 4 #[.slice a0 l0.length c0] w fun e w' => e = .returned (.bool true) ∧ Below w.heap.size w w' := by
  have HL := Lib.hid hl
  have W0 := Lib.hid w0
  have HC := Lib.hid hc
  clear hl w0 hc
  go_enter Try.func4, Try.ntmps4
  go_wp2_with fail
  refine (fewL_at a0 c0 l0 l w W0.out HL.out).mono ?_
  rintro e w1 ⟨a1, c1, rfl, s1, b1⟩
  have S1 := Lib.hid s1
  have B1 := Lib.hid b1
  clear s1 b1
  go_wp2_with fail
  refine (tidy_bad a1 c1 l w1 S1.out HC.out).mono ?_
  rintro e w4 ⟨rfl, b4⟩
  have B4 := Lib.hid (btT B1.out b4)
  have hq := HC.out
  generalize checkS l = q at *
  have tc : (q != 0) = true := by simpa using hq
  clear b4 hq
  go_wp2_with fail
  refine (lives39 _).mono ?_
  rintro e wb ⟨rfl, bb⟩
  have BB := Lib.hid (btT B4.out bb)
  clear bb
  go_wp2_with fail
  go_ret
  exact ⟨rfl, BB.out⟩

theorem fits_in {v : Int} {h : Bool} (e : fitsS v h = true) : 0 ≤ v ∧ v < 64 := fits_bd e
theorem can_wf {x : Q5} (h : canS x = true) : x.wf := by
  unfold canS isOp at h
  simp only [Bool.and_eq_true, decide_eq_true_eq] at h
  obtain ⟨⟨⟨⟨⟨ho, hd⟩, ha⟩, hb⟩, hi⟩, hj⟩ := h
  have hd := fits_bd hd
  have ha := fits_bd ha
  have hb := fits_bd hb
  have hl : -2147483648 ≤ leastS x.o := by unfold leastS; split <;> (try split) <;> omega
  have hm : mostS x.o ≤ 2147483647 := by unfold mostS; split <;> (try split) <;> (try split) <;> omega
  unfold Q5.wf
  simp [Lit.wf, IntKind.min, IntKind.max, IntKind.signed, IntKind.bits]
  omega
theorem walk_PeepOnce (w : World) (a0 : Option Addr) (c0 : Nat) (l0 : List Q5) (w0 : L5In w a0 l0 c0) :
    Calls Try.prog 4 #[.slice a0 l0.length c0] w fun e w' => e = .returned (.bool true) ∧ Below w.heap.size w w' := by
  by_cases hc : checkS (l0.take 60) = 0
  · obtain ⟨hlen, hcan, hcnt, P, hP⟩ := check_good hc
    obtain ⟨h1, h2, h3, h4⟩ := tidy_may hlen hcan hcnt hP
    obtain ⟨_, _, _, P2, hP2⟩ := check_good h1
    have h5 : (tidyS (l0.take 60) P).length ≤ 60 := Nat.le_trans h3 (by rw [List.length_take]; omega)
    by_cases he : tidyS (l0.take 60) P = []
    · exact po_a w a0 c0 l0 _ _ P P2 w0 rfl hc hP rfl h1 hP2 (tidy_still hP2 h2) h5 (fun x hx => can_wf (h4 x hx)) he
    · exact po_b w a0 c0 l0 _ _ P P2 w0 rfl hc hP rfl h1 hP2 (tidy_still hP2 h2) h5 (fun x hx => can_wf (h4 x hx)) he
  · exact po_bad w a0 c0 l0 _ w0 rfl hc

theorem own : ownKnob Try.prog.godebug = none := by kernel_rfl
theorem laidOut : laidOutB Try.prog = true := by kernel_rfl
set_option maxRecDepth 100000 in
theorem lifted_PeepOnce (os : Os) (started : os.Started) (H : Type) (enc : TypeId × Value → H) :
    ReturnsInHanded {} Try.checked os 4 .any (Rows.peepOnceSpec.pre6 enc Try.prog Try.f4 Rows.peepOnceRow.domain false) (Rows.peepOnceSpec.post enc Try.prog Try.f4 false true false false) := by
  refine returnsInHanded_of_change (C := Try.checked) own started (by kernel_rfl) Try.func4
    (ChangeSpec.witness6 (enc := enc) (C := Try.checked) false ⟨#[], #[.slice none 0 0], []⟩ 8 (by kernel_rfl) (by kernel_rfl) (by kernel_rfl) (by kernel_rfl)) ?_
  intro W base args ds gs before hval0 hW hcnd _
  have hval : ∀ (j : Nat) t v, Try.f4.params[j]? = some t → args[j]? = some v → Value.okWide Try.prog W .any base t v := hval0
  have hW' := hW
  obtain ⟨p, q, hA0, hV, rfl, hfz, hnd⟩ := hW
  have hA : DataW.TrodAll enc Try.prog W 0 (fun _ => true) true Try.f4.params.toList args.toList ds p := hA0
  rw [Try.params4] at hA hval
  obtain ⟨v0, vs0, d0, ds0, p0, q0, hargs, rfl, rfl, h0, r0⟩ := trodAll_cons hA
  obtain ⟨rfl, rfl, rfl⟩ := trodAll_nil r0
  obtain rfl : args = #[v0] := by cases args; simp_all
  obtain ⟨rfl, rfl⟩ := trodVars_none hV
  have k0 := h0
  have lt0 : ∀ x ∈ p0, x.block < W.heap.size := by obtain ⟨m, hm⟩ := k0; exact DataW.trod_lt m _ _ _ hm
  obtain ⟨a0, c0, l0, rfl, w0⟩ := lop_in (hval 0 22 v0 rfl rfl) h0
  clear hA0 hval0
  refine (walk_PeepOnce W a0 c0 l0 w0).mono fun e W' ⟨he, bel⟩ => ?_
  subst he
  exact ⟨_, rfl, _, _, _, [], _, [], hW', trodAll_mk1 (shut_bool Try.underlying4 _), (trodAll_cons_mk (Below.trod laidOut (by kernel_rfl) (of_decide_eq_true (by kernel_rfl)) k0 bel lt0) trodAll_mk0), rfl, bel.frame _, fun h => by cases h⟩

theorem holds_PeepOnce : Rows.PeepOnceSaid :=
  OpenClaim.holds_of_wide 4 Try.f4 rfl rfl rfl rfl rfl rfl rfl ⟨rfl, rfl, rfl, rfl, rfl⟩ rfl rfl rfl rfl rfl (by kernel_rfl) Try.func4 (by kernel_rfl)
    (of_decide_eq_true (by kernel_rfl)) (by unfold Func.isWrapper; first | (rw [if_pos (by decide +kernel)]; kernel_rfl) | (rw [if_neg (by decide +kernel)]; exact ⟨rfl, rfl⟩))
    (fun os started H enc _ => lifted_PeepOnce os started H enc)

end Go.Proofs.Ytlieapapmkbbgaa
