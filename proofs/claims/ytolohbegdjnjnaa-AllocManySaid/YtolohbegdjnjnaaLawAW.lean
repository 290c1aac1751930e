/- The statement AllocWeighs of layer 17: it returns true for all inputs. -/
import Derived.Test.YtolohbegdjnjnaaRows
import Derived.Test.YtolohbegdjnjnaaAwV
import Derived.Test.YtolohbegdjnjnaaAwL
import Derived.Test.YtolohbegdjnjnaaOpen
namespace Go.Proofs.Ytolohbegdjnjnaa
open Go Go.RowKit Go.ChangeShapes Go.WideShapes Go.ChangeAt
set_option linter.unusedVariables false

set_option maxRecDepth 100000 in
theorem lop_in {H : Type} {enc : TypeId × Value → H} {w : World} {r : Reach} {b base : Nat} {spare : Nat → Bool} {held : Bool} {v : Value} {d : DataW H} {p : List MemPlace}
    (hv : Value.okWide Try.prog w r b 22 v) (h : DataW.Trod enc Try.prog w base spare held 22 v d p) : ∃ (a : Option Addr) (c : Nat) (l : List Q5), v = .slice a l.length c ∧ L5In w a l c := by
  refine lops_in Try.underlying22 Try.underlying45 (by kernel_rfl) (by rfl) (by kernel_rfl) ?_ hv h
  intro j f hf
  match j, hf with
  | 0, hf => simp at hf; subst hf; exact Try.underlying3
  | 1, hf => simp at hf; subst hf; exact Try.underlying3
  | 2, hf => simp at hf; subst hf; exact Try.underlying3
  | 3, hf => simp at hf; subst hf; exact Try.underlying3
  | 4, hf => simp at hf; subst hf; exact Try.underlying21
  | j + 5, hf => simp at hf
theorem wf_take {l t : List Q5} (h : ∀ x ∈ l, x.wf) (ht : t = l.take 60) : ∀ x ∈ t, x.wf := by
  subst ht
  exact fun x hx => h x (List.mem_of_mem_take hx)
theorem runAppendZero {P : Program} {t ty e : TypeId} (ht : P.underlying t = some (.slice e)) {i : TypeInfo} {z : Value} (hi : P.info? e = some i) (hz : i.zero = some z) (g : Nat) (ad : Option Addr) (c : Nat) (w : World) :
    (Builtin.append_ #[t, t] ty #[.slice (some ⟨g, 0, none⟩) 0 0, .slice ad 0 c]).run P w = .ok (.slice (some ⟨g, 0, none⟩) 0 0) w := by
  cases ad <;> simp [Builtin.append_, run_underlying ht, sizeOf, typeInfo, hi, Builtin.lenOf, Builtin.firstCells, loadCells, loadCellsFrom, storeCells]
theorem appendZero {P : Program} {ops : Array Oper} {rest : List Oper} {o : Oper} {a : Act} {w : World} {Q : Exit → Act → World → Prop} (hgd : o.guard = none) (s x : Operand) (t : TypeId)
    (ho : o.op = .call { callee := .builtin .append, args := #[s, x], argTypes := #[t, t] })
    (e : TypeId) (i : TypeInfo) (z : Value) (ht : P.underlying t = some (.slice e)) (hi : P.info? e = some i) (hz : i.zero = some z)
    (g : Nat) (hs : a.eval s = .slice (some ⟨g, 0, none⟩) 0 0) (ad : Option Addr) (c : Nat) (hx : a.eval x = .slice ad 0 c)
    (h : wpList P ops Q rest (a.put o.dst (.slice (some ⟨g, 0, none⟩) 0 0)) w) : wpList P ops Q (o :: rest) a w := by
  refine wpList_plain hgd fun K hK => ?_
  have hr := runAppendZero (P := P) (ty := o.type) ht hi hz g ad c w
  unfold Oper.wp execOp
  simp only [ho, resolve, invoke, builtin, Sem.run_bind, Sem.run_pure, Result.andThen_ok, List.map_toArray, List.map_cons, List.map_nil, hs, hx, hr]
  exact hK _ _ h
theorem flat_of {w : World} {b off : Nat} {l : List Q5} (h : ∀ k x, l[k]? = some x → w.cell? ⟨b, off + k * 5, none⟩ = some (.int .i64 x.o) ∧ w.cell? ⟨b, off + k * 5 + 1, none⟩ = some (.int .i64 x.d) ∧ w.cell? ⟨b, off + k * 5 + 2, none⟩ = some (.int .i64 x.a) ∧ w.cell? ⟨b, off + k * 5 + 3, none⟩ = some (.int .i64 x.b) ∧ w.cell? ⟨b, off + k * 5 + 4, none⟩ = some (.int .i32 x.i)) :
    ∀ j u, (flat l)[j]? = some u → w.cell? ⟨b, off + j, none⟩ = some u := by
  induction l generalizing off with
  | nil => intro j u hj; simp [flat] at hj
  | cons x l ih =>
    intro j u hj
    obtain ⟨c0, c1, c2, c3, c4⟩ := h 0 x rfl
    have e : flat (x :: l) = x.cells ++ flat l := rfl
    rw [e] at hj
    have hl : x.cells.length = 5 := rfl
    by_cases hj5 : j < 5
    · rw [List.getElem?_append_left (by rw [hl]; exact hj5)] at hj
      rw [Nat.zero_mul] at c0 c1 c2 c3 c4
      have : j = 0 ∨ j = 1 ∨ j = 2 ∨ j = 3 ∨ j = 4 := by omega
      rcases this with rfl | rfl | rfl | rfl | rfl <;> cases hj
      · exact c0
      · exact c1
      · exact c2
      · exact c3
      · exact c4
    · rw [List.getElem?_append_right (by rw [hl]; omega), hl] at hj
      have := ih (off := off + 5) (fun k y hy => by
        have := h (k + 1) y hy
        rwa [show off + (k + 1) * 5 = off + 5 + k * 5 by omega] at this) (j - 5) u hj
      rwa [show off + 5 + (j - 5) = off + j by omega] at this
theorem l5_put {w : World} {base : Nat} {v : Value} {t : List Q5} (h : w.ownsRow base 45 5 v (0 + t.length) ([] ++ flat t)) (hne : t ≠ []) (hn : t.length ≤ 1000) :
    ∃ g c, v = .slice (some ⟨g, 0, none⟩) t.length c ∧ base ≤ g ∧ L5 w (some ⟨g, 0, none⟩) t := by
  rw [Nat.zero_add, List.nil_append] at h
  have hp : 0 < t.length := List.length_pos_iff.2 hne
  have hlt := h.lt
  have h' := h
  obtain ⟨_, ⟨hv, hn0⟩ | ⟨g, cap, cur, hv, hg, hh, hc, hcm, _⟩⟩ := h
  · omega
  · refine ⟨g, cap, hv, hg, l5_mk (by omega) (hlt g (by rw [hv]; rfl)).2 fun j u hj => ?_⟩
    have := h'.cells (g := g) (by rw [hv]; rfl) j u hj
    rw [add_at] at this
    exact this
theorem bt17 {w a b : World} (h : Below w.heap.size w a) (k : Below a.heap.size a b) : Below w.heap.size w b := h.trans (k.mono h.size)
theorem good_R (l : List Q5) (P : List Int) : ∀ (xs : List Q5) (i d : Nat) (W : List Int), GoodW W → GoodW (weighR l P xs i d W)
  | [], _, _, _, h => h
  | x :: xs, i, d, W, h => good_R l P xs _ _ _ (good_fold h _ _)
theorem good_S (l : List Q5) : GoodW (weighS l) := by
  unfold weighS
  split
  · split
    · exact good_R _ _ _ _ _ _ good_zero
    · exact good_zero
  · exact good_zero
theorem wrow_iat {w : World} {base g : Nat} {W : List Int} (h : WRow w base g W) (hW : W.length = 64) : IAt w (some ⟨g, 0, none⟩) W := by
  have h2 : OwnI w base (.slice (some ⟨g, 0, none⟩) 64 64) W := by unfold OwnI; rw [hW]; exact h
  obtain ⟨a, c, e, hI⟩ := own_i h2 (by omega)
  have : some ⟨g, 0, none⟩ = a := by injection e
  rw [this]
  exact hI

set_option maxRecDepth 100000 in
set_option maxHeartbeats 2000000 in
theorem aws_a (w : World) (a0 : Option Addr) (c0 : Nat) (l0 t : List Q5) (w0 : L5In w a0 l0 c0) (ht : t = l0.take 60) (he : t = []) :
    Calls Try.prog 6 #[.slice a0 l0.length c0] w fun e w' => e = .returned (.bool true) ∧ Below w.heap.size w w' := by
  have HT := Lib.hid ht
  have hll : t.length ≤ 60 := by rw [ht, List.length_take]; omega
  have WF := Lib.hid (wf_take w0.2.2.1 ht)
  have W0 := Lib.hid w0
  have HEM := Lib.hid he
  obtain ⟨i0, hi0, hz0, hz1, hz2⟩ := info_parts info_lopF
  clear ht w0 he
  go_enter Try.func6, Try.ntmps6
  go_wp2_with fail
  refine (fewL_at a0 c0 l0 t w W0.out HT.out).mono ?_
  rintro e w4 ⟨a3, c3, rfl, s3, b3⟩
  have S4 := Lib.hid s3
  have B4 := Lib.hid b3
  clear s3 b3
  have OWN0 := Lib.hid (own_emptyL w4)
  have BL0 := Lib.hid ((Below.refl w4.heap.size w4).alloc (Nat.le_refl _) (.cells #[] 45))
  have HL0 := Lib.hid (show t.length = 0 by rw [HEM.out]; rfl)
  go_wp2_with (at_builtin; refine appendZero rfl (.tmp 5) (.tmp 6) 22 rfl 45 i0 _ Try.underlying22 hi0 hz0 w4.heap.size rfl a3 c3 (show Value.slice a3 t.length c3 = Value.slice a3 0 c3 by rw [HL0.out]) ?_)
  have S7 := Lib.hid (show L5 (w4.alloc (.cells #[] 45)) (some ⟨w4.heap.size, 0, none⟩) t by rw [HEM.out]; exact ⟨by simp, .inl rfl⟩)
  have B47 := Lib.hid BL0.out
  generalize w4.alloc (.cells #[] 45) = w7 at *
  clear OWN0 BL0
  obtain ⟨g5, hg5⟩ : ∃ g5, w4.heap.size = g5 := ⟨_, rfl⟩
  rw [hg5] at S7 ⊢
  obtain ⟨c5, hc5⟩ : ∃ c5, c5 = 0 := ⟨_, rfl⟩
  rw [show (Value.slice (some ⟨g5, 0, none⟩) 0 0) = Value.slice (some ⟨g5, 0, none⟩) t.length c5 by rw [HL0.out, hc5]]
  clear hc5 hg5
  have B7 := Lib.hid (bt17 B4.out B47.out)
  have S37 := Lib.hid (S4.out.later B47.out)
  clear B47
  refine (weigh_any _ c5 t w7 S7.out).mono ?_
  have GS := Lib.hid (good_S t).1
  have RWE := Lib.hid (fun W (h : L5 W a3 t) => rweigh_any a3 c3 t W h WF.out)
  generalize weighS t = T at *
  rintro e w8 ⟨g8, rfl, r8, b8⟩
  have R8 := Lib.hid r8
  have B8 := Lib.hid (bt17 B7.out b8)
  have S8 := Lib.hid (S37.out.later b8)
  clear r8 b8
  go_wp2_with fail
  refine (RWE.out w8 S8.out).mono ?_
  rintro e w9 ⟨g9, rfl, r9, b9⟩
  have B9 := Lib.hid (bt17 B8.out b9)
  have IE := ints_eq (some ⟨g8, 0, none⟩) (some ⟨g9, 0, none⟩) 64 64 T w9 (wrow_iat (own_later R8.out b9) GS.out) (wrow_iat r9 GS.out)
  rw [GS.out] at IE
  have IEH := Lib.hid IE
  clear IE r9 b9
  go_wp2_with fail
  refine IEH.out.mono ?_
  rintro e wa ⟨rfl, ba⟩
  have BA := Lib.hid (bt17 B9.out (below_draw ba))
  clear ba
  go_wp2_with fail
  refine (lives17 _).mono ?_
  rintro e wb ⟨rfl, bb⟩
  have BB := Lib.hid (bt17 BA.out bb)
  clear bb
  go_wp2_with fail
  go_ret
  exact ⟨rfl, BB.out⟩

set_option maxRecDepth 100000 in
set_option maxHeartbeats 2000000 in
theorem aws_b (w : World) (a0 : Option Addr) (c0 : Nat) (l0 t : List Q5) (w0 : L5In w a0 l0 c0) (ht : t = l0.take 60) (he : t ≠ []) :
    Calls Try.prog 6 #[.slice a0 l0.length c0] w fun e w' => e = .returned (.bool true) ∧ Below w.heap.size w w' := by
  have HT := Lib.hid ht
  have hll : t.length ≤ 60 := by rw [ht, List.length_take]; omega
  have WF := Lib.hid (wf_take w0.2.2.1 ht)
  have W0 := Lib.hid w0
  have HEM := Lib.hid he
  obtain ⟨i0, hi0, hz0, hz1, hz2⟩ := info_parts info_lopF
  clear ht w0 he
  go_enter Try.func6, Try.ntmps6
  go_wp2_with fail
  refine (fewL_at a0 c0 l0 t w W0.out HT.out).mono ?_
  rintro e w4 ⟨a3, c3, rfl, s3, b3⟩
  have S4 := Lib.hid s3
  have B4 := Lib.hid b3
  clear s3 b3
  have OWN0 := Lib.hid (own_emptyL w4)
  have BL0 := Lib.hid ((Below.refl w4.heap.size w4).alloc (Nat.le_refl _) (.cells #[] 45))
  obtain ⟨b1, off, rfl, hb1w, hflat⟩ : ∃ b1 off, a3 = some ⟨b1, off, none⟩ ∧ b1 < w4.heap.size ∧ ∀ j u, (flat t)[j]? = some u → w4.cell? ⟨b1, off + j, none⟩ = some u := by
    obtain ⟨_, h | ⟨b1, off, h1, h2, h3⟩⟩ := S4.out
    · exact absurd h HEM.out
    · exact ⟨b1, off, h1, h2, flat_of h3⟩
  have NEWS := Lib.hid (show ∀ j u, (flat t)[j]? = some u → (w4.alloc (.cells #[] 45)).cell? ((⟨b1, off, none⟩ : Addr).add j) = some u from fun j u hj => by
    rw [add_at]
    exact (BL0.out.cell (p := ⟨b1, off + j, none⟩) hb1w).trans (hflat j u hj))
  have LNF := Lib.hid (flat_len t)
  have ONEF := Lib.hid (flat_one t)
  have MX := Lib.hid (show 0 + t.length ≤ maxLen by unfold maxLen; omega)
  have MXB := Lib.hid (show (0 + t.length) * 40 ≤ 140737488355328 by omega)
  have SZ := Lib.hid (show w4.heap.size ≤ (w4.alloc (.cells #[] 45)).heap.size by simp)
  clear hflat
  go_wp2_with (at_builtin; refine wpList_append_own _ rfl (.tmp 5) (.tmp 6) 22 rfl w4.heap.size 45 i0 (.agg #[.int .i64 0, .int .i64 0, .int .i64 0, .int .i64 0, .int .i32 0]) 5 40 Try.underlying22 hi0 hz0 hz1 hz2 rfl (by decide) (.slice (some ⟨w4.heap.size, 0, none⟩) 0 0) 0 [] rfl OWN0.out ⟨b1, off, none⟩ t.length c3 (flat t) rfl LNF.out NEWS.out ONEF.out MX.out MXB.out SZ.out ?_; intro v5 w7 hown hgrow hn7; obtain ⟨g5, c5, rfl, hG5, hL5⟩ := l5_put hown HEM.out (by omega); have S7 := Lib.hid hL5; have B47 := Lib.hid (BL0.out.grown hgrow BL0.out.size (fun k hk => by cases hk; exact Nat.le_refl _)); clear hown hgrow hn7 hL5 hG5)
  clear OWN0 BL0 NEWS SZ
  have B7 := Lib.hid (bt17 B4.out B47.out)
  have S37 := Lib.hid (S4.out.later B47.out)
  clear B47
  refine (weigh_any _ c5 t w7 S7.out).mono ?_
  have GS := Lib.hid (good_S t).1
  have RWE := Lib.hid (fun W (h : L5 W (some ⟨b1, off, none⟩) t) => rweigh_any (some ⟨b1, off, none⟩) c3 t W h WF.out)
  generalize weighS t = T at *
  rintro e w8 ⟨g8, rfl, r8, b8⟩
  have R8 := Lib.hid r8
  have B8 := Lib.hid (bt17 B7.out b8)
  have S8 := Lib.hid (S37.out.later b8)
  clear r8 b8
  go_wp2_with fail
  refine (RWE.out w8 S8.out).mono ?_
  rintro e w9 ⟨g9, rfl, r9, b9⟩
  have B9 := Lib.hid (bt17 B8.out b9)
  have IE := ints_eq (some ⟨g8, 0, none⟩) (some ⟨g9, 0, none⟩) 64 64 T w9 (wrow_iat (own_later R8.out b9) GS.out) (wrow_iat r9 GS.out)
  rw [GS.out] at IE
  have IEH := Lib.hid IE
  clear IE r9 b9
  go_wp2_with fail
  refine IEH.out.mono ?_
  rintro e wa ⟨rfl, ba⟩
  have BA := Lib.hid (bt17 B9.out (below_draw ba))
  clear ba
  go_wp2_with fail
  refine (lives17 _).mono ?_
  rintro e wb ⟨rfl, bb⟩
  have BB := Lib.hid (bt17 BA.out bb)
  clear bb
  go_wp2_with fail
  go_ret
  exact ⟨rfl, BB.out⟩

theorem walk_AllocWeighs (w : World) (a0 : Option Addr) (c0 : Nat) (l0 : List Q5) (w0 : L5In w a0 l0 c0) :
    Calls Try.prog 6 #[.slice a0 l0.length c0] w fun e w' => e = .returned (.bool true) ∧ Below w.heap.size w w' := by
  by_cases h : l0.take 60 = []
  · exact aws_a w a0 c0 l0 _ w0 rfl h
  · exact aws_b w a0 c0 l0 _ w0 rfl h

theorem own : ownKnob Try.prog.godebug = none := by kernel_rfl
theorem laidOut : laidOutB Try.prog = true := by kernel_rfl
set_option maxRecDepth 100000 in
theorem lifted_AllocWeighs (os : Os) (started : os.Started) (H : Type) (enc : TypeId × Value → H) :
    ReturnsInHanded {} Try.checked os 6 .any (Rows.allocWeighsSpec.pre6 enc Try.prog Try.f6 Rows.allocWeighsRow.domain false) (Rows.allocWeighsSpec.post enc Try.prog Try.f6 false true false false) := by
  refine returnsInHanded_of_change (C := Try.checked) own started (by kernel_rfl) Try.func6
    (ChangeSpec.witness6 (enc := enc) (C := Try.checked) false ⟨#[], #[.slice none 0 0], []⟩ 8 (by kernel_rfl) (by kernel_rfl) (by kernel_rfl) (by kernel_rfl)) ?_
  intro W base args ds gs before hval0 hW hcnd _
  have hval : ∀ (j : Nat) t v, Try.f6.params[j]? = some t → args[j]? = some v → Value.okWide Try.prog W .any base t v := hval0
  have hW' := hW
  obtain ⟨p, q, hA0, hV, rfl, hfz, hnd⟩ := hW
  have hA : DataW.TrodAll enc Try.prog W 0 (fun _ => true) true Try.f6.params.toList args.toList ds p := hA0
  rw [Try.params6] at hA hval
  obtain ⟨v0, vs0, d0, ds0, p0, q0, hargs, rfl, rfl, h0, r0⟩ := trodAll_cons hA
  obtain ⟨rfl, rfl, rfl⟩ := trodAll_nil r0
  obtain rfl : args = #[v0] := by cases args; simp_all
  obtain ⟨rfl, rfl⟩ := trodVars_none hV
  have k0 := h0
  have lt0 : ∀ x ∈ p0, x.block < W.heap.size := by obtain ⟨m, hm⟩ := k0; exact DataW.trod_lt m _ _ _ hm
  obtain ⟨a0, c0, l0, rfl, w0⟩ := lop_in (hval 0 22 v0 rfl rfl) h0
  clear hA0 hval0
  refine (walk_AllocWeighs W a0 c0 l0 w0).mono fun e W' ⟨he, bel⟩ => ?_
  subst he
  exact ⟨_, rfl, _, _, _, [], _, [], hW', trodAll_mk1 (shut_bool Try.underlying4 _), (trodAll_cons_mk (Below.trod laidOut (by kernel_rfl) (of_decide_eq_true (by kernel_rfl)) k0 bel lt0) trodAll_mk0), rfl, bel.frame _, fun h => by cases h⟩

theorem holds_AllocWeighs : Rows.AllocWeighsSaid :=
  OpenClaim.holds_of_wide 6 Try.f6 rfl rfl rfl rfl rfl rfl rfl ⟨rfl, rfl, rfl, rfl, rfl⟩ rfl rfl rfl rfl rfl (by kernel_rfl) Try.func6 (by kernel_rfl)
    (of_decide_eq_true (by kernel_rfl)) (by unfold Func.isWrapper; first | (rw [if_pos (by decide +kernel)]; kernel_rfl) | (rw [if_neg (by decide +kernel)]; exact ⟨rfl, rfl⟩))
    (fun os started H enc _ => lifted_AllocWeighs os started H enc)

end Go.Proofs.Ytolohbegdjnjnaa
