/- The statement of layer 42 on what goes back: it returns true for all words, over the table of three bits. -/
import Derived.Test.YtmlhoagcppofgaaDoorRows
import Derived.Test.YtmlhoagcppofgaaDoorCards
import Derived.Test.YtmlhoagcppofgaaDoorTie
import Derived.Test.YtmlhoagcppofgaaDoorFlC
import Derived.Test.YtmlhoagcppofgaaDoorFlL
import Derived.Test.YtmlhoagcppofgaaDoorOpen
import Derived.ProofKit
import Derived.OpenShut
import Derived.LaidMore
import Derived.Lib.LaidTab
import Derived.Stop.Joined
import Derived.SevenTiedAt
namespace Go.Proofs.YtmlhoagcppofgaaDoor
open Go Go.RowKit Go.ChangeShapes Go.WideShapes Go.ChangeAt Pl
set_option linter.unusedVariables false

/-- pairs that lie in a row -/
def PairsIn (w : World) (a : Option Addr) (l : List (Nat × Nat)) : Prop := l = [] ∨ ∃ g, a = some ⟨g, 0, none⟩ ∧ g < w.heap.size ∧ ∀ j p, l[j]? = some p → w.cell? ⟨g, 2 * j, none⟩ = some (.int .i64 (p.1 : Int)) ∧ w.cell? ⟨g, 2 * j + 1, none⟩ = some (.int .i64 (p.2 : Int))
theorem PairsIn.later {w w' : World} {a : Option Addr} {l : List (Nat × Nat)} (h : PairsIn w a l) (hb : Below w.heap.size w w') : PairsIn w' a l := by
  rcases h with h | ⟨g, rfl, hg, hc⟩
  · exact .inl h
  · exact .inr ⟨g, rfl, Nat.lt_of_lt_of_le hg hb.size, fun j p hj => ⟨(hb.cell (p := ⟨g, 2 * j, none⟩) hg).trans (hc j p hj).1, (hb.cell (p := ⟨g, 2 * j + 1, none⟩) hg).trans (hc j p hj).2⟩⟩
theorem pairs_at {l : List (Nat × Nat)} {j : Nat} {p : Nat × Nat} (h : l[j]? = some p) : (pairsV l)[2 * j]? = some (.int .i64 (p.1 : Int)) ∧ (pairsV l)[2 * j + 1]? = some (.int .i64 (p.2 : Int)) := by
  induction l generalizing j with
  | nil => simp at h
  | cons q l ih =>
    have e : pairsV (q :: l) = .int .i64 (q.1 : Int) :: .int .i64 (q.2 : Int) :: pairsV l := rfl
    cases j with
    | zero => simp at h; subst h; rw [e]; exact ⟨rfl, rfl⟩
    | succ j =>
      rw [e, show 2 * (j + 1) = 2 * j + 1 + 1 by omega]
      simp only [List.getElem?_cons_succ] at h ⊢
      exact ih h
theorem own_pairs {w : World} {base : Nat} {e : TypeId} {v : Value} {l : List (Nat × Nat)} (h : w.ownsRow base e 2 v l.length (pairsV l)) : ∃ a c, v = .slice a l.length c ∧ PairsIn w a l := by
  have hlt := h.lt
  have h' := h
  obtain ⟨_, ⟨hv, hn⟩ | ⟨g, cap, cur, hv, hg, hh, hc, hcm, _⟩⟩ := h
  · exact ⟨none, 0, by rw [hv, hn], Or.inl (List.eq_nil_of_length_eq_zero hn)⟩
  · refine ⟨some ⟨g, 0, none⟩, cap, hv, Or.inr ⟨g, rfl, (hlt g (by rw [hv]; rfl)).2, fun j p hj => ?_⟩⟩
    have hp := pairs_at hj
    have e : ∀ k, (⟨g, 0, none⟩ : Addr).add k = ⟨g, k, none⟩ := fun k => by unfold Addr.add; split <;> simp_all
    have c1 := h'.cells (g := g) (by rw [hv]; rfl) (2 * j) _ hp.1
    have c2 := h'.cells (g := g) (by rw [hv]; rfl) (2 * j + 1) _ hp.2
    rw [e] at c1 c2
    exact ⟨c1, c2⟩
theorem partF {P : Program} {e : TypeId} (he : P.underlying e = some (.int .i64)) (xs : Array Value) (k : Nat) (v : Value) (h : xs[k]? = some v) (w : World) : (Go.part e xs k).run P w = .ok v w := by
  simp [Go.part, Go.isAgg, run_underlying he, h]
theorem eqA2F {P : Program} {t e : TypeId} {i : TypeInfo} (hu : P.underlying t = some (.array 2 e)) (he : P.underlying e = some (.int .i64)) (hi : P.info? e = some i) (hC : P.cellsOf e = 1) (x y a b : Int) (w : World) :
    (Op.equalIn 10000 t (.agg #[.int .i64 x, .int .i64 y]) (.agg #[.int .i64 a, .int .i64 b])).run P w = .ok (x == a && y == b) w := by
  rw [run_equalIn_array w 9999 _ _ hu hi, hC, show List.range 2 = [0, 1] from rfl]
  have pe : ∀ u v : Int, (Op.equalIn 9999 e (.int .i64 u) (.int .i64 v)).run P w = .ok (u == v) w := fun u v => run_equalIn_int w 9998 e .i64 .i64 u v he
  have p0 := fun (x y : Int) => partF he #[.int .i64 x, .int .i64 y] (0 * 1) (.int .i64 x) rfl w
  have p1 := fun (x y : Int) => partF he #[.int .i64 x, .int .i64 y] (1 * 1) (.int .i64 y) rfl w
  simp only [Op.eqItems, Sem.run_bind, p0, p1, pe, Result.andThen_ok, Sem.run_ite, Sem.run_pure]
  cases h1 : (x == a) <;> cases h2 : (y == b) <;> simp
theorem eq_pair (x y : Int) (w : World) : (Op.equalIn 10000 48 (.agg #[.int .i64 x, .int .i64 y]) (.agg #[.int .i64 x, .int .i64 y])).run Tryd.prog w = .ok true w := by
  have hs : (Tryd.prog.info? 3).isSome = true := by kernel_rfl
  obtain ⟨i, hi⟩ := Option.isSome_iff_exists.1 hs
  rw [eqA2F Tryd.underlying48 Tryd.underlying3 hi (by kernel_rfl)]
  simp

set_option maxRecDepth 100000 in
set_option maxHeartbeats 4000000 in
theorem walk_FlowBacks (w : World) (a0 : Option Addr) (c0 : Nat) (l0 : List Nat) (w0 : WordsC w a0 l0 c0) (ht : T3 w) :
    Calls Tryd.prog 6 #[.slice a0 l0.length c0] w fun e w' => e = .returned (.bool true) ∧ Below w.heap.size w w' := by
  have FW := Lib.hid (wfew_any a0 c0 l0 w w0)
  have HT := Lib.hid ht
  have hl : (l0.take 30).length ≤ 30 := by simp; omega
  clear w0 ht
  go_enter Tryd.func6, Tryd.ntmps6
  go_wp2_with fail
  refine FW.out.mono ?_
  clear FW
  unfold FewW
  generalize l0.take 30 = l at *
  rintro e w1 ⟨a, c, rfl, hw1, hb1⟩
  have HW1 := Lib.hid hw1
  have HB1 := Lib.hid hb1
  clear hw1 hb1
  go_wp2_with fail
  refine (back_any a c l w1 (HT.out.later HB1.out) HW1.out (by omega)).mono ?_
  rintro e w2 ⟨v, rfl, own, hb2⟩
  obtain ⟨ap, cp, rfl, hp⟩ := own_pairs own
  have HP := Lib.hid hp
  have HB2 := Lib.hid (below_trans HB1.out hb2)
  have HW2 := Lib.hid (HW1.out.later hb2)
  have LA := Lib.hid (fun (m k : Nat) (h : bkQ m (qAt l m) = some k) (hm : m < l.length) => backsTo_at (l := l) (n := l.length) h hm)
  have LL := Lib.hid (show (backsTo l l.length).length = (backsTo l l.length).length from rfl)
  have LE := Lib.hid (show ∀ m, m = l.length → (backsTo l m).length = (backsTo l l.length).length from fun m h => by rw [h])
  clear own hp hb2 HW1 HB1 LL
  generalize backsTo l l.length = L at *
  go_wp2_with fail
  go_loopw [4, 5] (fun n i wr => ∃ m N : Nat, m ≤ l.length ∧ i = .int .i64 m ∧ n = .int .i64 (N : Nat) ∧ N = (backsTo l m).length ∧ Below w2.heap.size w2 wr) (fun _ i _ => l.length - (intOf i).toNat)
  case atStart => exact ⟨0, 0, Nat.zero_le _, rfl, rfl, rfl, Below.refl _ _⟩
  case round =>
    obtain ⟨m, N0, hm, rfl, rfl, hN, hb⟩ := hrel
    have HN := Lib.hid hN
    clear hN
    by_cases hlt : m < l.length
    · obtain ⟨wo, rfl⟩ : ∃ wo : World, wo = wr := ⟨_, rfl⟩
      have HB := Lib.hid hb
      have MA := Lib.hid (metQ_all l m)
      have um := IntWalk.i64_in ((m : Int) + 1) (by omega)
      clear hb
      go_wp2_with fail
      go_loopw [4, 6] (fun n i wr => ∃ k N : Nat, k ≤ m + 1 ∧ i = .int .i64 k ∧ n = .int .i64 (N : Nat) ∧ N = (backsTo l m).length + metQ m (qAt l m) k ∧ Below w2.heap.size w2 wr) (fun _ i _ => m + 1 - (intOf i).toNat)
      case atStart => exact ⟨0, N0, Nat.zero_le _, rfl, rfl, by rw [metQ_zero, HN.out]; rfl, HB.out⟩
      case round =>
        obtain ⟨k, N, hk, rfl, rfl, hN, hb⟩ := hrel
        have HNi := Lib.hid hN
        clear hN
        by_cases hkt : k ≤ m
        · have GA := Lib.hid (fun W hW => goes_any a c l m k W hW hlt (by omega) (by omega))
          have HBi := Lib.hid hb
          have uk := IntWalk.i64_in ((k : Int) + 1) (by omega)
          clear hb
          cases hA : aimQ (qAt l m) m k
          · have MN := Lib.hid (metQ_no (i := m) (q := qAt l m) (k := k) (fun h => by
              have := (bkQ_iff m (qAt l m) k hkt).1 h
              unfold aimQ at hA
              rw [this.1, decide_eq_true this.2] at hA
              cases hA))
            unfold GoesP at GA
            rw [hA] at GA
            go_wp2_with fail
            refine (GA.out _ (HW2.out.later HBi.out)).mono ?_
            rintro e w3 ⟨rfl, hb3⟩
            go_wp2_with fail
            refine ⟨⟨k + 1, N, by omega, rfl, rfl, by rw [MN.out]; exact HNi.out, below_trans HBi.out hb3⟩, by simp [intOf]; omega⟩
          · have hbk : bkQ m (qAt l m) = some k := (bkQ_iff m (qAt l m) k hkt).2 (by
              unfold aimQ at hA
              simp only [Bool.and_eq_true, decide_eq_true_eq] at hA
              exact hA)
            have MY := Lib.hid (metQ_yes hbk)
            have EQP := fun W => eq_pair (m : Int) (k : Int) W
            have EN : N = (backsTo l m).length := by rw [HNi.out, MY.out.1]; rfl
            have AT := LA.out m k hbk hlt
            rw [← EN] at AT
            have hNL : N < L.length := by
              rcases Nat.lt_or_ge N L.length with g | g
              · exact g
              · rw [List.getElem?_eq_none g] at AT; cases AT
            have bm := backsTo_len l m
            have PL := HP.out.later HBi.out
            rcases PL with hnil | ⟨g, rfl, hg, hcs⟩
            · rw [hnil] at hNL; simp at hNL
            have CS := Lib.hid (hcs N _ AT)
            have un := IntWalk.i64_in ((N : Int) + 1) (by omega)
            have EN' := Lib.hid EN
            have hN1 : N ≤ 30 := by omega
            have hq : decide ((L.length : Int) ≤ (N : Int)) = false := by simp; omega
            have hq2 : ((L.length : Int) ≤ (N : Int)) = False := by simp; omega
            have hcz := HP.out
            clear AT bm hcs EN hbk hcz
            unfold GoesP at GA
            rw [hA] at GA
            go_wp2_with fail
            refine (GA.out _ (HW2.out.later HBi.out)).mono ?_
            rintro e w3 ⟨rfl, hb3⟩
            have c1 := (hb3.cell (p := ⟨g, 2 * N, none⟩) hg).trans CS.out.1
            have c2 := (hb3.cell (p := ⟨g, 2 * N + 1, none⟩) hg).trans CS.out.2
            rw [Nat.mul_comm] at c1 c2
            go_wp2_with fail
            refine ⟨⟨k + 1, N + 1, by omega, rfl, rfl, by rw [MY.out.2, EN'.out], below_trans HBi.out hb3⟩, by simp [intOf]; omega⟩
        · obtain rfl : k = m + 1 := by omega
          have hf : decide ((m + 1 : Nat) ≤ m) = false := by simp
          have HBi := Lib.hid hb
          clear hb
          go_wp2_with fail
          refine ⟨⟨m + 1, N, by omega, rfl, rfl, by rw [HNi.out]; exact MA.out, HBi.out⟩, by simp [intOf]; omega⟩
    · obtain rfl : m = l.length := by omega
      have e0 : N0 = L.length := HN.out.trans (LE.out _ rfl)
      have LV := Lib.hid (fun W h => lives42 W h)
      have HB := Lib.hid hb
      clear hb
      subst e0
      go_wp2_with fail
      refine (LV.out _ (HT.out.later (below_trans HB2.out HB.out))).mono ?_
      rintro e w4 ⟨rfl, hb4⟩
      go_wp2_with fail
      go_ret
      exact ⟨rfl, below_trans (below_trans HB2.out HB.out) hb4⟩

set_option maxRecDepth 100000 in
theorem lifted_FlowBacks (os : Os) (started : os.Started) (H : Type) (enc : TypeId × Value → H) :
    ReturnsInHanded {} Tryd.checked os 6 .any (fun w args => (Rows.flowBacksSpec.pre enc Tryd.prog Tryd.f6 [] false w args ∧ laidMetH Tryd.prog laid3 w) ∧ sizedMet enc Tryd.prog Tryd.f6 (OpenSpec.ofChange Rows.flowBacksSpec) false w args)
      (Rows.flowBacksSpec.post enc Tryd.prog Tryd.f6 false true false false) := by
  refine returnsInHanded_of_change_and (C := Tryd.checked) (X := fun w _ => laidMetH Tryd.prog laid3 w) (fun _ _ _ hh h => h.of_heap hh) own started (by kernel_rfl) Tryd.func6
    (ChangeSpec.witness_shaped (enc := enc) (C := Tryd.checked) (os := os) (X := fun w _ => laidMetH Tryd.prog laid3 w) false (World.doorLaid Tryd.prog 400 os) #[.slice none 0 0] 8 rfl (World.shaped_of_RefB (by kernel_rfl) (by kernel_rfl)) (by kernel_rfl) (by kernel_rfl) (by kernel_rfl) (door_met os _)) ?_
  intro W base args ds gs before hval0 hW _ _ hL _
  have hval : ∀ (j : Nat) t v, Tryd.f6.params[j]? = some t → args[j]? = some v → Value.okWide Tryd.prog W .any base t v := hval0
  have hW' := hW
  obtain ⟨p, q, hA0, hV, rfl, hfz, hnd⟩ := hW
  have hA : DataW.TrodAll enc Tryd.prog W 0 (fun _ => true) true Tryd.f6.params.toList args.toList ds p := hA0
  rw [Tryd.params6] at hA hval
  obtain ⟨v0, vs0, d0, ds0, p0, q0, hargs, rfl, rfl, h0, r0⟩ := trodAll_cons hA
  obtain ⟨rfl, rfl, rfl⟩ := trodAll_nil r0
  obtain rfl : args = #[v0] := by cases args; simp_all
  obtain ⟨rfl, rfl⟩ := trodVars_none hV
  have k0 := h0
  have lt0 : ∀ x ∈ p0, x.block < W.heap.size := by obtain ⟨m, hm⟩ := k0; exact DataW.trod_lt m _ _ _ hm
  obtain ⟨a0, c0, l0, rfl, w0⟩ := words_in Tryd.underlying22 Tryd.underlying32 (by kernel_rfl) (hval 0 22 v0 rfl rfl) h0
  clear hA0 hval0
  refine (walk_FlowBacks W a0 c0 l0 w0 (t3_of hL)).mono fun e W' ⟨he, bel⟩ => ?_
  subst he
  exact ⟨_, rfl, _, _, _, [], _, [], hW', trodAll_mk1 (shut_bool Tryd.underlying4 _), (trodAll_cons_mk (Below.trod laidOut (by kernel_rfl) (of_decide_eq_true (by kernel_rfl)) k0 bel lt0) trodAll_mk0), rfl, bel.frame _, fun h => by cases h⟩

theorem row_FlowBacks : Rows.FlowBacksSaid :=
  OpenClaim.holds_of_wide 6 Tryd.f6 rfl rfl rfl rfl rfl rfl rfl ⟨rfl, rfl, rfl, rfl, rfl⟩ rfl rfl rfl rfl rfl (by kernel_rfl) Tryd.func6 (by kernel_rfl)
    (of_decide_eq_true (by kernel_rfl)) (by unfold Func.isWrapper; first | (rw [if_pos (by decide +kernel)]; kernel_rfl) | (rw [if_neg (by decide +kernel)]; exact ⟨rfl, rfl⟩))
    (fun os started H enc _ => lifted_FlowBacks os started H enc)
theorem holds_FlowBacks : Rows.FlowBacksCardSaid :=
  Claim7.holds_tied_plain_at .later [] [.data] true _ false
    row_FlowBacks (fun _ h => by cases h) (by kernel_rfl) (fun _ h => by cases h) flowBacks_row_tie rfl ⟨rfl, rfl⟩ (by kernel_rfl) rfl
    (fun f fn hf hfn => by
      obtain rfl : f = 6 := Option.some.inj ((show Tryd.prog.funcNamed "pintle/pintlelaw42.FlowBacks" = some 6 by kernel_rfl).symm.trans hf) |>.symm
      obtain rfl : fn = Tryd.f6 := (Option.some.inj (Tryd.func6.symm.trans hfn)).symm
      exact ⟨by kernel_rfl, fun j t ht => by
        rw [Tryd.params6] at ht
        have hm : t ∈ [22] := by simpa using Array.mem_of_getElem? ht
        have hall : ([22].all fun u => !Tryd.prog.wantsStandIn u) = true := by kernel_rfl
        exact (show Tryd.prog.wantsStandIn t = false by simpa using List.all_eq_true.1 hall t hm)⟩)
    (by kernel_rfl)

end Go.Proofs.YtmlhoagcppofgaaDoor
