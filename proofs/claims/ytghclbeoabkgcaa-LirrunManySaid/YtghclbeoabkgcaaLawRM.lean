/- The statement LirrunMany of layer 16: it returns true for all inputs. -/
import Derived.Test.YtghclbeoabkgcaaRows
import Derived.Test.YtghclbeoabkgcaaLrR
import Derived.Test.YtghclbeoabkgcaaLrN
namespace Go.Proofs.Ytghclbeoabkgcaa
open Go Go.RowKit Go.ChangeShapes Go.WideShapes Go.ChangeAt Pl
set_option linter.unusedVariables false

theorem eqv_start (l : List Q5) (b b' : List Nat) : Eqv l ⟨0, fun _ => 0, b⟩ ⟨0, fun _ => 0, b'⟩ := ⟨rfl, fun _ _ => rfl⟩
set_option maxRecDepth 100000 in
set_option maxHeartbeats 2000000 in
theorem walk_LirrunMany (w : World) (a0 : Option Addr) (c0 : Nat) (l0 : List Q5) (a1 : Option Addr) (c1 : Nat) (l1 : List Nat) (a2 : Option Addr) (c2 : Nat) (l2 : List Nat) (w0 : L5In w a0 l0 c0) (w1 : SliceIn w a1 l1 c1) (w2 : SliceIn w a2 l2 c2) :
    Calls Try.prog 6 #[.slice a0 l0.length c0, .slice a1 l1.length c1, .slice a2 l2.length c2] w fun e w' => e = .returned (.bool true) ∧ Below w.heap.size w w' := by
  obtain ⟨t, ht⟩ : ∃ t, t = l0.take 60 := ⟨_, rfl⟩
  have HT := Lib.hid ht
  have hll : t.length ≤ 60 := by rw [ht, List.length_take]; omega
  have W0 := Lib.hid w0
  have W1 := Lib.hid w1
  have W2 := Lib.hid w2
  clear ht w0 w1 w2
  go_enter Try.func6, Try.ntmps6
  go_wp2_with fail
  refine (fewL_at a0 c0 l0 t w W0.out HT.out).mono ?_
  rintro e w3 ⟨a3, c3, rfl, s3, b3⟩
  have S3 := Lib.hid s3
  have B3 := Lib.hid b3
  clear s3 b3
  go_wp2_with fail
  refine (mems_any a1 c1 l1 w3 (W1.out.later B3.out)).mono ?_
  rintro e w4 ⟨M, F, R, X, rfl, m4⟩
  have M4 := Lib.hid m4
  have B4 := Lib.hid (B3.out.trans (m4.b.mono B3.out.size))
  clear m4
  go_wp2_with fail
  refine (mems_any a2 c2 l2 w4 (W2.out.later B4.out)).mono ?_
  rintro e w5 ⟨M', F', R', X', rfl, m5⟩
  have M5 := Lib.hid m5
  have B5 := Lib.hid (B4.out.trans (m5.b.mono B4.out.size))
  have S5 := Lib.hid ((S3.out.later M4.out.b).later m5.b)
  clear m5
  by_cases hc : checkS t = 0
  · obtain ⟨E, hp⟩ := prog1_of hc
    have HP := Lib.hid hp
    have HC := Lib.hid hc
    have MA := Lib.hid (show MemIs M F R K16.ff K16.rr K16.Fb (setB (noughts 128) 0 (l1.take 100)) w5 from M4.out.m.out (Out.of_below (fun _ => False) M5.out.b) id id id)
    have LT1 := Lib.hid (show M < w5.heap.size ∧ F < w5.heap.size ∧ R < w5.heap.size by
      have h1 := M4.out.hi; obtain ⟨_, _, hx, _⟩ := M4.out.x; have := hx.lt; have := M5.out.b.size; omega)
    have LO1 := Lib.hid M4.out.lo
    have LO2 := Lib.hid M5.out.lo
    have R4 := Lib.hid (show R < w4.heap.size by
      have h1 := M4.out.hi; obtain ⟨_, _, hx, _⟩ := M4.out.x; have := hx.lt; omega)
    clear hp hc
    go_wp2_with fail
    refine (run_mem 3000 t a3 c3 E w5 K16 M F R (setB (noughts 128) 0 (l1.take 100)) HP.out hll S5.out (l5_not S3.out LO1.out.2.2) MA.out (banks16 (take100 l1)) LT1.out HC.out (by decide)).mono ?_
    rintro e w6 ⟨v6, rfl, own6, mm6, bl6, o6⟩
    have S6 := Lib.hid (l5_far S3.out ((Out.of_below _ (M4.out.b.trans (M5.out.b.mono M4.out.b.size))).trans (o6.mono (fun j h => by rcases h with h | h; have := LO1.out; omega; have := M4.out.b.size; have := M5.out.b.size; omega))))
    have MB := Lib.hid (show MemIs M' F' R' K16.ff K16.rr K16.Fb (setB (noughts 128) 0 (l2.take 100)) w6 from M5.out.m.out o6 (by have h1 := M5.out.hi; obtain ⟨_, _, hx, _⟩ := M5.out.x; have := hx.lt; have := LO2.out; have := R4.out; rintro (h | h) <;> omega) (by have h1 := M5.out.hi; obtain ⟨_, _, hx, _⟩ := M5.out.x; have := hx.lt; have := LO2.out; have := R4.out; rintro (h | h) <;> omega) (by have h1 := M5.out.hi; obtain ⟨_, _, hx, _⟩ := M5.out.x; have := hx.lt; have := LO2.out; have := R4.out; rintro (h | h) <;> omega))
    have LT2 := Lib.hid (show M' < w6.heap.size ∧ F' < w6.heap.size ∧ R' < w6.heap.size by
      have h1 := M5.out.hi; obtain ⟨_, _, hx, _⟩ := M5.out.x; have := hx.lt; have := o6.size; omega)
    have B6 := Lib.hid (show Below w.heap.size w w6 from o6.below B5.out (Nat.le_refl _) (by have := LO1.out; have := B3.out.size; have := B5.out.size; rintro j (h | h) <;> omega))
    have O6 := Lib.hid (show w5.heap.size ≤ w6.heap.size from o6.size)
    clear own6 mm6 bl6 o6
    go_wp2_with fail
    refine (run_mem 3000 t a3 c3 E w6 K16 M' F' R' (setB (noughts 128) 0 (l2.take 100)) HP.out hll S6.out (l5_not S3.out (by have := LO2.out; have := M4.out.b.size; omega)) MB.out (banks16 (take100 l2)) LT2.out HC.out (by decide)).mono ?_
    rintro e w7 ⟨v7, rfl, own7, mm7, bl7, o7⟩
    have B7 := Lib.hid (show Below w.heap.size w w7 from o7.below B6.out (Nat.le_refl _) (by have := LO2.out; have := B4.out.size; have := B6.out.size; rintro j (h | h) <;> omega))
    have MANY := Lib.hid (many (K := K16) HP.out 3000 _ _ (eqv_start t (setB (noughts 128) 0 (l1.take 100)) (setB (noughts 128) 0 (l2.take 100))))
    clear own7 mm7 bl7 o7
    have e3 : (3000 : Int).toNat = 3000 := rfl
    rw [e3]
    clear e3
    generalize runL K16 t E 3000 ⟨0, fun _ => 0, setB (noughts 128) 0 (l1.take 100)⟩ = r1 at *
    generalize runL K16 t E 3000 ⟨0, fun _ => 0, setB (noughts 128) 0 (l2.take 100)⟩ = r2 at *
    obtain ⟨n1, t1, s1⟩ := r1
    obtain ⟨n2, t2, s2⟩ := r2
    simp only at MANY ⊢
    cases h1 : (t1 != 0)
    · cases h2 : (t2 != 0)
      · have hn : n1 = n2 := MANY.out (by simpa using h1) (by simpa using h2)
        subst hn
        clear MANY
        go_wp2_with fail
        refine (lives16 w7).mono ?_
        rintro e w8 ⟨rfl, b8⟩
        go_wp2_with fail
        go_ret
        exact ⟨rfl, B7.out.trans (b8.mono B7.out.size)⟩
      · clear MANY
        go_wp2_with fail
        refine (lives16 w7).mono ?_
        rintro e w8 ⟨rfl, b8⟩
        go_wp2_with fail
        go_ret
        exact ⟨rfl, B7.out.trans (b8.mono B7.out.size)⟩
    · clear MANY
      go_wp2_with fail
      refine (lives16 w7).mono ?_
      rintro e w8 ⟨rfl, b8⟩
      go_wp2_with fail
      go_ret
      exact ⟨rfl, B7.out.trans (b8.mono B7.out.size)⟩
  · obtain ⟨z, hz⟩ : ∃ z, checkS t = z := ⟨_, rfl⟩
    have HZ := Lib.hid hz
    have hz0 : (z == 0) = false := by rw [← hz]; simpa using hc
    clear hz hc
    go_wp2_with fail
    refine (run_bad 3000 z t a3 c3 (some ⟨M, 0, none⟩) w5 S5.out HZ.out hz0).mono ?_
    rintro e w6 ⟨rfl, b6⟩
    have B6 := Lib.hid (B5.out.trans (b6.mono B5.out.size))
    have S6 := Lib.hid (S5.out.later b6)
    clear b6
    go_wp2_with fail
    refine (run_bad 3000 z t a3 c3 (some ⟨M', 0, none⟩) w6 S6.out HZ.out hz0).mono ?_
    rintro e w7 ⟨rfl, b7⟩
    have B7 := Lib.hid (B6.out.trans (b7.mono B6.out.size))
    clear b7
    go_wp2_with fail
    refine (lives16 w7).mono ?_
    rintro e w8 ⟨rfl, b8⟩
    go_wp2_with fail
    go_ret
    exact ⟨rfl, B7.out.trans (b8.mono B7.out.size)⟩

theorem own : ownKnob Try.prog.godebug = none := by kernel_rfl
theorem laidOut : laidOutB Try.prog = true := by kernel_rfl
set_option maxRecDepth 100000 in
theorem lifted_LirrunMany (os : Os) (started : os.Started) (H : Type) (enc : TypeId × Value → H) :
    ReturnsInHanded {} Try.checked os 6 .any (Rows.lirrunManySpec.pre6 enc Try.prog Try.f6 Rows.lirrunManyRow.domain false) (Rows.lirrunManySpec.post enc Try.prog Try.f6 false true false false) := by
  refine returnsInHanded_of_change (C := Try.checked) own started (by kernel_rfl) Try.func6
    (ChangeSpec.witness6 (enc := enc) (C := Try.checked) false ⟨#[], #[.slice none 0 0, .slice none 0 0, .slice none 0 0], []⟩ 8 (by kernel_rfl) (by kernel_rfl) (by kernel_rfl) (by kernel_rfl)) ?_
  intro W base args ds gs before hval0 hW hcnd _
  have hval : ∀ (j : Nat) t v, Try.f6.params[j]? = some t → args[j]? = some v → Value.okWide Try.prog W .any base t v := hval0
  have hW' := hW
  obtain ⟨p, q, hA0, hV, rfl, hfz, hnd⟩ := hW
  have hA : DataW.TrodAll enc Try.prog W 0 (fun _ => true) true Try.f6.params.toList args.toList ds p := hA0
  rw [Try.params6] at hA hval
  obtain ⟨v0, vs0, d0, ds0, p0, q0, hargs, rfl, rfl, h0, r0⟩ := trodAll_cons hA
  obtain ⟨v1, vs1, d1, ds1, p1, q1, rfl, rfl, rfl, h1, r1⟩ := trodAll_cons r0
  obtain ⟨v2, vs2, d2, ds2, p2, q2, rfl, rfl, rfl, h2, r2⟩ := trodAll_cons r1
  obtain ⟨rfl, rfl, rfl⟩ := trodAll_nil r2
  obtain rfl : args = #[v0, v1, v2] := by cases args; simp_all
  obtain ⟨rfl, rfl⟩ := trodVars_none hV
  have k0 := h0
  have lt0 : ∀ x ∈ p0, x.block < W.heap.size := by obtain ⟨m, hm⟩ := k0; exact DataW.trod_lt m _ _ _ hm
  obtain ⟨a0, c0, l0, rfl, w0⟩ := lop_in (hval 0 27 v0 rfl rfl) h0
  have k1 := h1
  have lt1 : ∀ x ∈ p1, x.block < W.heap.size := by obtain ⟨m, hm⟩ := k1; exact DataW.trod_lt m _ _ _ hm
  obtain ⟨a1, c1, l1, rfl, w1⟩ := bytes_in Try.underlying45 Try.underlying5 (by kernel_rfl) (hval 1 45 v1 rfl rfl) h1
  have k2 := h2
  have lt2 : ∀ x ∈ p2, x.block < W.heap.size := by obtain ⟨m, hm⟩ := k2; exact DataW.trod_lt m _ _ _ hm
  obtain ⟨a2, c2, l2, rfl, w2⟩ := bytes_in Try.underlying45 Try.underlying5 (by kernel_rfl) (hval 2 45 v2 rfl rfl) h2
  clear hA0 hval0
  refine (walk_LirrunMany W a0 c0 l0 a1 c1 l1 a2 c2 l2 w0 w1 w2).mono fun e W' ⟨he, bel⟩ => ?_
  subst he
  exact ⟨_, rfl, _, _, _, [], _, [], hW', trodAll_mk1 (shut_bool Try.underlying4 _), (trodAll_cons_mk (Below.trod laidOut (by kernel_rfl) (of_decide_eq_true (by kernel_rfl)) k0 bel lt0) (trodAll_cons_mk (Below.trod laidOut (by kernel_rfl) (of_decide_eq_true (by kernel_rfl)) k1 bel lt1) (trodAll_cons_mk (Below.trod laidOut (by kernel_rfl) (of_decide_eq_true (by kernel_rfl)) k2 bel lt2) trodAll_mk0))), rfl, bel.frame _, fun h => by cases h⟩

theorem holds_LirrunMany : Rows.LirrunManySaid :=
  OpenClaim.holds_of_wide 6 Try.f6 rfl rfl rfl rfl rfl rfl rfl ⟨rfl, rfl, rfl, rfl, rfl⟩ rfl rfl rfl rfl rfl (by kernel_rfl) Try.func6 (by kernel_rfl)
    (of_decide_eq_true (by kernel_rfl)) (by unfold Func.isWrapper; first | (rw [if_pos (by decide +kernel)]; kernel_rfl) | (rw [if_neg (by decide +kernel)]; exact ⟨rfl, rfl⟩))
    (fun os started H enc _ => lifted_LirrunMany os started H enc)

end Go.Proofs.Ytghclbeoabkgcaa
