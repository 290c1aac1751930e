/- The statement LirLong of layer 15: it returns true for all inputs. -/
import Derived.Test.YtnhopdimhppnmaaRows
import Derived.Test.YtnhopdimhppnmaaLawM
-- theorem own and theorem laidOut stand in LawM
namespace Go.Proofs.Ytnhopdimhppnmaa
open Go Go.RowKit Go.ChangeShapes Go.WideShapes Go.ChangeAt
set_option linter.unusedVariables false

theorem info_lopR : (Try.prog.info? 34).map (fun i => (i.zero, i.size, i.bytes)) = some (some (.agg #[.int .i64 0, .int .i64 0, .int .i64 0, .int .i64 0, .int .i32 0]), 5, 40) := by kernel_rfl
def zq : Q5 := ⟨0, 0, 0, 0, 0⟩
def sq : Q5 := ⟨1, 0, 0, 0, 0⟩
theorem made_lops (n : Nat) : (madeCells (Value.agg #[.int .i64 0, .int .i64 0, .int .i64 0, .int .i64 0, .int .i32 0]).cells (n * 5)).toList = flat (List.replicate n zq) := by
  apply List.ext_getElem?
  intro j
  rcases Nat.lt_or_ge j (n * 5) with h | h
  · have g := flat_get (List.replicate n zq) (j / 5) zq (by rw [List.getElem?_replicate, if_pos (by omega)]) (j % 5) (by omega)
    rw [show j / 5 * 5 + j % 5 = j by omega] at g
    rw [g]
    have hm : j % 5 = 0 ∨ j % 5 = 1 ∨ j % 5 = 2 ∨ j % 5 = 3 ∨ j % 5 = 4 := by omega
    rcases hm with e | e | e | e | e <;> simp [madeCells, h, e, Value.cells, zq, Q5.cells]
  · rw [List.getElem?_eq_none (by simp [madeCells]; omega), List.getElem?_eq_none (by rw [flat_len]; simp; omega)]
theorem make_lops (n : Nat) (m : Int) (hm : m = (n : Int)) (hn : n ≤ 100000) (W : World) :
    (Instr.makeSlice 38 (.int .i64 m) (.int .i64 m)).run Try.prog W = .ok (.slice (some ⟨W.heap.size, 0, none⟩) n n) (W.alloc (.cells (madeCells (Value.agg #[.int .i64 0, .int .i64 0, .int .i64 0, .int .i64 0, .int .i32 0]).cells (n * 5)) 34)) := by
  subst hm
  obtain ⟨i0, hi, hz0, hz1, hz2⟩ := info_parts info_lopR
  have h := run_make (P := Try.prog) W 38 34 i0 _ Try.underlying38 hi hz0 .i64 .i64 n n (by omega) (by omega) (by rw [hz2]; omega) (by omega)
  rw [hz1] at h
  simpa using h
theorem flat_set0 (v : Int) : ∀ (l : List Q5) (k : Nat) (x : Q5), l[k]? = some x → (flat l).set (k * 5) (.int .i64 v) = flat (l.set k ⟨v, x.d, x.a, x.b, x.i⟩) := by
  intro l
  induction l with
  | nil => intro k x h; simp at h
  | cons y l ih =>
    intro k x h
    cases k with
    | zero =>
      obtain rfl : y = x := by simpa using h
      simp [flat, Q5.cells]
    | succ k =>
      rw [List.set_cons_succ, flat_cons, flat_cons, ← ih k x (by simpa using h), List.set_append_right _ _ (by simp [Q5.cells]; omega)]
      congr 2
      simp [Q5.cells]; omega
theorem rep_step {n k : Nat} (h : k < n) : (List.replicate k sq ++ List.replicate (n - k) zq).set k ⟨1, zq.d, zq.a, zq.b, zq.i⟩ = List.replicate (k + 1) sq ++ List.replicate (n - (k + 1)) zq := by
  rw [List.set_append_right _ _ (by simp)]
  obtain ⟨m, hm⟩ : ∃ m, n - k = m + 1 := ⟨n - k - 1, by omega⟩
  rw [hm, List.replicate_succ, List.replicate_succ']
  simp only [List.length_replicate, Nat.sub_self, List.set_cons_zero, List.append_assoc, List.cons_append, List.nil_append]
  congr 2
  congr 1
  omega
theorem runE_plain (n : Nat) : ∀ (i : Nat) (P : List Int), ∃ P', runE (List.replicate n sq) i (P, []) = some (P', []) := by
  induction n with
  | zero => intro i P; exact ⟨P, rfl⟩
  | succ n ih =>
    intro i P
    obtain ⟨P', h⟩ := ih (i + 1) (P.set i (-1))
    exact ⟨P', by rw [List.replicate_succ, runE]; exact h⟩
theorem runC_plain (n : Nat) : runC (List.replicate n sq) [] = some [] := by
  induction n with
  | zero => rfl
  | succ n ih =>
    rw [List.replicate_succ, runC, show stepC sq [] = some [] by decide]
    exact ih
theorem check_plain {n : Nat} (h : ¬ 20000 < n) : checkS (List.replicate n sq) = 0 := by
  obtain ⟨P', hp⟩ := runE_plain n 0 (List.replicate n 0)
  have he : endsS (List.replicate n sq) = some P' := by
    unfold endsS
    rw [List.length_replicate, hp]
  have hc : countedS (List.replicate n sq) = true := by unfold countedS; rw [runC_plain]; rfl
  rw [check_cnt (by simpa using h) (by intro x hx; rw [List.eq_of_mem_replicate hx]; decide) he, hc]
  rfl

set_option maxRecDepth 100000 in
set_option maxHeartbeats 1000000 in
theorem long_any (n : Nat) (b : Int) (w : World) (hb : 19990 + b % 20 = (n : Int)) (h0 : 0 ≤ b ∧ b < 256) :
    Calls Try.prog 10 #[.int .u8 b] w fun e w' => e = .returned (.bool true) ∧ Below w.heap.size w w' := by
  have hn : n ≤ 20009 := by omega
  have hmk := make_lops n _ hb (by omega)
  have OW0 := Lib.hid (World.ownsRow_lit (base := w.heap.size) (size := 5) (e := 34) w (madeCells (Value.agg #[.int .i64 0, .int .i64 0, .int .i64 0, .int .i64 0, .int .i32 0]).cells (n * 5)) n (Nat.le_refl _) (by simp only [maxLen]; omega) (by rw [size_madeCells]))
  have HB := Lib.hid hb
  clear hb
  go_enter Try.func10, Try.ntmps10
  go_wp2_with fail
  go_loopw [4] (fun i wr => ∃ k : Nat, k ≤ n ∧ i = .int .i64 k ∧ wr.ownsRow w.heap.size 34 5 (.slice (some ⟨w.heap.size, 0, none⟩) n n) n (flat (List.replicate k sq ++ List.replicate (n - k) zq)) ∧ Below w.heap.size w wr) (fun i _ => n - (intOf i).toNat)
  case atStart => exact ⟨0, Nat.zero_le _, rfl, by have := OW0.out; rw [made_lops] at this; rw [List.replicate_zero, List.nil_append, Nat.sub_zero]; exact this, by go_grown⟩
  case round =>
    obtain ⟨k, hk, rfl, own, hb⟩ := hrel
    clear hmk
    by_cases hlt : k < n
    · have hx : (List.replicate k sq ++ List.replicate (n - k) zq)[k]? = some zq := by
        rw [List.getElem?_append_right (by simp), List.getElem?_replicate, if_pos (by simp; omega)]
      have c0 := own.cellAt (k * 5) (by omega)
      rw [show k * 5 = k * 5 + 0 by omega, flat_get _ k _ hx 0 (by omega)] at c0
      simp only [Nat.add_zero] at c0
      have c0' : wr.cell? ⟨w.heap.size, k * 5, none⟩ = some (.int .i64 0) := c0
      have fz := own.frozenAt (k * 5)
      have hz := (own.lt w.heap.size rfl).2
      have ST := Lib.hid (own.stored (k * 5) (.int .i64 1)).1
      have FS := Lib.hid (flat_set0 1 _ k _ hx)
      have RS := Lib.hid (rep_step hlt)
      have HB2 := Lib.hid hb
      clear c0 hx own hb
      go_wp2_with fail
      refine ⟨⟨k + 1, by omega, rfl, ?_, HB2.out.setCell (Nat.le_refl _) _⟩, by simp [intOf]; omega⟩
      have := ST.out
      rw [FS.out, RS.out] at this
      exact this
    · obtain rfl : k = n := by omega
      clear hlt
      have own' : wr.ownsRow w.heap.size 34 5 (.slice (some ⟨w.heap.size, 0, none⟩) k k) (List.replicate k sq).length (flat (List.replicate k sq)) := by simpa using own
      obtain ⟨a1, c1, he, l1, _⟩ := l5_own own' rfl (by simp; omega)
      obtain ⟨rfl, hk2, rfl⟩ : some ⟨w.heap.size, 0, none⟩ = a1 ∧ k = (List.replicate k sq).length ∧ k = c1 := by simpa using he
      have LN := Lib.hid hk2
      have LL := Lib.hid l1
      have HB2 := Lib.hid hb
      have CK := Lib.hid (fun W (h : L5 W (some ⟨w.heap.size, 0, none⟩) (List.replicate k sq)) => check_any (some ⟨w.heap.size, 0, none⟩) k _ W h)
      simp only [List.length_replicate] at CK
      by_cases h2 : 20000 < k
      · have E := Lib.hid (show checkS (List.replicate k sq) = 2 from check_long (by simpa using h2))
        have h2' : decide (20000 < k) = true := by simpa using h2
        have h3' : decide ((k : Int) ≤ 20000) = false := by simp; omega
        have h4' : decide (20000 < (k : Int)) = true := by simp; omega
        clear he own own' hk2 l1 hb
        go_wp2_with fail
        refine (CK.out wr LL.out).mono ?_
        rw [E.out]
        rintro e w1 ⟨rfl, hb1⟩
        have HB3 := Lib.hid (HB2.out.trans (hb1.mono HB2.out.size))
        have L3 := Lib.hid (LL.out.later hb1)
        clear hb1
        go_wp2_with fail
        refine (CK.out w1 L3.out).mono ?_
        rw [E.out]
        rintro e w2 ⟨rfl, hb1⟩
        have HB4 := Lib.hid (HB3.out.trans (hb1.mono HB3.out.size))
        clear hb1
        go_wp2_with fail
        refine (law15_lives w2).mono ?_
        rintro e w3 ⟨rfl, hb1⟩
        have HB5 := Lib.hid (HB4.out.trans (hb1.mono HB4.out.size))
        clear hb1
        go_wp2_with fail
        go_ret
        exact ⟨rfl, HB5.out⟩
      · have E := Lib.hid (check_plain h2)
        have h2' : decide (20000 < k) = false := by simpa using h2
        have h3' : decide ((k : Int) ≤ 20000) = true := by simp; omega
        have h4' : decide (20000 < (k : Int)) = false := by simp; omega
        clear he own own' hk2 l1 hb
        go_wp2_with fail
        refine (CK.out wr LL.out).mono ?_
        rw [E.out]
        rintro e w1 ⟨rfl, hb1⟩
        have HB3 := Lib.hid (HB2.out.trans (hb1.mono HB2.out.size))
        have L3 := Lib.hid (LL.out.later hb1)
        clear hb1
        go_wp2_with fail
        refine (CK.out w1 L3.out).mono ?_
        rw [E.out]
        rintro e w2 ⟨rfl, hb1⟩
        have HB4 := Lib.hid (HB3.out.trans (hb1.mono HB3.out.size))
        clear hb1
        go_wp2_with fail
        refine (law15_lives w2).mono ?_
        rintro e w3 ⟨rfl, hb1⟩
        have HB5 := Lib.hid (HB4.out.trans (hb1.mono HB4.out.size))
        clear hb1
        go_wp2_with fail
        go_ret
        exact ⟨rfl, HB5.out⟩
theorem walk_LirLong (b : Int) (w0 : (Lit.int .u8 b).wf = true) (w : World) :
    Calls Try.prog 10 #[.int .u8 b] w fun e w' => e = .returned (.bool true) ∧ Below w.heap.size w w' :=
  long_any (19990 + b % 20).toNat b w (by have := bd_u8 w0; omega) (bd_u8 w0)

set_option maxRecDepth 100000 in
theorem lifted_LirLong (os : Os) (started : os.Started) (H : Type) (enc : TypeId × Value → H) :
    ReturnsInHanded {} Try.checked os 10 .any (Rows.lirLongSpec.pre6 enc Try.prog Try.f10 Rows.lirLongRow.domain false) (Rows.lirLongSpec.post enc Try.prog Try.f10 false true false false) := by
  refine returnsInHanded_of_change (C := Try.checked) own started (by kernel_rfl) Try.func10
    (ChangeSpec.witness6 (enc := enc) (C := Try.checked) false ⟨#[], #[.int .u8 0], []⟩ 8 (by kernel_rfl) (by kernel_rfl) (by kernel_rfl) (by kernel_rfl)) ?_
  intro W base args ds gs before hval0 hW hcnd _
  have hval : ∀ (j : Nat) t v, Try.f10.params[j]? = some t → args[j]? = some v → Value.okWide Try.prog W .any base t v := hval0
  have hW' := hW
  obtain ⟨p, q, hA0, hV, rfl, hfz, hnd⟩ := hW
  have hA : DataW.TrodAll enc Try.prog W 0 (fun _ => true) true Try.f10.params.toList args.toList ds p := hA0
  rw [Try.params10] at hA hval
  obtain ⟨v0, vs0, d0, ds0, p0, q0, hargs, rfl, rfl, h0, r0⟩ := trodAll_cons hA
  obtain ⟨rfl, rfl, rfl⟩ := trodAll_nil r0
  obtain rfl : args = #[v0] := by cases args; simp_all
  obtain ⟨rfl, rfl⟩ := trodVars_none hV
  obtain ⟨a0, rfl, rfl, rfl, w0⟩ := open_int Try.underlying5 (hval 0 5 v0 rfl rfl) h0
  clear hA0 hval0
  refine (walk_LirLong a0 w0 W).mono fun e W' ⟨he, bel⟩ => ?_
  subst he
  exact ⟨_, rfl, _, _, _, [], _, [], hW', trodAll_mk1 (shut_bool Try.underlying4 _), (trodAll_cons_mk (shut_int Try.underlying5 w0) trodAll_mk0), rfl, bel.frame _, fun h => by cases h⟩

theorem holds_LirLong : Rows.LirLongSaid :=
  OpenClaim.holds_of_wide 10 Try.f10 rfl rfl rfl rfl rfl rfl rfl ⟨rfl, rfl, rfl, rfl, rfl⟩ rfl rfl rfl rfl rfl (by kernel_rfl) Try.func10 (by kernel_rfl)
    (of_decide_eq_true (by kernel_rfl)) (by unfold Func.isWrapper; first | (rw [if_pos (by decide +kernel)]; kernel_rfl) | (rw [if_neg (by decide +kernel)]; exact ⟨rfl, rfl⟩))
    (fun os started H enc _ => lifted_LirLong os started H enc)

end Go.Proofs.Ytnhopdimhppnmaa
