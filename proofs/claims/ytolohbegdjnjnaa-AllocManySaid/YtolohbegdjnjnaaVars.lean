/- Contract of lir.Vars: all variables of a program. -/
import Derived.Test.YtolohbegdjnjnaaLirG
import Derived.Laws.Rows
namespace Go.Proofs.Ytolohbegdjnjnaa
open Go Go.RowKit
set_option linter.unusedVariables false

/-- whether a variable is one of a step's, of a program's -/
def usedQ (x : Q5) (v : Nat) : Bool := decide (writesS x = (v : Int)) || (readsS x).contains (v : Int)
def usedT (l : List Q5) (v : Nat) : Bool := l.any fun x => usedQ x v
def varsS (l : List Q5) : List Int := ((List.range 64).filter (usedT l)).map fun n : Nat => (n : Int)
def bv (b : Bool) : Value := .bool b
def hasL (f : Nat → Bool) : List Value := (List.range 64).map fun d => bv (f d)
theorem hasL_at {f : Nat → Bool} {d : Nat} (h : d < 64) : (hasL f)[d]? = some (bv (f d)) := by simp [hasL, h]
theorem hasL_len (f : Nat → Bool) : (hasL f).length = 64 := by simp [hasL]
theorem hasL_set {f g : Nat → Bool} {d : Nat} (h : ∀ v, v < 64 → g v = (f v || decide (v = d))) : (hasL f).set d (bv true) = hasL g := by
  apply List.ext_getElem?
  intro i
  rcases Nat.lt_or_ge i 64 with hi | hi
  · rw [List.getElem?_set, hasL_at hi, hasL_at hi, hasL_len, h i hi]
    by_cases e : d = i
    · subst e; simp [hi, bv]
    · have e' : ¬ i = d := fun h => e h.symm
      simp [e, e']
  · rw [List.getElem?_eq_none (by simp [hasL]; omega), List.getElem?_eq_none (by simp [hasL]; omega)]
theorem hasL_congr {f g : Nat → Bool} (h : ∀ v, v < 64 → g v = f v) : hasL f = hasL g := by
  apply List.ext_getElem?
  intro i
  rcases Nat.lt_or_ge i 64 with hi | hi
  · rw [hasL_at hi, hasL_at hi, h i hi]
  · rw [List.getElem?_eq_none (by simp [hasL]; omega), List.getElem?_eq_none (by simp [hasL]; omega)]
theorem usedT_next {l : List Q5} {k : Nat} {x : Q5} (hx : l[k]? = some x) (v : Nat) : usedT (l.take (k + 1)) v = (usedT (l.take k) v || usedQ x v) := by
  unfold usedT
  rw [List.take_add_one, hx]
  simp
theorem reads_bd {x : Q5} {d : Int} (h : d ∈ readsS x) : 0 ≤ d ∧ d < 64 := by
  unfold readsS at h
  cases hc : canS x
  · rw [hc] at h; simp at h
  · rw [hc] at h
    unfold canS at hc
    simp only [Bool.and_eq_true] at hc
    have ha := fits_bd hc.1.1.1.2
    have hb := fits_bd hc.1.1.2
    simp only [if_true, List.mem_append] at h
    rcases h with h | h
    · split at h
      · simp at h; omega
      · simp at h
    · split at h
      · simp at h; omega
      · simp at h
theorem reads_len3 (x : Q5) : (readsS x).length ≤ 3 := by
  unfold readsS
  split
  · split <;> split <;> simp
  · simp
/-- numbers that the call itself owns: where they lie -/
theorem own_iB {w : World} {base : Nat} {v : Value} {l : List Int} (h : OwnI w base v l) : ∃ a c, v = .slice a l.length c ∧ (l = [] ∨ ∃ g, a = some ⟨g, 0, none⟩ ∧ base ≤ g ∧ g < w.heap.size ∧ ∀ k x, l[k]? = some x → w.cell? ⟨g, k, none⟩ = some (.int .i64 x)) := by
  have hlt := h.lt
  have h' := h
  obtain ⟨_, ⟨hv, hn⟩ | ⟨g, cap, cur, hv, hg, hh, hc, hcm, _⟩⟩ := h
  · exact ⟨none, 0, by rw [hv, hn], Or.inl (List.eq_nil_of_length_eq_zero hn)⟩
  · refine ⟨some ⟨g, 0, none⟩, cap, hv, Or.inr ⟨g, rfl, hg, (hlt g (by rw [hv]; rfl)).2, fun k x hx => ?_⟩⟩
    have := h'.cells (g := g) (by rw [hv]; rfl) k (iv x) (by rw [List.getElem?_map, hx]; rfl)
    rw [add_at, Nat.zero_add] at this
    exact this
theorem run_index_row {P : Program} {T e : TypeId} {i : TypeInfo} (hT : P.underlying T = some (.array 64 e)) (he : P.underlying e = some .bool) (hi : P.info? e = some i) (hs : i.size = 1) (cs : Array Value) (k : Nat) (hk : k < 64) (b : Bool) (hv : cs[k]? = some (.bool b)) (w : World) :
    (Instr.index T (.agg cs) (.int .i64 (k : Int))).run P w = .ok (.bool b) w := by
  have h0 : (0 : Int) ≤ k ∧ (k : Int) < 64 := by omega
  simp [Instr.index, asIntOf, run_underlying hT, sizeOf, typeInfo, hi, hs, h0, part, isAgg, run_underlying he, hv]
  intro h; omega
theorem info_bool : (Try.prog.info? 4).map (fun i => (i.zero, i.size, i.bytes)) = some (some (.bool false), 1, 1) := by kernel_rfl
def oldF (l : List Q5) (k : Nat) (r : List Int) (m : Nat) (v : Nat) : Bool := usedT (l.take k) v || (r.take m).contains (v : Int)
theorem old_next {l : List Q5} {k m D : Nat} {r : List Int} (hr : r[m]? = some (D : Int)) (v : Nat) : oldF l k r (m + 1) v = (oldF l k r m v || decide (v = D)) := by
  unfold oldF
  rw [List.take_add_one, hr, Bool.or_assoc]
  congr 1
  simp only [Option.toList, List.contains_eq_mem, List.mem_append, List.mem_singleton]
  rw [Bool.eq_iff_iff]
  simp only [decide_eq_true_eq, Bool.or_eq_true]
  constructor
  · rintro (h | h)
    · exact Or.inl h
    · exact Or.inr (by omega)
  · rintro (h | h)
    · exact Or.inl h
    · exact Or.inr (by omega)
theorem grown_below_row {w w1 wi : World} {H : Nat} (h : Below w.heap.size w w1) (hg : w1.grownBy wi (some H)) (hH : w.heap.size ≤ H) : Below w.heap.size w wi :=
  h.grown hg h.size (fun k hk => by cases hk; exact hH)

set_option maxRecDepth 100000 in
set_option maxHeartbeats 1000000 in
theorem vars_any (a : Option Addr) (c : Nat) (l : List Q5) (w : World) (hl : L5 w a l) :
    Calls Try.prog 55 #[.slice a l.length c] w (ReadsPost w (varsS l)) := by
  obtain ⟨i0, hi, hz0, hz1, hz2⟩ := info_parts info_int
  have hlen := hl.1
  have HL := Lib.hid hl
  clear hl
  go_enter Try.func55, Try.ntmps55
  go_wp2_with fail
  go_loopw [14] (fun i wr => ∃ k : Nat, k ≤ l.length ∧ i = .int .i64 k ∧ wr.ownsRow w.heap.size 124 1 (.slice (some ⟨w.heap.size, 0, none⟩) 64 64) 64 (hasL (usedT (l.take k))) ∧ Below w.heap.size w wr) (fun i _ => l.length - (intOf i).toNat)
  case atStart =>
    exact ⟨0, Nat.zero_le _, rfl, World.ownsRow_lit (base := w.heap.size) (size := 1) (e := 124) w (hasL (usedT (l.take 0))).toArray 64 (Nat.le_refl _) (by decide) (by simp [hasL]), by go_grown⟩
  case round =>
    obtain ⟨k, hk, rfl, own3, hb⟩ := hrel
    have hz := (own3.lt w.heap.size rfl).2
    by_cases hlt : k < l.length
    · obtain ⟨x, hx⟩ := lookup hlt
      obtain ⟨xo, xd, xa, xb, xi⟩ := x
      have hl2 := HL.out.later hb
      obtain ⟨_, hnil | ⟨bb, off, rfl, hbb, hc⟩⟩ := hl2
      · rw [hnil] at hlt; simp at hlt
      obtain ⟨p0, p1, p2, p3, p4⟩ := hc k _ hx
      have HX := Lib.hid hx
      have HB := Lib.hid hb
      have H3 := Lib.hid own3
      clear hc hx hb own3
      go_wp2_with fail
      refine (reads_any xo xd xa xb xi _).mono ?_
      rintro e w1 ⟨v1, rfl, oi, hb1⟩
      obtain ⟨hbox, hz1', hz2'⟩ := boxed hb1
      have b0 := hbox 0 (.int .i64 xo) rfl
      have b1 := hbox 1 (.int .i64 xd) rfl
      have b2 := hbox 2 (.int .i64 xa) rfl
      have b3 := hbox 3 (.int .i64 xb) rfl
      have b4 := hbox 4 (.int .i32 xi) rfl
      obtain ⟨a1, c1, rfl, hI⟩ := own_iB oi
      have O3 := Lib.hid (own_later (H3.out.alloc (.cells #[.int .i64 xo, .int .i64 xd, .int .i64 xa, .int .i64 xb, .int .i32 xi] 45)) hb1)
      have HB1 := Lib.hid ((HB.out.alloc (o := .cells #[.int .i64 xo, .int .i64 xd, .int .i64 xa, .int .i64 xb, .int .i32 xi] 45) (by omega)).trans (hb1.mono (by simp; omega)))
      have rl := reads_len3 ⟨xo, xd, xa, xb, xi⟩
      have RB := Lib.hid (fun d => reads_bd (x := ⟨xo, xd, xa, xb, xi⟩) (d := d))
      have HI := Lib.hid hI
      have RD := Lib.hid (rfl : readsS ⟨xo, xd, xa, xb, xi⟩ = readsS ⟨xo, xd, xa, xb, xi⟩)
      have HQ := Lib.hid (fun v => usedT_next HX.out v)
      have UQ := Lib.hid (show ∀ v : Nat, usedQ ⟨xo, xd, xa, xb, xi⟩ v = (decide (writesS ⟨xo, xd, xa, xb, xi⟩ = (v : Int)) || (readsS ⟨xo, xd, xa, xb, xi⟩).contains (v : Int)) from fun v => rfl)
      have WB := Lib.hid (writes_bd (x := ⟨xo, xd, xa, xb, xi⟩))
      have WA := Lib.hid (writes_any xo xd xa xb xi)
      generalize readsS ⟨xo, xd, xa, xb, xi⟩ = r at *
      generalize writesS ⟨xo, xd, xa, xb, xi⟩ = wr1 at *
      clear hbox hb1 oi hI
      obtain ⟨wo, rfl⟩ : ∃ wo : World, wo = wr := ⟨_, rfl⟩
      go_wp2_with fail
      go_loopw [21] (fun i wi => ∃ m : Nat, m ≤ r.length ∧ i = .int .i64 m ∧ wi.ownsRow w.heap.size 124 1 (.slice (some ⟨w.heap.size, 0, none⟩) 64 64) 64 (hasL (oldF l k r m)) ∧ w1.grownBy wi (some w.heap.size)) (fun i _ => r.length - (intOf i).toNat)
      case atStart =>
        exact ⟨0, Nat.zero_le _, rfl, by rw [hasL_congr (f := oldF l k r 0) (g := usedT (l.take k)) (fun v _ => by simp [oldF])]; exact O3.out, World.grownBy.refl _ _⟩
      case round =>
        obtain ⟨m, hm, rfl, own3, hg⟩ := hrel
        by_cases hmlt : m < r.length
        · obtain ⟨d, hd⟩ := lookup hmlt
          obtain ⟨hd0, hd1⟩ := RB.out d (List.mem_of_getElem? hd)
          obtain ⟨D, rfl⟩ : ∃ D : Nat, d = (D : Int) := ⟨d.toNat, by omega⟩
          have hD : D < 64 := by omega
          rcases HI.out with hnil | ⟨g, rfl, hg1, hg2, hcells⟩
          · rw [hnil] at hmlt; simp at hmlt
          have hs1 : wo.heap.size < g := Nat.lt_of_lt_of_le (by simp) hg1
          have cg := hg.cell (hcells m _ hd) (by simp; omega)
          have cd := own3.cellAt D (by omega)
          rw [hasL_at hD] at cd
          unfold bv at cd
          have fz := own3.frozenAt D
          have hzi := (own3.lt w.heap.size rfl).2
          have ST := Lib.hid (own3.stored D (bv true))
          have HN := Lib.hid (hasL_set (f := oldF l k r m) (g := oldF l k r (m + 1)) (d := D) (fun v _ => old_next hd v))
          have HG := Lib.hid hg
          have hgi := hg.size
          clear own3 hd hcells hg
          go_wp2_with fail
          refine ⟨⟨m + 1, by omega, rfl, ?_, HG.out.trans ST.out.2⟩, by simp [intOf]; omega⟩
          rw [← HN.out]
          exact ST.out.1
        · obtain rfl : m = r.length := by omega
          have e0 := hg.cell b0 (by simp; omega)
          have e1 := hg.cell b1 (by simp; omega)
          have e2 := hg.cell b2 (by simp; omega)
          have e3 := hg.cell b3 (by simp; omega)
          have e4 := hg.cell b4 (by simp; omega)
          have hgi := hg.size
          have HB2 := Lib.hid (grown_below_row HB1.out hg (Nat.le_refl _))
          have H3 := Lib.hid own3
          clear own3 hg hmlt b0 b1 b2 b3 b4
          go_wp2_with fail
          refine (WA.out wr).mono ?_
          rcases WB.out with rfl | ⟨hw0, hw1⟩
          · rintro e w2 ⟨rfl, hb2⟩
            have O3 := Lib.hid (own_later H3.out hb2)
            have HB3 := Lib.hid (HB2.out.trans (hb2.mono HB2.out.size))
            clear hb2
            go_wp2_with fail
            refine ⟨⟨k + 1, by omega, rfl, ?_, HB3.out⟩, by simp [intOf]; omega⟩
            rw [hasL_congr (f := usedT (l.take (k + 1))) (g := oldF l k r r.length) (fun v _ => by
              rw [HQ.out v, UQ.out v, oldF, List.take_length]
              have : decide ((-1 : Int) = (v : Int)) = false := by first | (simp; done) | (simp; omega)
              rw [this, Bool.false_or])]
            exact O3.out
          · obtain ⟨D, rfl⟩ : ∃ D : Nat, wr1 = (D : Int) := ⟨wr1.toNat, by omega⟩
            have hD : D < 64 := by omega
            rintro e w2 ⟨rfl, hb2⟩
            have o3 := own_later H3.out hb2
            have HB3 := Lib.hid (HB2.out.trans (hb2.mono HB2.out.size))
            have cd := o3.cellAt D (by omega)
            rw [hasL_at hD] at cd
            unfold bv at cd
            have fz := o3.frozenAt D
            have hz2 := (o3.lt w.heap.size rfl).2
            have tm : ((D : Int) != -1) = true := by first | (simp; done) | (simp; omega)
            have ST := Lib.hid (o3.stored D (bv true))
            have HN := Lib.hid (hasL_set (f := oldF l k r r.length) (g := usedT (l.take (k + 1))) (d := D) (fun v _ => by
              rw [HQ.out v, UQ.out v, oldF, List.take_length, Bool.or_assoc]
              congr 1
              rw [Bool.or_comm]
              congr 1
              rw [decide_eq_decide]; omega))
            clear o3 hb2
            go_wp2_with fail
            refine ⟨⟨k + 1, by omega, rfl, ?_, HB3.out.setCell (Nat.le_refl _) _⟩, by simp [intOf]; omega⟩
            rw [← HN.out]
            exact ST.out.1
    · obtain rfl : k = l.length := by omega
      rw [List.take_length] at own3
      obtain ⟨_, ⟨h', _⟩ | ⟨g', cap', cur, h', _, hg, _, _, hcs, htake⟩⟩ := own3
      · cases h'
      simp only [Value.slice.injEq, Option.some.injEq, Addr.mk.injEq, and_true, true_and] at h'
      obtain ⟨rfl, rfl⟩ := h'
      have hcur : ∀ m, m < 64 → cur[m]? = some (.bool (usedT l m)) := by
        intro m hm
        have h1 : (cur.toList.take (64 * 1))[m]? = some (bv (usedT l m)) := by rw [htake, hasL_at hm]
        rw [List.getElem?_take, if_pos (by omega)] at h1
        unfold bv at h1
        simpa using h1
      have hsz : (Try.prog.info? 124).map (·.size) = some cur.size := by rw [hcs]; kernel_rfl
      have HCUR := Lib.hid hcur
      have HGG := Lib.hid hg
      have HSZ := Lib.hid hsz
      have HB := Lib.hid hb
      obtain ⟨j0, hj, hj0, hj1, hj2⟩ := info_parts info_bool
      clear hcur hg hsz hb hlt htake hcs
      go_wp2_with (refine wpList_load_row rfl 124 (.tmp 3) rfl w.heap.size rfl 124 cur (0, 0) _ HGG.out Try.underlying124 rfl HSZ.out ?_)
      go_loopw [9, 36] (fun v9 i wi => ∃ m : Nat, m ≤ 64 ∧ i = .int .i64 m ∧ wi.ownsRow w.heap.size 3 1 v9 ((List.range m).filter (usedT l)).length ((((List.range m).filter (usedT l)).map fun n : Nat => (n : Int)).map iv) ∧ Below w.heap.size w wi) (fun _ i _ => 64 - (intOf i).toNat)
      case atStart => exact ⟨0, by omega, rfl, World.ownsRow_nil _ _ _ _, HB.out⟩
      case round =>
        obtain ⟨m, hm, rfl, own9, hb⟩ := hrel
        by_cases hm64 : m < 64
        · have VO := Lib.hid own9.lt
          have H9 := Lib.hid own9
          have HB2 := Lib.hid hb
          have hsz2 := hb.size
          have nle : ((List.range m).filter (usedT l)).length ≤ 64 := Nat.le_trans (List.length_filter_le _ _) (by simp; omega)
          have FN := Lib.hid (show (List.range (m + 1)).filter (usedT l) = (List.range m).filter (usedT l) ++ (if usedT l m then [m] else []) by
            rw [List.range_succ, List.filter_append]
            congr 1
            cases h : usedT l m <;> simp [h])
          clear own9 hb
          cases hu : usedT l m
          · have ix := fun W => run_index_row (P := Try.prog) Try.underlying124 Try.underlying4 hj hj1 cur m hm64 false (by rw [HCUR.out m hm64, hu]) W
            have HU := Lib.hid hu
            clear hu
            go_wp2_with fail
            refine ⟨⟨m + 1, by omega, rfl, ?_, HB2.out⟩, by simp [intOf]; omega⟩
            rw [FN.out, HU.out]
            simpa using H9.out
          · have ix := fun W => run_index_row (P := Try.prog) Try.underlying124 Try.underlying4 hj hj1 cur m hm64 true (by rw [HCUR.out m hm64, hu]) W
            have HU := Lib.hid hu
            have E1 := Lib.hid (show ((List.range m).filter (usedT l)).length + 1 ≤ maxLen by simp only [maxLen]; omega)
            clear hu
            go_wp2_with ((at_builtin; refine wpList_append_own _ rfl (.tmp 41) (.tmp 43) 49 rfl w.heap.size 3 i0 (.int .i64 0) 1 8 Try.underlying49 hi hz0 hz1 hz2 rfl (by decide) _ _ _ rfl (H9.out.alloc _) ⟨_, 0, none⟩ 1 1 [ivn m] rfl rfl (news_n _ m _ rfl) ivn_one E1.out (by omega) (by simp; omega) ?_; intro v1 w2 hown hg hn))
            refine ⟨⟨m + 1, by omega, rfl, ?_, below_grown' (HB2.out.alloc (by omega) _) hg (fun q hq => (VO.out q hq).1)⟩, by simp [intOf]; omega⟩
            rw [FN.out, HU.out]
            simpa [iv, ivn] using hown
        · obtain rfl : m = 64 := by omega
          have H9 := Lib.hid own9
          have HB2 := Lib.hid hb
          clear own9 hb
          go_wp2_with fail
          go_ret
          refine ⟨_, rfl, ?_, HB2.out⟩
          have := H9.out
          unfold OwnI varsS
          rw [List.length_map]
          exact this
end Go.Proofs.Ytolohbegdjnjnaa
