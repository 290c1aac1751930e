/- Contract of pintleref15.Vars: all variables of a program, variable by variable. -/
import Derived.Test.YtolohbegdjnjnaaVars
namespace Go.Proofs.Ytolohbegdjnjnaa
open Go Go.RowKit
set_option linter.unusedVariables false

theorem cont_next {r : List Int} {m : Nat} {d : Int} (hr : r[m]? = some d) (v : Int) : (r.take (m + 1)).contains v = ((r.take m).contains v || d == v) := by
  rw [List.take_add_one, hr]
  simp only [Option.toList, List.contains_eq_mem, List.mem_append, List.mem_singleton]
  rw [Bool.eq_iff_iff]
  simp only [decide_eq_true_eq, Bool.or_eq_true, beq_iff_eq]
  constructor
  · rintro (h | h)
    · exact Or.inl h
    · exact Or.inr h.symm
  · rintro (h | h)
    · exact Or.inl h
    · exact Or.inr h.symm

set_option maxRecDepth 100000 in
set_option maxHeartbeats 1000000 in
theorem rvars_any (a : Option Addr) (c : Nat) (l : List Q5) (w : World) (hl : L5 w a l) (hwf : ∀ x ∈ l, x.wf) :
    Calls Try.prog 25 #[.slice a l.length c] w (ReadsPost w (varsS l)) := by
  obtain ⟨i0, hi, hz0, hz1, hz2⟩ := info_parts info_int
  have hlen := hl.1
  have HL := Lib.hid hl
  have HW := Lib.hid hwf
  have OM := Lib.hid (own_made w w.heap.size (Nat.le_refl _) w.heap.size rfl)
  clear hl hwf
  go_enter Try.func25, Try.ntmps25
  go_wp2_with fail
  go_loopw [3, 4] (fun v3 i wi => ∃ m : Nat, m ≤ 64 ∧ i = .int .i64 m ∧ wi.ownsRow w.heap.size 3 1 v3 ((List.range m).filter (usedT l)).length ((((List.range m).filter (usedT l)).map fun n : Nat => (n : Int)).map iv) ∧ Below w.heap.size w wi) (fun _ i _ => 64 - (intOf i).toNat)
  case atStart => exact ⟨0, by omega, rfl, OM.out, by go_grown⟩
  case round =>
    obtain ⟨m, hm, rfl, own3, hb⟩ := hrel
    obtain ⟨wo, rfl⟩ : ∃ wo : World, wo = wr := ⟨_, rfl⟩
    by_cases hm64 : m < 64
    · have VO := Lib.hid own3.lt
      have H3 := Lib.hid own3
      have HB := Lib.hid hb
      have hsz := hb.size
      have nle : ((List.range m).filter (usedT l)).length ≤ 64 := Nat.le_trans (List.length_filter_le _ _) (by simp; omega)
      have FN := Lib.hid (show (List.range (m + 1)).filter (usedT l) = (List.range m).filter (usedT l) ++ (if usedT l m then [m] else []) by
        rw [List.range_succ, List.filter_append]
        congr 1
        cases h : usedT l m <;> simp [h])
      clear own3 hb
      go_wp2_with fail
      go_loopw [5, 6] (fun b i wi => ∃ k : Nat, k ≤ l.length ∧ i = .int .i64 k ∧ b = .bool (usedT (l.take k) m) ∧ Below wo.heap.size wo wi) (fun _ i _ => l.length - (intOf i).toNat)
      case atStart => exact ⟨0, Nat.zero_le _, rfl, rfl, Below.refl _ _⟩
      case round =>
        obtain ⟨k, hk, rfl, rfl, hb2⟩ := hrel
        obtain ⟨wp, rfl⟩ : ∃ wp : World, wp = wr := ⟨_, rfl⟩
        by_cases hlt : k < l.length
        · obtain ⟨x, hx⟩ := lookup hlt
          have hxw := HW.out x (List.mem_of_getElem? hx)
          obtain ⟨xo, xd, xa, xb, xi⟩ := x
          have hI : -2147483648 ≤ xi ∧ xi ≤ 2147483647 := by
            have := hxw.2.2.2.2
            simpa [Lit.wf, IntKind.min, IntKind.max, IntKind.signed, IntKind.bits] using this
          have hl2 := HL.out.later (HB.out.trans (hb2.mono hsz))
          obtain ⟨_, hnil | ⟨bb, off, rfl, hbb, hc⟩⟩ := hl2
          · rw [hnil] at hlt; simp at hlt
          obtain ⟨p0, p1, p2, p3, p4⟩ := hc k _ hx
          have HB2 := Lib.hid hb2
          have UN := Lib.hid (usedT_next hx m)
          clear hc hx hb2 hxw
          go_wp2_with fail
          refine (rreads_any xo xd xa xb xi _ hI).mono ?_
          rintro e w1 ⟨v1, rfl, oi, hb1⟩
          obtain ⟨a1, c1, rfl, hIl⟩ := own_iB oi
          have q0 := (hb1.cell hbb).trans p0
          have q1 := (hb1.cell hbb).trans p1
          have q2 := (hb1.cell hbb).trans p2
          have q3 := (hb1.cell hbb).trans p3
          have q4 := (hb1.cell hbb).trans p4
          have rl := reads_len3 ⟨xo, xd, xa, xb, xi⟩
          have HIl := Lib.hid hIl
          have HB3 := Lib.hid (HB2.out.trans (hb1.mono HB2.out.size))
          have UQ := Lib.hid (show usedQ ⟨xo, xd, xa, xb, xi⟩ m = (decide (writesS ⟨xo, xd, xa, xb, xi⟩ = (m : Int)) || (readsS ⟨xo, xd, xa, xb, xi⟩).contains (m : Int)) from rfl)
          have WA := Lib.hid (fun W => rwrites_any xo xd xa xb xi W hI)
          generalize readsS ⟨xo, xd, xa, xb, xi⟩ = r at *
          generalize writesS ⟨xo, xd, xa, xb, xi⟩ = wr1 at *
          have hbb1 := hb1.size
          clear oi hIl hb1 p0 p1 p2 p3 p4
          have RD : ∀ W (h3 : Below w1.heap.size w1 W), (r = [] ∨ ∃ g, a1 = some ⟨g, 0, none⟩ ∧ ∀ k x, r[k]? = some x → W.cell? ⟨g, k, none⟩ = some (.int .i64 x)) := by
            intro W h3
            rcases HIl.out with h | ⟨g, h1, h2, h4, h5⟩
            · exact Or.inl h
            · exact Or.inr ⟨g, h1, fun k x hx => (h3.cell h4).trans (h5 k x hx)⟩
          have RDD := Lib.hid RD
          clear RD
          cases hu : usedT (l.take k) m
          · have HU := Lib.hid hu
            clear hu
            go_wp2_with fail
            refine (WA.out _).mono ?_
            rintro e w2 ⟨rfl, hb4⟩
            have HB5 := Lib.hid (HB3.out.trans (hb4.mono HB3.out.size))
            have RW := Lib.hid (RDD.out w2 hb4)
            clear hb4 q0 q1 q2 q3 q4
            go_wp2_with fail
            go_loop [5, 8] (fun b i => ∃ t : Nat, t ≤ r.length ∧ i = .int .i64 t ∧ b = .bool ((wr1 == (m : Int)) || (r.take t).contains (m : Int))) (fun _ i => r.length - (intOf i).toNat)
            case atStart => exact ⟨0, Nat.zero_le _, rfl, by simp⟩
            case round =>
              obtain ⟨t, ht, rfl, rfl⟩ := hrel
              by_cases htl : t < r.length
              · obtain ⟨d, hd⟩ := lookup htl
                have CN := Lib.hid (cont_next hd (m : Int))
                have cg : ∀ (G : Nat), a1 = some ⟨G, 0, none⟩ → (∀ k x, r[k]? = some x → w2.cell? ⟨G, k, none⟩ = some (.int .i64 x)) → w2.cell? ⟨G, t, none⟩ = some (.int .i64 d) := fun G _ h => h t d hd
                rcases RW.out with hnil | ⟨g, rfl, hcells⟩
                · rw [hnil] at htl; simp at htl
                have cgg := hcells t d hd
                clear cg hcells hd
                cases hq : ((wr1 == (m : Int)) || (r.take t).contains (m : Int))
                · have HQ := Lib.hid hq
                  clear hq
                  go_wp2_with fail
                  refine ⟨⟨t + 1, by omega, rfl, ?_⟩, by simp [intOf]; omega⟩
                  rw [CN.out, ← Bool.or_assoc, HQ.out, Bool.false_or]
                · have HQ := Lib.hid hq
                  clear hq
                  go_wp2_with fail
                  refine ⟨⟨t + 1, by omega, rfl, ?_⟩, by simp [intOf]; omega⟩
                  rw [CN.out, ← Bool.or_assoc, HQ.out, Bool.true_or]
              · obtain rfl : t = r.length := by omega
                rw [List.take_length]
                have e : ((wr1 == (m : Int)) || r.contains (m : Int)) = usedT (l.take (k + 1)) m := by
                  rw [UN.out, UQ.out, HU.out]
                  rw [Bool.false_or]; rfl
                rw [e]
                clear e
                go_wp2_with fail
                exact ⟨⟨k + 1, by omega, rfl, rfl, HB5.out⟩, by simp [intOf]; omega⟩
          · have HU := Lib.hid hu
            clear hu
            have RW := Lib.hid (RDD.out w1 (Below.refl _ _))
            go_wp2_with fail
            go_loop [5, 8] (fun b i => ∃ t : Nat, t ≤ r.length ∧ i = .int .i64 t ∧ b = .bool (true || (r.take t).contains (m : Int))) (fun _ i => r.length - (intOf i).toNat)
            case atStart => exact ⟨0, Nat.zero_le _, rfl, by simp⟩
            case round =>
              obtain ⟨t, ht, rfl, rfl⟩ := hrel
              by_cases htl : t < r.length
              · obtain ⟨d, hd⟩ := lookup htl
                have CN := Lib.hid (cont_next hd (m : Int))
                have cg : ∀ (G : Nat), a1 = some ⟨G, 0, none⟩ → (∀ k x, r[k]? = some x → w1.cell? ⟨G, k, none⟩ = some (.int .i64 x)) → w1.cell? ⟨G, t, none⟩ = some (.int .i64 d) := fun G _ h => h t d hd
                rcases RW.out with hnil | ⟨g, rfl, hcells⟩
                · rw [hnil] at htl; simp at htl
                have cgg := hcells t d hd
                clear cg hcells hd
                cases hq : (true || (r.take t).contains (m : Int))
                · have HQ := Lib.hid hq
                  clear hq
                  go_wp2_with fail
                  refine ⟨⟨t + 1, by omega, rfl, ?_⟩, by simp [intOf]; omega⟩
                  rw [CN.out, ← Bool.or_assoc, HQ.out, Bool.false_or]
                · have HQ := Lib.hid hq
                  clear hq
                  go_wp2_with fail
                  refine ⟨⟨t + 1, by omega, rfl, ?_⟩, by simp [intOf]; omega⟩
                  rw [CN.out, ← Bool.or_assoc, HQ.out, Bool.true_or]
              · obtain rfl : t = r.length := by omega
                rw [List.take_length]
                have e : (true || r.contains (m : Int)) = usedT (l.take (k + 1)) m := by
                  rw [UN.out, UQ.out, HU.out]
                  simp
                rw [e]
                clear e
                go_wp2_with fail
                exact ⟨⟨k + 1, by omega, rfl, rfl, HB3.out⟩, by simp [intOf]; omega⟩
        · obtain rfl : k = l.length := by omega
          rw [List.take_length]
          have HB2 := Lib.hid (HB.out.trans (hb2.mono hsz))
          have hsz2 := hb2.size
          have H32 := Lib.hid (own_later H3.out hb2)
          clear hb2 hlt
          cases hu : usedT l m
          · have HU := Lib.hid hu
            clear hu
            go_wp2_with fail
            refine ⟨⟨m + 1, by omega, rfl, ?_, HB2.out⟩, by simp [intOf]; omega⟩
            rw [FN.out, HU.out]
            simpa using H32.out
          · have HU := Lib.hid hu
            have E1 := Lib.hid (show ((List.range m).filter (usedT l)).length + 1 ≤ maxLen by simp only [maxLen]; omega)
            clear hu
            go_wp2_with ((at_builtin; refine wpList_append_own _ rfl (.tmp 51) (.tmp 53) 49 rfl w.heap.size 3 i0 (.int .i64 0) 1 8 Try.underlying49 hi hz0 hz1 hz2 rfl (by decide) _ _ _ rfl (H32.out.alloc _) ⟨_, 0, none⟩ 1 1 [ivn m] rfl rfl (news_n _ m _ rfl) ivn_one E1.out (by omega) (by simp; omega) ?_; intro v1 w2 hown hg hn))
            refine ⟨⟨m + 1, by omega, rfl, ?_, below_grown' (HB2.out.alloc (by omega) _) hg (fun q hq => (VO.out q hq).1)⟩, by simp [intOf]; omega⟩
            rw [FN.out, HU.out]
            simpa [iv, ivn] using hown
    · obtain rfl : m = 64 := by omega
      have H9 := Lib.hid own3
      have HB2 := Lib.hid hb
      clear own3 hb
      go_wp2_with fail
      go_ret
      refine ⟨_, rfl, ?_, HB2.out⟩
      have := H9.out
      unfold OwnI varsS
      rw [List.length_map]
      exact this
end Go.Proofs.Ytolohbegdjnjnaa
