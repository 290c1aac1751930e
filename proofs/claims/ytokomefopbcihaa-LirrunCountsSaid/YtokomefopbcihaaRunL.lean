/- Contract of lirrun.Run on a program that is one loop of plain steps. -/
import Derived.Test.YtokomefopbcihaaNext
import Derived.Test.YtokomefopbcihaaLirD
import Derived.Test.YtokomefopbcihaaMachP
import Derived.Test.YtokomefopbcihaaRunD
import Derived.Test.YtokomefopbcihaaRunP
import Derived.Deep.MidRow
namespace Go.Proofs.Ytokomefopbcihaa
open Go Go.RowKit Pl
set_option linter.unusedVariables false

noncomputable def zs65 : Array Value := Try.zeroCells142.setIfInBounds 64 (.pointer none)
theorem zero142 : Try.zeroCells142 = ((List.replicate 64 (Value.int .u32 0)) ++ [Value.pointer none]).toArray := by kernel_rfl
theorem zs65_eq : zs65 = ((List.replicate 64 (Value.int .u32 0)) ++ [Value.pointer none]).toArray := by kernel_rfl
theorem zs65_size : zs65.size = 65 := by kernel_rfl
theorem zs65_one : zs65.all (·.oneCell') = true := by kernel_rfl
theorem zs65_at : ∀ k, k < 64 → zs65[k]? = some (.int .u32 0) := fun k hk => by
  rw [zs65_eq, List.getElem?_toArray, List.getElem?_append_left (by rw [List.length_replicate]; exact hk), List.getElem?_replicate, if_pos hk]
theorem below_setRowS {m : Nat} {w W : World} {g : Nat} {cs : Array Value} (h : Below m w W) (hm : m ≤ g) : Below m w (W.setRow g cs) :=
  ⟨h.os, h.tape, h.output, by have := h.size; simp [World.setRow]; omega, fun i hi => (setRow_other _ _ _ _ (by omega)).trans (h.block i hi)⟩
theorem info_u32 : (Try.prog.info? 74).map (fun i => (i.zero, i.size, i.bytes)) = some (some (.int .u32 0), 1, 4) := by kernel_rfl
/-- four results, all in temporaries -/
theorem res_four {fn : Func} {a b c d : Tmp} (h : fn.results = #[.tmp a, .tmp b, .tmp c, .tmp d]) (tmps : Array Value) (P : Program) (w : World) :
    (Go.results fn tmps).run P w = .ok (.tuple #[tmps.getD a undef, tmps.getD b undef, tmps.getD c undef, tmps.getD d undef]) w := by
  simp [Go.results, h]
theorem machS_new {w : World} {B : Nat} {old : Array Value} {t : TypeId} (hg : w.heap[B]? = some (.cells old t (0, 0))) : MachS B (fun _ => 0) (w.setRow B zs65) := by
  have h := setRow_heap w B old zs65 t (0, 0) hg
  obtain ⟨hl, _⟩ := Array.getElem?_eq_some_iff.1 h
  refine ⟨fun k hk => ?_, ?_, fun k hk => ?_, hl⟩
  · unfold World.cell?; rw [h]; exact (by simpa using zs65_at k hk)
  · unfold World.cell?; rw [h, zs65_eq]; rfl
  · unfold World.frozen?; rw [h]; simp
theorem do_any (B : Nat) (x : Q5) (f : Nat → Int) (w : World) (hx : DoOk x) (hm : MachS B f w) (hf : WordsF f) :
    Calls Try.prog 81 #[.pointer (some ⟨B, 0, none⟩), .agg #[.int .i64 x.o, .int .i64 x.d, .int .i64 x.a, .int .i64 x.b, .int .i32 x.i]] w fun e w' => e = .returned (.int .i64 0) ∧ MachS B (stepF x f) w' ∧ w.grownBy w' (some B) := by
  obtain ⟨o, d, a, b, i⟩ := x
  obtain ⟨ho, hd, ha, hb⟩ := hx
  simp only at ho hd ha hb
  obtain ⟨D, rfl⟩ : ∃ D : Nat, d = D := ⟨d.toNat, by omega⟩
  obtain ⟨A, rfl⟩ : ∃ A : Nat, a = A := ⟨a.toNat, by omega⟩
  obtain ⟨E, rfl⟩ : ∃ E : Nat, b = E := ⟨b.toNat, by omega⟩
  rcases ho with rfl | rfl
  · refine (do_13 B D A E i f w (by omega) (by omega) (by omega) hm hf).mono ?_
    rintro e w' ⟨h1, h2, h3⟩
    refine ⟨h1, ?_, h3⟩
    have : stepF ⟨13, D, A, E, i⟩ f = upd f D ((f A + i) % 4294967296) := by
      unfold stepF valF
      simp [aluOf]
      congr 1
      show (f A + i % 4294967296) % 4294967296 = _
      omega
    rw [this]; exact h2
  · exact do_3 B D A E i f w (by omega) (by omega) (by omega) hm hf
theorem do_anyG (B : Nat) (x : Q5) (f : Nat → Int) (w : World) (hx : DoOkG x) (hm : MachS B f w) (hf : WordsF f) :
    Calls Try.prog 81 #[.pointer (some ⟨B, 0, none⟩), .agg #[.int .i64 x.o, .int .i64 x.d, .int .i64 x.a, .int .i64 x.b, .int .i32 x.i]] w fun e w' => e = .returned (.int .i64 0) ∧ MachS B (stepG x f) w' ∧ w.grownBy w' (some B) := by
  rcases hx with ⟨ho, hd, ha, hb⟩ | hx
  · obtain ⟨o, d, a, b, i⟩ := x
    simp only at ho hd ha hb
    subst ho ha hb
    obtain ⟨D, rfl⟩ : ∃ D : Nat, d = D := ⟨d.toNat, by omega⟩
    refine (do_23 B D 0 0 i f w (by omega) (by omega) (by omega) hm hf).mono ?_
    rintro e w' ⟨h1, h2, h3⟩
    exact ⟨h1, h2, h3⟩
  · have ho := hx.1
    rw [show stepG x f = stepF x f from if_neg (by omega)]
    exact do_any B x f w hx hm hf
set_option maxRecDepth 100000 in
set_option maxHeartbeats 4000000 in
theorem run_loop (c : Nat) (N fuel : Int) (body : List Q5) (b0 off cp : Nat) (E : List Int) (w : World) (hc : c < 64) (hN : 1 ≤ N ∧ N ≤ 100000) (hb : ∀ x ∈ body, DoOk x) (hbc : ∀ x ∈ body, x.d.toNat ≠ c) (hbl : body.length ≤ 10)
    (hl : L5 w (some ⟨b0, off, none⟩) (progL c N body)) (hb0 : b0 < w.heap.size) (hchk : checkS (progL c N body) = 0) (hE : endsS (progL c N body) = some E) (hE0 : E[1 + body.length]? = some 0) (hEl : E.length ≤ 1000) (hf : 1 + N * ((body.length : Int) + 1) < fuel ∧ fuel ≤ 10000000) :
    Calls Try.prog 43 #[.slice (some ⟨b0, off, none⟩) (progL c N body).length cp, .pointer none, .int .i64 fuel] w fun e w' => (∃ v, e = .returned (.tuple #[v, .int .i64 (1 + N * ((body.length : Int) + 1)), .int .i64 0, .int .i64 0]) ∧ w'.ownsRow w.heap.size 74 1 v 64 (cellsF (rounds c N body N.toNat))) ∧ Below w.heap.size w w' := by
  have CH := Lib.hid (check_any (some ⟨b0, off, none⟩) cp (progL c N body))
  have EN := Lib.hid (fun w hl => ends_any (some ⟨b0, off, none⟩) cp (progL c N body) w hl)
  have HCK := Lib.hid hchk
  have HE := Lib.hid hE
  have HL := Lib.hid hl
  clear hchk hE hl
  go_enter Try.func43, Try.ntmps43
  go_wp2_with fail
  refine (CH.out _ HL.out).mono ?_
  rw [HCK.out]
  rintro e w1 ⟨rfl, b1⟩
  have L1 := Lib.hid (HL.out.later b1)
  have B1 := Lib.hid b1
  clear b1
  go_wp2_with fail
  refine (EN.out _ L1.out).mono ?_
  rintro e w2 ⟨h2, b2⟩
  rw [HE.out] at h2
  obtain ⟨v2, rfl, own2⟩ := h2
  have SZS := Lib.hid (show (Try.prog.info? 142).map (·.size) = some zs65.size by rw [zs65_size]; kernel_rfl)
  have HOS := Lib.hid (show Try.zeroCells142.size = zs65.size by rw [zs65_size]; kernel_rfl)
  go_wp2_with (refine wpList_store_row rfl 142 (.tmp 13) (.tmp 28) rfl w2.heap.size zs65 rfl rfl 142 _ (heap_alloc_new _ _) SZS.out HOS.out zs65_one ?_; generalize hW3 : World.setRow _ _ zs65 = W3; have M3 := Lib.hid (show MachS w2.heap.size (fun _ => 0) W3 by rw [← hW3]; exact machS_new (heap_alloc_new _ _)); have BW3 := Lib.hid (show Below w2.heap.size w2 W3 by rw [← hW3]; exact below_setRowS ((Below.refl _ _).alloc (Nat.le_refl _) _) (Nat.le_refl _)); clear hW3)
  have ATL := Lib.hid (fun t n f (h : At c N body t n f) => at_le hN h)
  have ATS := Lib.hid (fun t n f (h : At c N body t n f) => at_step hc hN hb hbc h)
  have ATE := Lib.hid (fun n f (h : At c N body (body.length + 2) n f) => at_end hN h)
  have LEN := Lib.hid (progL_len c N body)
  have PE := Lib.hid (progL_end c N body)
  have P0 := Lib.hid (progL_0 c N body)
  have bb : b0 < w2.heap.size := Nat.lt_of_lt_of_le hb0 (Nat.le_trans B1.out.size b2.size)
  have HB0 := Lib.hid (show b0 ≠ w2.heap.size by omega)
  have L3 := Lib.hid ((L1.out.later b2).later BW3.out)
  obtain ⟨ea, ec, rfl, hea⟩ := own_i own2 (by omega)
  obtain ⟨_, rfl | ⟨be, eo, rfl, hbe, hec⟩⟩ := hea
  · simp at hE0
  have HEC := Lib.hid (((BW3.out.cell (by exact hbe)).trans (hec _ _ hE0) : W3.cell? ⟨be, eo + (1 + body.length), none⟩ = some (.int .i64 0)))
  have HBE := Lib.hid (show be ≠ w2.heap.size by omega)
  have EL := Lib.hid (List.getElem?_eq_some_iff.1 hE0).1
  have BB := Lib.hid (B1.out.trans (b2.mono (B1.out.size)))
  have FU := Lib.hid hf
  clear hE0 hec own2 b2 hbe bb hf hN hb hbc hEl
  go_loopw [14, 15, 16] (fun nv tv av wr => ∃ (t n : Nat) (f : Nat → Int), nv = .int .i64 n ∧ tv = .int .i64 0 ∧ av = .int .i64 t ∧ At c N body t n f ∧ MachS w2.heap.size f wr ∧ W3.grownBy wr (some w2.heap.size)) (fun nv _ _ _ => fuel.toNat - (intOf nv).toNat)
  case atStart => exact ⟨0, 0, fun _ => 0, rfl, rfl, rfl, .inl ⟨rfl, rfl, rfl⟩, M3.out, World.grownBy.refl _ _⟩
  case round =>
    obtain ⟨t, n, f, rfl, rfl, rfl, hat, hm, hg⟩ := hrel
    obtain ⟨ht, hn⟩ := ATL.out t n f hat
    have hfu := FU.out
    have WF := Lib.hid (at_words hat)
    have HM := Lib.hid hm
    have HG := Lib.hid hg
    have t2 : decide ((n : Int) < fuel) = true := by simp; omega
    have u1 := IntWalk.i64_in ((n : Int) + 1) (by omega)
    have g0 : (0 : Int) ≤ (t : Int) := by omega
    have MEAS := Lib.hid (show fuel.toNat - (n + 1) < fuel.toNat - n by omega)
    by_cases hlt : t < body.length + 2
    · have t1 : decide ((t : Int) < ((progL c N body).length : Int)) = true := by have := LEN.out; simp; omega
      have g1 : (t : Int) < ((progL c N body).length : Int) := by have := LEN.out; omega
      rcases ATS.out t n f hat hlt with ⟨x, hx, hx24, hok, hat'⟩ | ⟨ht1, hz, hat'⟩ | ⟨ht1, hz, hat'⟩
      · obtain ⟨c0, c1, c2, c3, c4⟩ := l5_at (l5_grown L3.out HG.out HB0.out) hx
        have HX := Lib.hid hx
        have HX24 := Lib.hid hx24
        have HAT := Lib.hid hat'
        have OK := Lib.hid hok
        have HLT := Lib.hid (show t < (progL c N body).length by have := LEN.out; omega)
        clear hx hx24 hat' hok hm hg hat hn hfu ht
        go_wp2_with fail
        refine (do_anyG w2.heap.size x f _ OK.out HM.out WF.out).mono ?_
        rintro e wa ⟨rfl, hm4, hg4⟩
        have M4 := Lib.hid hm4
        have G4 := Lib.hid (grown_trans HG.out hg4)
        clear hm4 hg4 c0 c1 c2 c3 c4
        go_wp2_with fail
        refine (next_plain w2.heap.size b0 off cp t _ _ x wa HLT.out (by have := LEN.out; omega) HX24.out (l5_at (l5_grown L3.out G4.out HB0.out) HX.out).1).mono ?_
        rintro e wb ⟨rfl, hbl⟩
        have M5 := Lib.hid (M4.out.grown hbl)
        have G5 := Lib.hid (grown_trans G4.out (grown_below hbl))
        clear hbl
        go_wp2_with fail
        exact ⟨⟨t + 1, n + 1, stepG x f, by push_cast; rfl, rfl, by push_cast; rfl, HAT.out, M5.out, G5.out⟩, by simpa [intOf] using MEAS.out⟩
      · obtain ⟨c0, c1, c2, c3, c4⟩ := l5_at (l5_grown L3.out HG.out HB0.out) (show (progL c N body)[t]? = some ⟨24, 0, 0, 0, 0⟩ by rw [ht1]; exact PE.out)
        simp only at c0 c1 c2 c3 c4
        have HT1 := Lib.hid ht1
        have HZ := Lib.hid hz
        have HAT := Lib.hid hat'
        have HLT := Lib.hid (show t < (progL c N body).length by have := LEN.out; omega)
        clear ht1 hz hat' hm hg hat hn hfu ht
        go_wp2_with fail
        refine (do_24 w2.heap.size 0 0 0 0 f _ (by omega) (by omega) (by omega) HM.out).mono ?_
        rintro e wa ⟨rfl, hbl⟩
        have M4 := Lib.hid (HM.out.grown hbl)
        have G4 := Lib.hid (grown_trans HG.out (grown_below hbl))
        clear hbl c0 c1 c2 c3 c4
        go_wp2_with fail
        refine (next_again w2.heap.size b0 off cp be eo t 0 c _ _ ec f _ wa (Lib.hid rfl) HZ.out HLT.out (by have := HLT.out; omega) (by have := LEN.out; omega) (by rw [HT1.out]; exact EL.out) M4.out WF.out hc (l5_at (l5_grown L3.out G4.out HB0.out) (show (progL c N body)[t]? = some ⟨24, 0, 0, 0, 0⟩ by rw [HT1.out]; exact PE.out)).1 (by rw [HT1.out]; exact G4.out.cell HEC.out (fun e => HBE.out (by cases e; rfl))) (l5_at (l5_grown L3.out G4.out HB0.out) P0.out).2.1 HB0.out HBE.out).mono ?_
        rintro e wb ⟨rfl, hm5, hg5⟩
        have M5 := Lib.hid hm5
        have G5 := Lib.hid (grown_trans G4.out hg5)
        clear hm5 hg5
        go_wp2_with fail
        exact ⟨⟨1, n + 1, _, by push_cast; rfl, rfl, by first | rfl | simp, HAT.out, M5.out, G5.out⟩, by simpa [intOf] using MEAS.out⟩
      · obtain ⟨c0, c1, c2, c3, c4⟩ := l5_at (l5_grown L3.out HG.out HB0.out) (show (progL c N body)[t]? = some ⟨24, 0, 0, 0, 0⟩ by rw [ht1]; exact PE.out)
        simp only at c0 c1 c2 c3 c4
        have HT1 := Lib.hid ht1
        have HZ := Lib.hid hz
        have HAT := Lib.hid hat'
        have HLT := Lib.hid (show t < (progL c N body).length by have := LEN.out; omega)
        clear ht1 hz hat' hm hg hat hn hfu ht
        go_wp2_with fail
        refine (do_24 w2.heap.size 0 0 0 0 f _ (by omega) (by omega) (by omega) HM.out).mono ?_
        rintro e wa ⟨rfl, hbl⟩
        have M4 := Lib.hid (HM.out.grown hbl)
        have G4 := Lib.hid (grown_trans HG.out (grown_below hbl))
        clear hbl c0 c1 c2 c3 c4
        go_wp2_with fail
        refine (next_out w2.heap.size b0 off cp be eo t 0 c _ _ ec f _ wa (Lib.hid rfl) HZ.out HLT.out (by have := HLT.out; omega) (by have := LEN.out; omega) (by rw [HT1.out]; exact EL.out) M4.out WF.out hc (l5_at (l5_grown L3.out G4.out HB0.out) (show (progL c N body)[t]? = some ⟨24, 0, 0, 0, 0⟩ by rw [HT1.out]; exact PE.out)).1 (by rw [HT1.out]; exact G4.out.cell HEC.out (fun e => HBE.out (by cases e; rfl))) (l5_at (l5_grown L3.out G4.out HB0.out) P0.out).2.1 HB0.out HBE.out).mono ?_
        rintro e wb ⟨rfl, hm5, hg5⟩
        have M5 := Lib.hid hm5
        have G5 := Lib.hid (grown_trans G4.out hg5)
        clear hm5 hg5
        go_wp2_with fail
        exact ⟨⟨t + 1, n + 1, _, by push_cast; rfl, rfl, by push_cast; rfl, HAT.out, M5.out, G5.out⟩, by simpa [intOf] using MEAS.out⟩
    · have HTE := Lib.hid (show t = body.length + 2 by omega)
      have t1 : decide ((t : Int) < ((progL c N body).length : Int)) = false := by have := LEN.out; simp; omega
      have t3 : (progL c N body).length ≤ t := by have := LEN.out; omega
      have t4 : ¬ t < (progL c N body).length := by omega
      obtain ⟨hn1, rfl⟩ := ATE.out n f (HTE.out ▸ hat)
      have HN := Lib.hid hn1
      clear hn1 hm hg hat hn hfu ht t2
      obtain ⟨i0, hi0, hz0, hz1, hz2⟩ := info_parts info_u32
      have NEWS := Lib.hid (show ∀ j u, (cellsF (rounds c N body N.toNat))[j]? = some u → wr.cell? ((⟨w2.heap.size, 0, none⟩ : Addr).add j) = some u from fun j u hj => by
        obtain ⟨hjl, _⟩ := List.getElem?_eq_some_iff.1 hj
        rw [cellsF_len] at hjl
        rw [cellsF_at _ hjl] at hj
        cases hj
        have := HM.out.v j hjl
        rw [add_at, Nat.zero_add]; exact this)
      have ONEC := Lib.hid (show ∀ u ∈ cellsF (rounds c N body N.toNat), u.oneCell' = true from fun u hu => by
        unfold cellsF at hu
        obtain ⟨k, _, rfl⟩ := List.mem_map.1 hu
        rfl)
      have BW := Lib.hid (show Below w.heap.size w wr from ((BB.out.trans (BW3.out.mono BB.out.size))).trans ⟨HG.out.os, HG.out.tape, HG.out.output, HG.out.size, fun i hi => HG.out.block i (Nat.lt_of_lt_of_le hi (Nat.le_trans BB.out.size BW3.out.size)) (fun e => by cases e; have := BB.out.size; omega)⟩)
      have BAS := Lib.hid BW.out.size
      go_wp2_with (at_builtin; refine wpList_append_own _ rfl (.const (.slice none 0 0)) (.tmp 52) 87 rfl w.heap.size 74 i0 (.int .u32 0) 1 4 Try.underlying87 hi0 hz0 hz1 hz2 rfl (by decide) (.slice none 0 0) 0 [] rfl (World.ownsRow_nil _ _ _ _) ⟨w2.heap.size, 0, none⟩ 64 64 (cellsF (rounds c N body N.toNat)) rfl (by rw [cellsF_len]) NEWS.out ONEC.out (by decide) (by decide) BAS.out ?_; intro v7 w7 hown hgrow hn7)
      have hg7 : Below wr.heap.size wr w7 := ⟨hgrow.os, hgrow.tape, hgrow.output, hgrow.size, fun i hi => hgrow.block i hi (by simp [Value.ownBlock])⟩
      have HG7 := Lib.hid hg7
      have HOWN := Lib.hid hown
      clear hg7 hown hgrow hn7
      (try simp only [Exit.inBlock, Exit.then])
      refine bodyPost_ret (res_four rfl _ _ _) rfl ?_
      exact ⟨⟨v7, by rw [HN.out]; rfl, by simpa using HOWN.out⟩, BW.out.trans (HG7.out.mono BW.out.size)⟩
end Go.Proofs.Ytokomefopbcihaa
