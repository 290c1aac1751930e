/- Contract of lirrun.Run on any program that may be, over a memory. -/
import Derived.Test.YtghclbeoabkgcaaLrF
import Derived.Test.YtghclbeoabkgcaaLrNx
import Derived.Test.YtghclbeoabkgcaaLirD
import Derived.Test.YtghclbeoabkgcaaMachP
import Derived.Deep.MidRow
namespace Go.Proofs.Ytghclbeoabkgcaa
open Go Go.RowKit Pl
set_option linter.unusedVariables false

theorem l5_outV {w w' : World} {b0 off : Nat} {l : List Q5} {S : Nat → Prop} (h : L5 w (some ⟨b0, off, none⟩) l) (hg : Out S w w') (hB : ¬ S b0) : L5 w' (some ⟨b0, off, none⟩) l := by
  obtain ⟨h1, h2 | ⟨b, o, e, hlt, hc⟩⟩ := h
  · exact ⟨h1, Or.inl h2⟩
  · obtain ⟨rfl, rfl⟩ : b0 = b ∧ off = o := by simpa using e
    refine ⟨h1, Or.inr ⟨b0, off, rfl, Nat.lt_of_lt_of_le hlt hg.size, fun k x hx => ?_⟩⟩
    obtain ⟨c0, c1, c2, c3, c4⟩ := hc k x hx
    exact ⟨(hg.cell (by exact hlt) hB).trans c0, (hg.cell (by exact hlt) hB).trans c1, (hg.cell (by exact hlt) hB).trans c2, (hg.cell (by exact hlt) hB).trans c3, (hg.cell (by exact hlt) hB).trans c4⟩
theorem l5_atV {w : World} {b0 off k : Nat} {l : List Q5} {x : Q5} (h : L5 w (some ⟨b0, off, none⟩) l) (hx : l[k]? = some x) :
    w.cell? ⟨b0, off + k * 5, none⟩ = some (.int .i64 x.o) ∧ w.cell? ⟨b0, off + k * 5 + 1, none⟩ = some (.int .i64 x.d) ∧ w.cell? ⟨b0, off + k * 5 + 2, none⟩ = some (.int .i64 x.a) ∧
    w.cell? ⟨b0, off + k * 5 + 3, none⟩ = some (.int .i64 x.b) ∧ w.cell? ⟨b0, off + k * 5 + 4, none⟩ = some (.int .i32 x.i) := by
  obtain ⟨h1, rfl | ⟨b, o, e, hlt, hc⟩⟩ := h
  · simp at hx
  · obtain ⟨rfl, rfl⟩ : b0 = b ∧ off = o := by simpa using e
    exact hc k x hx
noncomputable def zsV (M : Nat) : Array Value := Try.zeroCells79.setIfInBounds 64 (.pointer (some ⟨M, 0, none⟩))
theorem zsV_eq (M : Nat) : zsV M = ((List.replicate 64 (Value.int .u32 0)) ++ [Value.pointer (some ⟨M, 0, none⟩)]).toArray := by kernel_rfl
theorem zsV_size (M : Nat) : (zsV M).size = 65 := by kernel_rfl
theorem zsV_one (M : Nat) : (zsV M).all (·.oneCell') = true := by kernel_rfl
theorem zsV_at (M : Nat) : ∀ k, k < 64 → (zsV M)[k]? = some (.int .u32 0) := fun k hk => by
  rw [zsV_eq, List.getElem?_toArray, List.getElem?_append_left (by rw [List.length_replicate]; exact hk), List.getElem?_replicate, if_pos hk]
theorem below_setRowV {m : Nat} {w W : World} {g : Nat} {cs : Array Value} (h : Below m w W) (hm : m ≤ g) : Below m w (W.setRow g cs) :=
  ⟨h.os, h.tape, h.output, by have := h.size; simp [World.setRow]; omega, fun i hi => (setRow_other _ _ _ _ (by omega)).trans (h.block i hi)⟩
theorem info_u32V : (Try.prog.info? 37).map (fun i => (i.zero, i.size, i.bytes)) = some (some (.int .u32 0), 1, 4) := by kernel_rfl
/-- four results, all in temporaries -/
theorem res_fourV {fn : Func} {a b c d : Tmp} (h : fn.results = #[.tmp a, .tmp b, .tmp c, .tmp d]) (tmps : Array Value) (P : Program) (w : World) :
    (Go.results fn tmps).run P w = .ok (.tuple #[tmps.getD a undef, tmps.getD b undef, tmps.getD c undef, tmps.getD d undef]) w := by
  simp [Go.results, h]
theorem machV_new {w : World} {B M : Nat} {old : Array Value} {t : TypeId} (hg : w.heap[B]? = some (.cells old t (0, 0))) : MachV B (some ⟨M, 0, none⟩) (fun _ => 0) (w.setRow B (zsV M)) := by
  have h := setRow_heap w B old (zsV M) t (0, 0) hg
  obtain ⟨hl, _⟩ := Array.getElem?_eq_some_iff.1 h
  refine ⟨fun k hk => ?_, ?_, fun k hk => ?_, hl⟩
  · unfold World.cell?; rw [h]; exact (by simpa using zsV_at M k hk)
  · unfold World.cell?; rw [h, zsV_eq]; rfl
  · unfold World.frozen?; rw [h]; simp
def RunPost (w : World) (M F R : Nat) (K : Bk) (l : List Q5) (E : List Int) (fuel : Int) (b : List Nat) (e : Ending) (w' : World) : Prop :=
  ∃ v, e = .returned (.tuple #[v, .int .i64 ((runL K l E fuel.toNat ⟨0, fun _ => 0, b⟩).n : Nat), .int .i64 (runL K l E fuel.toNat ⟨0, fun _ => 0, b⟩).t, .int .i64 0]) ∧
    w'.ownsRow w.heap.size 37 1 v 64 (cellsF (runL K l E fuel.toNat ⟨0, fun _ => 0, b⟩).s.f) ∧ MemIs M F R K.ff K.rr K.Fb (runL K l E fuel.toNat ⟨0, fun _ => 0, b⟩).s.b w' ∧
    (runL K l E fuel.toNat ⟨0, fun _ => 0, b⟩).s.b.length = b.length ∧ Out (fun j => j = R ∨ w.heap.size ≤ j) w w'
theorem run_post {w w' : World} {M F R : Nat} {K : Bk} {l : List Q5} {E : List Int} {fuel : Int} {b : List Nat} {n : Nat} {t : Int} {s : LS} {v : Value} {e : Ending} (hr : runL K l E fuel.toNat ⟨0, fun _ => 0, b⟩ = ⟨n, t, s⟩)
    (he : e = .returned (.tuple #[v, .int .i64 (n : Nat), .int .i64 t, .int .i64 0])) (ho : w'.ownsRow w.heap.size 37 1 v 64 (cellsF s.f)) (hm : MemIs M F R K.ff K.rr K.Fb s.b w') (hb : s.b.length = b.length) (hO : Out (fun j => j = R ∨ w.heap.size ≤ j) w w') : RunPost w M F R K l E fuel b e w' := by
  unfold RunPost
  rw [hr]
  exact ⟨v, he, ho, hm, hb, hO⟩
theorem ite_bdV {c : Prop} [Decidable c] {a b : Int} (h1 : c → 0 ≤ a ∧ a < 4294967296) (h2 : ¬ c → 0 ≤ b ∧ b < 4294967296) : 0 ≤ (if c then a else b) ∧ (if c then a else b) < 4294967296 := by
  split
  · exact h1 (by assumption)
  · exact h2 (by assumption)
theorem sextS_bdV (x n : Int) (h0 : 0 ≤ x) (h1 : x < 4294967296) : 0 ≤ sextS x n ∧ sextS x n < 4294967296 := by
  unfold sextS; repeat' (apply ite_bdV <;> intro _)
  all_goals omega
theorem words_doR {K : Bk} {x : Q5} {f : Nat → Int} {b : List Nat} (hf : WordsF f) (hF : ∀ x ∈ K.Fb, x < 256) (hR : ∀ x ∈ b, x < 256) : WordsF (doR K x f b).f := by
  unfold doR
  split
  · refine wordsF_upd hf _ ?_
    unfold valR
    split
    · exact ⟨Int.emod_nonneg _ (by omega), Int.emod_lt_of_pos _ (by omega)⟩
    split
    · exact hf _
    · refine aluS_bd (hf _).1 (hf _).2 ?_ ?_
      · split
        · exact Int.emod_nonneg _ (by omega)
        · exact (hf _).1
      · split
        · exact Int.emod_lt_of_pos _ (by omega)
        · exact (hf _).2
  split
  · split
    · exact hf
    · refine wordsF_upd hf _ ?_
      have h : (ldR K x f b).1 < 4294967296 := loadS_lt' hF hR _ _ (by rcases sizeR_is x.o with g | g | g <;> omega)
      unfold extR
      split
      · omega
      · exact sextS_bdV _ _ (by omega) (by omega)
  split
  · split <;> exact hf
  · exact hf
theorem len_doR {K : Bk} {x : Q5} {f : Nat → Int} {b : List Nat} : (doR K x f b).b.length = b.length := by
  unfold doR
  split
  · rfl
  split
  · split <;> rfl
  split
  · split
    · rfl
    · exact ramS_length _ _ _ _ _
  · rfl
theorem trap_doR {K : Bk} {x : Q5} {f : Nat → Int} {b : List Nat} (h : (doR K x f b).t ≠ 0) : (doR K x f b).f = f ∧ (doR K x f b).b = b := by
  unfold doR at h ⊢
  split
  · rename_i g; rw [if_pos g] at h; exact absurd rfl h
  · rename_i g
    rw [if_neg g] at h
    split
    · rename_i g2
      rw [if_pos g2] at h
      split
      · exact ⟨rfl, rfl⟩
      · rename_i g3; rw [if_neg g3] at h; exact absurd rfl h
    · rename_i g2
      rw [if_neg g2] at h
      split
      · rename_i g3
        rw [if_pos g3] at h
        split
        · exact ⟨rfl, rfl⟩
        · rename_i g4; rw [if_neg g4] at h; exact absurd rfl h
      · exact ⟨rfl, rfl⟩
theorem words_set {f : Nat → Int} (hf : WordsF f) (c : Nat) : WordsF (upd f c ((f c - 1) % 4294967296)) := wordsF_upd hf _ ⟨Int.emod_nonneg _ (by omega), Int.emod_lt_of_pos _ (by omega)⟩
set_option maxHeartbeats 1000000 in
theorem run_bad (fuel z : Int) (l : List Q5) (a : Option Addr) (cp : Nat) (mp : Option Addr) (w : World) (hl : L5 w a l) (hchk : checkS l = z) (hz : (z == 0) = false) :
    Calls Try.prog 17 #[.slice a l.length cp, .pointer mp, .int .i64 fuel] w fun e w' => e = .returned (.tuple #[.slice none 0 0, .int .i64 0, .int .i64 0, .int .i64 z]) ∧ Below w.heap.size w w' := by
  have CH := Lib.hid (check_any a cp l)
  have HCK := Lib.hid hchk
  have hz2 : (z != 0) = true := by simp at hz ⊢; exact hz
  clear hchk
  go_enter Try.func17, Try.ntmps17
  go_wp2_with fail
  refine (CH.out _ hl).mono ?_
  rw [HCK.out]
  rintro e w1 ⟨rfl, b1⟩
  go_wp2_with fail
  (try simp only [Exit.inBlock, Exit.then])
  refine bodyPost_ret (res_fourV rfl _ _ _) rfl ?_
  exact ⟨rfl, b1⟩
set_option maxRecDepth 100000 in
set_option maxHeartbeats 3000000 in
theorem run_mem (fuel : Int) (l : List Q5) (a : Option Addr) (cp : Nat) (E : List Int) (w : World) (K : Bk) (M F R : Nat) (b : List Nat) (hp : Prog1 l E) (hll : l.length ≤ 60) (hl : L5 w a l) (hR : l = [] ∨ ∀ x, a = some x → x.block ≠ R) (hmem : MemIs M F R K.ff K.rr K.Fb b w) (hbk : Banks K.ff K.Fb.length K.rr b.length) (hlt : M < w.heap.size ∧ F < w.heap.size ∧ R < w.heap.size) (hchk : checkS l = 0) (hf : fuel ≤ 100000) :
    Calls Try.prog 17 #[.slice a l.length cp, .pointer (some ⟨M, 0, none⟩), .int .i64 fuel] w (RunPost w M F R K l E fuel b) := by
  have CH := Lib.hid (check_any a cp l)
  have EN := Lib.hid (fun w hl => ends_any a cp l w hl)
  have HCK := Lib.hid hchk
  have HE := Lib.hid hp.E
  obtain ⟨hEl, hg2, hg3⟩ := ends_facts hp.E
  have HEL := Lib.hid hEl
  have G2 := Lib.hid hg2
  have G3 := Lib.hid hg3
  have HL := Lib.hid hl
  have HMEM := Lib.hid hmem
  have HP := Lib.hid hp
  have HRR := Lib.hid hR
  clear hchk hp hl hmem hEl hg2 hg3 hR
  go_enter Try.func17, Try.ntmps17
  go_wp2_with fail
  refine (CH.out _ HL.out).mono ?_
  rw [HCK.out]
  rintro e w1 ⟨rfl, b1⟩
  have L1 := Lib.hid (HL.out.later b1)
  have B1 := Lib.hid b1
  clear b1
  go_wp2_with fail
  refine (EN.out _ L1.out).mono ?_
  rintro e w2 ⟨h2, b2⟩
  rw [HE.out] at h2
  obtain ⟨v2, rfl, own2⟩ := h2
  have SZS := Lib.hid (show (Try.prog.info? 79).map (·.size) = some (zsV M).size by rw [zsV_size]; kernel_rfl)
  have HOS := Lib.hid (show Try.zeroCells79.size = (zsV M).size by rw [zsV_size]; kernel_rfl)
  go_wp2_with (refine wpList_store_row rfl 79 (.tmp 13) (.tmp 28) rfl w2.heap.size (zsV M) rfl rfl 79 _ (heap_alloc_new _ _) SZS.out HOS.out (zsV_one M) ?_; generalize hW3 : World.setRow _ _ (zsV M) = W3; have M3 := Lib.hid (show MachV w2.heap.size (some ⟨M, 0, none⟩) (fun _ => 0) W3 by rw [← hW3]; exact machV_new (heap_alloc_new _ _)); have BW3 := Lib.hid (show Below w2.heap.size w2 W3 by rw [← hW3]; exact below_setRowV ((Below.refl _ _).alloc (Nat.le_refl _) _) (Nat.le_refl _)); clear hW3)
  have L3 := Lib.hid ((L1.out.later b2).later BW3.out)
  have BB := Lib.hid (B1.out.trans (b2.mono (B1.out.size)))
  have hsz : w.heap.size ≤ w2.heap.size := BB.out.size
  have OE := Lib.hid own2
  have N3 := Lib.hid (show MemIs M F R K.ff K.rr K.Fb b W3 from HMEM.out.out (Out.of_below (fun _ => False) (BB.out.trans (BW3.out.mono BB.out.size))) id id id)
  have HBM := Lib.hid (show w2.heap.size ≠ M ∧ w2.heap.size ≠ F ∧ w2.heap.size ≠ R by omega)
  obtain ⟨ea, ec, rfl, hea⟩ := own_i own2 (by have := HEL.out; omega)
  have HEA := Lib.hid hea
  have HRO := Lib.hid (show ∀ k, (Value.slice ea E.length ec).ownBlock = some k → w.heap.size ≤ k from fun k hk => Nat.le_trans B1.out.size (OE.out.lt k hk).1)
  clear hea own2 b2 hlt
  have FU := Lib.hid hf
  clear hf
  go_loopw [14, 15, 16] (fun nv tv av wr => ∃ (n : Nat) (s : LS), nv = .int .i64 n ∧ tv = .int .i64 0 ∧ av = .int .i64 s.p ∧ RchL K l E n ⟨0, fun _ => 0, b⟩ s ∧ n ≤ fuel.toNat ∧ WordsF s.f ∧ s.p ≤ l.length ∧ s.b.length = b.length ∧ MachV w2.heap.size (some ⟨M, 0, none⟩) s.f wr ∧ MemIs M F R K.ff K.rr K.Fb s.b wr ∧ Out (fun j => j = w2.heap.size ∨ j = R) W3 wr) (fun nv _ _ _ => fuel.toNat - (intOf nv).toNat)
  case atStart => exact ⟨0, ⟨0, fun _ => 0, b⟩, rfl, rfl, rfl, .refl _, Nat.zero_le _, (fun k => ⟨Int.le_refl 0, by show (0 : Int) < 4294967296; decide⟩), Nat.zero_le _, rfl, M3.out, N3.out, .refl _ _⟩
  case round =>
    obtain ⟨n, ⟨p, f, rb⟩, rfl, rfl, rfl, hre, hn, hwf, hpl, hbl, hm, hmm, ho⟩ := hrel
    simp only at hre hn hwf hpl hbl hm hmm ho
    have hfu := FU.out
    have HRE := Lib.hid hre
    have HWF := Lib.hid hwf
    have HBL := Lib.hid hbl
    have HM := Lib.hid hm
    have HMM := Lib.hid hmm
    have HO := Lib.hid ho
    clear hre hwf hbl hm hmm ho
    have u1 := IntWalk.i64_in ((n : Int) + 1) (by omega)
    have g0 : (0 : Int) ≤ (p : Int) := by omega
    by_cases hlt : p < l.length
    · have t1 : decide ((p : Int) < (l.length : Int)) = true := by simp; omega
      have g1 : (p : Int) < (l.length : Int) := by omega
      by_cases hnf : (n : Int) < fuel
      · have t2 : decide ((n : Int) < fuel) = true := by simp; omega
        have MEAS := Lib.hid (show fuel.toNat - (n + 1) < fuel.toNat - n by omega)
        have NF := Lib.hid (show n + 1 ≤ fuel.toNat by omega)
        obtain ⟨b0, off, rfl⟩ : ∃ b0 off, a = some ⟨b0, off, none⟩ := by
          obtain ⟨_, rfl | ⟨b0, off, h, _⟩⟩ := L3.out
          · simp at hlt
          · exact ⟨b0, off, h⟩
        have HB0 := Lib.hid (show ¬ (b0 = w2.heap.size ∨ b0 = R) by
          obtain ⟨_, h0 | ⟨b1, o1, h, hh, _⟩⟩ := HL.out
          · rw [h0] at hlt; simp at hlt
          · cases h
            have := (HRR.out.resolve_left (by intro h; rw [h] at hlt; simp at hlt)) _ rfl
            rintro (h | h)
            · omega
            · exact this h)
        obtain ⟨x, hx⟩ : ∃ x, l[p]? = some x := ⟨_, List.getElem?_eq_getElem hlt⟩
        have HX := Lib.hid hx
        have LW := Lib.hid (l5_outV L3.out HO.out HB0.out)
        obtain ⟨c0, c1, c2, c3, c4⟩ := l5_atV LW.out hx
        have OK := Lib.hid (HP.out.ok x (List.mem_of_getElem? hx))
        have HLT := Lib.hid hlt
        clear hx hfu hpl
        by_cases h24 : x.o = 24
        · have okd := OK.out
          obtain ⟨D0, hD0⟩ : ∃ D : Nat, x.d = D := ⟨x.d.toNat, by have := okd.d; omega⟩
          obtain ⟨A0, hA0⟩ : ∃ D : Nat, x.a = D := ⟨x.a.toNat, by have := okd.a; omega⟩
          obtain ⟨E0, hE0⟩ : ∃ D : Nat, x.b = D := ⟨x.b.toNat, by have := okd.b; omega⟩
          have d1 : D0 < 64 := by have := okd.d; omega
          have d2 : A0 < 64 := by have := okd.a; omega
          have d3 : E0 < 64 := by have := okd.b; omega
          rw [h24] at c0
          rw [hD0] at c1
          rw [hA0] at c2
          rw [hE0] at c3
          have SX := Lib.hid (show stepL K l E ⟨p, f, rb⟩ = (0, ⟨if (f (cnL l E p) - 1) % 4294967296 = 0 then p + 1 else bgL E p + 1, upd f (cnL l E p) ((f (cnL l E p) - 1) % 4294967296), rb⟩) by rw [stepL_at HX.out]; unfold stepX; rw [if_pos h24])
          obtain ⟨i, y, hy, hyo, hmt⟩ := G3.out p x HX.out h24
          obtain ⟨k, hk, hE1, hE2⟩ := G2.out i y hy hyo
          rw [hmt] at hk
          obtain rfl : p = k := by injection hk
          have hip := (mate_ge hmt).1
          have oky := HP.out.ok y (List.mem_of_getElem? hy)
          obtain ⟨Dy, hDy⟩ : ∃ D : Nat, y.d = D := ⟨y.d.toNat, by have := oky.d; omega⟩
          have e1 : bgL E p = i := by unfold bgL; rw [List.getD, hE2]; rfl
          have e2 : cnL l E p = Dy := by unfold cnL dOf; rw [e1, hy]; simp [hDy]
          rw [e1, e2] at SX
          have dy : Dy < 64 := by have := oky.d; omega
          have il : i < l.length := by omega
          have CY := Lib.hid (show ∀ W, Out (fun j => j = w2.heap.size ∨ j = R) W3 W → W.cell? ⟨b0, off + p * 5, none⟩ = some (.int .i64 24) ∧ W.cell? ⟨b0, off + i * 5 + 1, none⟩ = some (.int .i64 Dy) from fun W hW => by
            have q1 := (l5_atV (l5_outV L3.out hW HB0.out) HX.out).1
            have q2 := (l5_atV (l5_outV L3.out hW HB0.out) hy).2.1
            rw [h24] at q1
            rw [hDy] at q2
            exact ⟨q1, q2⟩)
          obtain ⟨be, eo, rfl, hbe, hec⟩ : ∃ be eo, ea = some ⟨be, eo, none⟩ ∧ be < w2.heap.size ∧ ∀ W, Out (fun j => j = w2.heap.size ∨ j = R) W3 W → W.cell? ⟨be, eo + p, none⟩ = some (.int .i64 i) := by
            obtain ⟨_, h0 | ⟨be, eo, h1, h2, h3⟩⟩ := HEA.out
            · rw [h0] at hE2; simp at hE2
            · refine ⟨be, eo, h1, h2, fun W hW => ?_⟩
              subst h1
              have nb : ¬ (be = w2.heap.size ∨ be = R) := by
                have k1 := HRO.out
                have k2 := OE.out.lt
                obtain ⟨_, ⟨hv, hn0⟩ | ⟨g, cap, cur, hv, _⟩⟩ := OE.out
                · cases hv
                · have eg : be = g := by injection hv with h _ _; injection h with h; injection h
                  subst eg
                  have eo0 : eo = 0 := by injection hv with h _ _; injection h with h; injection h
                  subst eo0
                  have := k1 be rfl
                  have hRw := HMEM.out.hR
                  have hRl := (Array.getElem?_eq_some_iff.1 hRw).1
                  omega
              exact (hW.cell (by show be < W3.heap.size; have := BW3.out.size; omega) nb).trans ((BW3.out.cell (by exact h2)).trans (h3 p i hE2))
          have HEC := Lib.hid hec
          have EL := Lib.hid (show p < E.length from (List.getElem?_eq_some_iff.1 hE2).1)
          have HBE := Lib.hid (show be ≠ w2.heap.size by omega)
          clear hec hE1 hE2 hy hyo hmt hk okd oky hDy e1 e2 h24 hbe hD0 hA0 hE0
          go_wp2_with fail
          refine (do_24 w2.heap.size D0 A0 E0 x.i (some ⟨M, 0, none⟩) f wr d1 d2 d3 HM.out).mono ?_
          rintro e wa ⟨rfl, hbl4⟩
          have M4 := Lib.hid (HM.out.grown hbl4)
          have O4 := Lib.hid (HO.out.trans (Out.of_below _ hbl4))
          have N4 := Lib.hid (HMM.out.out (Out.of_below (fun _ => False) hbl4) id id id)
          clear hbl4 c0 c1 c2 c3 c4
          go_wp2_with fail
          have NX := Lib.hid (show ∀ q, (f Dy - 1) % 4294967296 = q → True from fun _ _ => trivial)
          obtain ⟨q, hq⟩ : ∃ q, q = (f Dy - 1) % 4294967296 := ⟨_, rfl⟩
          rw [← hq] at SX
          have HQ := Lib.hid hq
          have e60 : l.length ≤ 1000 := by omega
          by_cases hz : q = 0
          · refine (next_out w2.heap.size b0 off cp be eo p i Dy l.length E.length ec (some ⟨M, 0, none⟩) f q wa HQ (by simp [hz]) HLT.out il e60 EL.out M4.out HWF.out dy (CY.out _ O4.out).1 (HEC.out _ O4.out) (CY.out _ O4.out).2 (fun e => HB0.out (.inl e)) HBE.out).mono ?_
            rintro e wb ⟨rfl, hm5, hg5⟩
            rw [if_pos hz] at SX
            have ho5 := Out.of_grown (S := (· = w2.heap.size)) hg5 (fun j h => by cases h; rfl)
            have M5 := Lib.hid hm5
            have O5 := Lib.hid (O4.out.trans (ho5.mono (fun j h => .inl h)))
            have N5 := Lib.hid (N4.out.out ho5 (fun e => HBM.out.1 e.symm) (fun e => HBM.out.2.1 e.symm) (fun e => HBM.out.2.2 e.symm))
            clear hm5 hg5 ho5 hq hz
            go_wp2_with fail
            refine ⟨⟨n + 1, ⟨p + 1, upd f Dy q, rb⟩, by push_cast; rfl, rfl, by push_cast; rfl, ?_, NF.out, by rw [HQ.out]; exact words_set HWF.out Dy, by show p + 1 ≤ l.length; have := HLT.out; omega, HBL.out, M5.out, N5.out, O5.out⟩, by simpa [intOf] using MEAS.out⟩
            have := HRE.out.snoc (show (⟨p, f, rb⟩ : LS).p < l.length from HLT.out) (by rw [SX.out])
            rw [SX.out] at this
            exact this
          · refine (next_again w2.heap.size b0 off cp be eo p i Dy l.length E.length ec (some ⟨M, 0, none⟩) f q wa HQ (by simpa using hz) HLT.out il e60 EL.out M4.out HWF.out dy (CY.out _ O4.out).1 (HEC.out _ O4.out) (CY.out _ O4.out).2 (fun e => HB0.out (.inl e)) HBE.out).mono ?_
            rintro e wb ⟨rfl, hm5, hg5⟩
            rw [if_neg hz] at SX
            have ho5 := Out.of_grown (S := (· = w2.heap.size)) hg5 (fun j h => by cases h; rfl)
            have M5 := Lib.hid hm5
            have O5 := Lib.hid (O4.out.trans (ho5.mono (fun j h => .inl h)))
            have N5 := Lib.hid (N4.out.out ho5 (fun e => HBM.out.1 e.symm) (fun e => HBM.out.2.1 e.symm) (fun e => HBM.out.2.2 e.symm))
            clear hm5 hg5 ho5 hq hz
            go_wp2_with fail
            refine ⟨⟨n + 1, ⟨i + 1, upd f Dy q, rb⟩, by push_cast; rfl, rfl, by push_cast; rfl, ?_, NF.out, by rw [HQ.out]; exact words_set HWF.out Dy, by show i + 1 ≤ l.length; omega, HBL.out, M5.out, N5.out, O5.out⟩, by simpa [intOf] using MEAS.out⟩
            have := HRE.out.snoc (show (⟨p, f, rb⟩ : LS).p < l.length from HLT.out) (by rw [SX.out])
            rw [SX.out] at this
            exact this
        · have SX := Lib.hid (show stepL K l E ⟨p, f, rb⟩ = if (doR K x f rb).t ≠ 0 then ((doR K x f rb).t, ⟨p, f, rb⟩) else (0, ⟨p + 1, (doR K x f rb).f, (doR K x f rb).b⟩) by rw [stepL_at HX.out]; unfold stepX; rw [if_neg h24])
          have HX24 := Lib.hid (show (x.o == 24) = false by simpa using h24)
          have H24 := Lib.hid h24
          have WD := Lib.hid (words_doR (x := x) HWF.out HMM.out.fF HMM.out.fR)
          have TR := Lib.hid (trap_doR (K := K) (x := x) (f := f) (b := rb))
          have LD := Lib.hid (len_doR (K := K) (x := x) (f := f) (b := rb))
          clear h24
          go_wp2_with fail
          refine (dov_any w2.heap.size M F R K x f rb wr OK.out H24.out HM.out HMM.out (by rw [HBL.out]; exact hbk) HBM.out HWF.out).mono ?_
          rintro e wa ⟨rfl, hm4, hmm4, ho4⟩
          have M4 := Lib.hid hm4
          have N4 := Lib.hid hmm4
          have O4 := Lib.hid (HO.out.trans ho4)
          clear hm4 hmm4 ho4 c0 c1 c2 c3 c4
          generalize doR K x f rb = r at *
          obtain ⟨rt, rf, rb2⟩ := r
          simp only at SX WD LD TR M4 N4 ⊢
          by_cases ht : rt = 0
          · subst ht
            rw [if_neg (by simp)] at SX
            go_wp2_with fail
            refine (next_plain w2.heap.size b0 off cp p _ _ x wa HLT.out (by omega) HX24.out (l5_atV (l5_outV L3.out O4.out HB0.out) HX.out).1).mono ?_
            rintro e wb ⟨rfl, hbl5⟩
            have M5 := Lib.hid (M4.out.grown hbl5)
            have O5 := Lib.hid (O4.out.trans (Out.of_below _ hbl5))
            have N5 := Lib.hid (N4.out.out (Out.of_below (fun _ => False) hbl5) id id id)
            clear hbl5
            go_wp2_with fail
            refine ⟨⟨n + 1, ⟨p + 1, rf, rb2⟩, by push_cast; rfl, rfl, by push_cast; rfl, ?_, NF.out, WD.out, by show p + 1 ≤ l.length; have := HLT.out; omega, by show rb2.length = _; rw [LD.out, HBL.out], M5.out, N5.out, O5.out⟩, by simpa [intOf] using MEAS.out⟩
            have := HRE.out.snoc (show (⟨p, f, rb⟩ : LS).p < l.length from HLT.out) (by rw [SX.out])
            rw [SX.out] at this
            exact this
          · rw [if_pos ht] at SX
            have ht1 : (rt == 0) = false := by simpa using ht
            have ht2 : (rt != 0) = true := by simpa using ht
            have RR := Lib.hid (show runL K l E fuel.toNat ⟨0, fun _ => 0, b⟩ = ⟨n, rt, ⟨p, f, rb⟩⟩ by
              have := run_trap HRE.out (fuel.toNat - n - 1) (show (⟨p, f, rb⟩ : LS).p < l.length from HLT.out) (by rw [SX.out]; exact ht)
              rw [SX.out, show n + (fuel.toNat - n - 1 + 1) = fuel.toNat by have := NF.out; omega] at this
              exact this)
            obtain ⟨rfl, rfl⟩ : rf = f ∧ rb2 = rb := TR.out ht
            have HM := M4
            have HMM := N4
            have HO := O4
            obtain ⟨i0, hi0, hz0, hz1, hz2⟩ := info_parts info_u32V
            have NEWS := Lib.hid (show ∀ j u, (cellsF rf)[j]? = some u → wa.cell? ((⟨w2.heap.size, 0, none⟩ : Addr).add j) = some u from fun j u hj => by
              obtain ⟨hjl, _⟩ := List.getElem?_eq_some_iff.1 hj
              rw [cellsF_len] at hjl
              rw [cellsF_at _ hjl] at hj
              cases hj
              have := HM.out.v j hjl
              rw [add_at, Nat.zero_add]; exact this)
            have ONEC := Lib.hid (show ∀ u ∈ cellsF rf, u.oneCell' = true from fun u hu => by
              unfold cellsF at hu
              obtain ⟨k, _, rfl⟩ := List.mem_map.1 hu
              rfl)
            have OW := Lib.hid (show Out (fun j => j = R ∨ w.heap.size ≤ j) w wa from (Out.of_below _ (BB.out.trans (BW3.out.mono BB.out.size))).trans (HO.out.mono (fun j h => by rcases h with h | h; exact .inr (by have := BB.out.size; omega); exact .inl h)))
            have BAS := Lib.hid OW.out.size
            go_wp2_with (at_builtin; refine wpList_append_own _ rfl (.const (.slice none 0 0)) (.tmp 52) 33 rfl w.heap.size 37 i0 (.int .u32 0) 1 4 Try.underlying33 hi0 hz0 hz1 hz2 rfl (by decide) (.slice none 0 0) 0 [] rfl (World.ownsRow_nil _ _ _ _) ⟨w2.heap.size, 0, none⟩ 64 64 (cellsF rf) rfl (by rw [cellsF_len]) NEWS.out ONEC.out (by decide) (by decide) BAS.out ?_; intro v7 w7 hown hgrow hn7)
            have hg7 : Below wa.heap.size wa w7 := ⟨hgrow.os, hgrow.tape, hgrow.output, hgrow.size, fun i hi => hgrow.block i hi (by simp [Value.ownBlock])⟩
            have HG7 := Lib.hid hg7
            have HOWN := Lib.hid hown
            clear hg7 hown hgrow hn7
            (try simp only [Exit.inBlock, Exit.then])
            refine bodyPost_ret (res_fourV rfl _ _ _) rfl ?_
            exact run_post RR.out rfl (by simpa using HOWN.out) (HMM.out.out (Out.of_below (fun _ => False) HG7.out) id id id) HBL.out ((OW.out.trans (Out.of_below _ HG7.out)))
      · have t2 : decide ((n : Int) < fuel) = false := by simp; omega
        have RR := Lib.hid (show runL K l E fuel.toNat ⟨0, fun _ => 0, b⟩ = ⟨n, 0, ⟨p, f, rb⟩⟩ by
          have := run_end HRE.out 0 (.inr rfl)
          rwa [show n + 0 = fuel.toNat by omega] at this)
        clear hnf hfu
        obtain ⟨i0, hi0, hz0, hz1, hz2⟩ := info_parts info_u32V
        have NEWS := Lib.hid (show ∀ j u, (cellsF f)[j]? = some u → wr.cell? ((⟨w2.heap.size, 0, none⟩ : Addr).add j) = some u from fun j u hj => by
          obtain ⟨hjl, _⟩ := List.getElem?_eq_some_iff.1 hj
          rw [cellsF_len] at hjl
          rw [cellsF_at _ hjl] at hj
          cases hj
          have := HM.out.v j hjl
          rw [add_at, Nat.zero_add]; exact this)
        have ONEC := Lib.hid (show ∀ u ∈ cellsF f, u.oneCell' = true from fun u hu => by
          unfold cellsF at hu
          obtain ⟨k, _, rfl⟩ := List.mem_map.1 hu
          rfl)
        have OW := Lib.hid (show Out (fun j => j = R ∨ w.heap.size ≤ j) w wr from (Out.of_below _ (BB.out.trans (BW3.out.mono BB.out.size))).trans (HO.out.mono (fun j h => by rcases h with h | h; exact .inr (by have := BB.out.size; omega); exact .inl h)))
        have BAS := Lib.hid OW.out.size
        go_wp2_with (at_builtin; refine wpList_append_own _ rfl (.const (.slice none 0 0)) (.tmp 52) 33 rfl w.heap.size 37 i0 (.int .u32 0) 1 4 Try.underlying33 hi0 hz0 hz1 hz2 rfl (by decide) (.slice none 0 0) 0 [] rfl (World.ownsRow_nil _ _ _ _) ⟨w2.heap.size, 0, none⟩ 64 64 (cellsF f) rfl (by rw [cellsF_len]) NEWS.out ONEC.out (by decide) (by decide) BAS.out ?_; intro v7 w7 hown hgrow hn7)
        have hg7 : Below wr.heap.size wr w7 := ⟨hgrow.os, hgrow.tape, hgrow.output, hgrow.size, fun i hi => hgrow.block i hi (by simp [Value.ownBlock])⟩
        have HG7 := Lib.hid hg7
        have HOWN := Lib.hid hown
        clear hg7 hown hgrow hn7
        (try simp only [Exit.inBlock, Exit.then])
        refine bodyPost_ret (res_fourV rfl _ _ _) rfl ?_
        exact run_post RR.out rfl (by simpa using HOWN.out) (HMM.out.out (Out.of_below (fun _ => False) HG7.out) id id id) HBL.out ((OW.out.trans (Out.of_below _ HG7.out)))
    · obtain rfl : p = l.length := by omega
      have t1 : decide ((l.length : Int) < (l.length : Int)) = false := by simp
      have RR := Lib.hid (show runL K l E fuel.toNat ⟨0, fun _ => 0, b⟩ = ⟨n, 0, ⟨l.length, f, rb⟩⟩ by
        have := run_end HRE.out (fuel.toNat - n) (.inl (Nat.le_refl _))
        rwa [show n + (fuel.toNat - n) = fuel.toNat by omega] at this)
      clear hlt hfu
      obtain ⟨i0, hi0, hz0, hz1, hz2⟩ := info_parts info_u32V
      have NEWS := Lib.hid (show ∀ j u, (cellsF f)[j]? = some u → wr.cell? ((⟨w2.heap.size, 0, none⟩ : Addr).add j) = some u from fun j u hj => by
        obtain ⟨hjl, _⟩ := List.getElem?_eq_some_iff.1 hj
        rw [cellsF_len] at hjl
        rw [cellsF_at _ hjl] at hj
        cases hj
        have := HM.out.v j hjl
        rw [add_at, Nat.zero_add]; exact this)
      have ONEC := Lib.hid (show ∀ u ∈ cellsF f, u.oneCell' = true from fun u hu => by
        unfold cellsF at hu
        obtain ⟨k, _, rfl⟩ := List.mem_map.1 hu
        rfl)
      have OW := Lib.hid (show Out (fun j => j = R ∨ w.heap.size ≤ j) w wr from (Out.of_below _ (BB.out.trans (BW3.out.mono BB.out.size))).trans (HO.out.mono (fun j h => by rcases h with h | h; exact .inr (by have := BB.out.size; omega); exact .inl h)))
      have BAS := Lib.hid OW.out.size
      go_wp2_with (at_builtin; refine wpList_append_own _ rfl (.const (.slice none 0 0)) (.tmp 52) 33 rfl w.heap.size 37 i0 (.int .u32 0) 1 4 Try.underlying33 hi0 hz0 hz1 hz2 rfl (by decide) (.slice none 0 0) 0 [] rfl (World.ownsRow_nil _ _ _ _) ⟨w2.heap.size, 0, none⟩ 64 64 (cellsF f) rfl (by rw [cellsF_len]) NEWS.out ONEC.out (by decide) (by decide) BAS.out ?_; intro v7 w7 hown hgrow hn7)
      have hg7 : Below wr.heap.size wr w7 := ⟨hgrow.os, hgrow.tape, hgrow.output, hgrow.size, fun i hi => hgrow.block i hi (by simp [Value.ownBlock])⟩
      have HG7 := Lib.hid hg7
      have HOWN := Lib.hid hown
      clear hg7 hown hgrow hn7
      (try simp only [Exit.inBlock, Exit.then])
      refine bodyPost_ret (res_fourV rfl _ _ _) rfl ?_
      exact run_post RR.out rfl (by simpa using HOWN.out) (HMM.out.out (Out.of_below (fun _ => False) HG7.out) id id id) HBL.out ((OW.out.trans (Out.of_below _ HG7.out)))
end Go.Proofs.Ytghclbeoabkgcaa
