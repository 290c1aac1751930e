/- Contract of lirrun.Run on a program of plain steps alone. -/
import Derived.Test.YtghclbeoabkgcaaNext
import Derived.Test.YtghclbeoabkgcaaDoB
import Derived.Test.YtghclbeoabkgcaaDoC
import Derived.Test.YtghclbeoabkgcaaDoD
import Derived.Test.YtghclbeoabkgcaaLirD
import Derived.Test.YtghclbeoabkgcaaMachP
import Derived.Deep.MidRow
namespace Go.Proofs.Ytghclbeoabkgcaa
open Go Go.RowKit Pl
set_option linter.unusedVariables false

theorem grown_below {w w' : World} {r : Option Nat} (h : Below w.heap.size w w') : w.grownBy w' r := ⟨h.os, h.tape, h.output, h.size, fun i hi _ => h.block i hi⟩
theorem l5_grown {w w' : World} {b0 off B : Nat} {l : List Q5} (h : L5 w (some ⟨b0, off, none⟩) l) (hg : w.grownBy w' (some B)) (hB : b0 ≠ B) : L5 w' (some ⟨b0, off, none⟩) l := by
  obtain ⟨h1, h2 | ⟨b, o, e, hlt, hc⟩⟩ := h
  · exact ⟨h1, Or.inl h2⟩
  · obtain ⟨rfl, rfl⟩ : b0 = b ∧ off = o := by simpa using e
    refine ⟨h1, Or.inr ⟨b0, off, rfl, Nat.lt_of_lt_of_le hlt hg.size, fun k x hx => ?_⟩⟩
    obtain ⟨c0, c1, c2, c3, c4⟩ := hc k x hx
    have ne : some b0 ≠ some B := fun e => hB (by cases e; rfl)
    exact ⟨hg.cell c0 ne, hg.cell c1 ne, hg.cell c2 ne, hg.cell c3 ne, hg.cell c4 ne⟩
theorem l5_at {w : World} {b0 off k : Nat} {l : List Q5} {x : Q5} (h : L5 w (some ⟨b0, off, none⟩) l) (hx : l[k]? = some x) :
    w.cell? ⟨b0, off + k * 5, none⟩ = some (.int .i64 x.o) ∧ w.cell? ⟨b0, off + k * 5 + 1, none⟩ = some (.int .i64 x.d) ∧ w.cell? ⟨b0, off + k * 5 + 2, none⟩ = some (.int .i64 x.a) ∧
    w.cell? ⟨b0, off + k * 5 + 3, none⟩ = some (.int .i64 x.b) ∧ w.cell? ⟨b0, off + k * 5 + 4, none⟩ = some (.int .i32 x.i) := by
  obtain ⟨h1, rfl | ⟨b, o, e, hlt, hc⟩⟩ := h
  · simp at hx
  · obtain ⟨rfl, rfl⟩ : b0 = b ∧ off = o := by simpa using e
    exact hc k x hx
theorem grown_trans {a b c : World} {r : Option Nat} (h : a.grownBy b r) (k : b.grownBy c r) : a.grownBy c r :=
  ⟨k.os.trans h.os, k.tape.trans h.tape, k.output.trans h.output, Nat.le_trans h.size k.size, fun i hi hne => (k.block i (Nat.lt_of_lt_of_le hi h.size) hne).trans (h.block i hi hne)⟩
noncomputable def zs65 : Array Value := Try.zeroCells79.setIfInBounds 64 (.pointer none)
theorem zeroS : Try.zeroCells79 = ((List.replicate 64 (Value.int .u32 0)) ++ [Value.pointer none]).toArray := by kernel_rfl
theorem zs65_eq : zs65 = ((List.replicate 64 (Value.int .u32 0)) ++ [Value.pointer none]).toArray := by kernel_rfl
theorem zs65_size : zs65.size = 65 := by kernel_rfl
theorem zs65_one : zs65.all (·.oneCell') = true := by kernel_rfl
theorem zs65_at : ∀ k, k < 64 → zs65[k]? = some (.int .u32 0) := fun k hk => by
  rw [zs65_eq, List.getElem?_toArray, List.getElem?_append_left (by rw [List.length_replicate]; exact hk), List.getElem?_replicate, if_pos hk]
theorem below_setRowS {m : Nat} {w W : World} {g : Nat} {cs : Array Value} (h : Below m w W) (hm : m ≤ g) : Below m w (W.setRow g cs) :=
  ⟨h.os, h.tape, h.output, by have := h.size; simp [World.setRow]; omega, fun i hi => (setRow_other _ _ _ _ (by omega)).trans (h.block i hi)⟩
theorem info_u32 : (Try.prog.info? 37).map (fun i => (i.zero, i.size, i.bytes)) = some (some (.int .u32 0), 1, 4) := by kernel_rfl
/-- four results, all in temporaries -/
theorem res_four {fn : Func} {a b c d : Tmp} (h : fn.results = #[.tmp a, .tmp b, .tmp c, .tmp d]) (tmps : Array Value) (P : Program) (w : World) :
    (Go.results fn tmps).run P w = .ok (.tuple #[tmps.getD a undef, tmps.getD b undef, tmps.getD c undef, tmps.getD d undef]) w := by
  simp [Go.results, h]
theorem machS_new {w : World} {B : Nat} {old : Array Value} {t : TypeId} (hg : w.heap[B]? = some (.cells old t (0, 0))) : MachS B (fun _ => 0) (w.setRow B zs65) := by
  have h := setRow_heap w B old zs65 t (0, 0) hg
  obtain ⟨hl, _⟩ := Array.getElem?_eq_some_iff.1 h
  refine ⟨fun k hk => ?_, ?_, fun k hk => ?_, hl⟩
  · unfold World.cell?; rw [h]; exact (by simpa using zs65_at k hk)
  · unfold World.cell?; rw [h, zs65_eq]; rfl
  · unfold World.frozen?; rw [h]; simp
/-- a plain step, its shift within bounds -/
def OkS (x : Q5) : Prop := OkF x ∧ (14 ≤ x.o → 0 ≤ x.i ∧ x.i ≤ 31)
theorem sh_mod {i : Int} (h : 0 ≤ i ∧ i ≤ 31) : (i % 4294967296 % 32).toNat = i.toNat := by
  rw [show i % 4294967296 % 32 = i by omega]
theorem do_anyS (B : Nat) (x : Q5) (f : Nat → Int) (w : World) (hx : OkS x) (hm : MachS B f w) (hf : WordsF f) :
    Calls Try.prog 42 #[.pointer (some ⟨B, 0, none⟩), .agg #[.int .i64 x.o, .int .i64 x.d, .int .i64 x.a, .int .i64 x.b, .int .i32 x.i]] w fun e w' => e = .returned (.int .i64 0) ∧ MachS B (stepF x f) w' ∧ w.grownBy w' (some B) := by
  obtain ⟨o, d, a, b, i⟩ := x
  obtain ⟨⟨ho, hd, ha, hb⟩, hi⟩ := hx
  simp only at ho hd ha hb hi
  obtain ⟨D, rfl⟩ : ∃ D : Nat, d = D := ⟨d.toNat, by omega⟩
  obtain ⟨A, rfl⟩ : ∃ A : Nat, a = A := ⟨a.toNat, by omega⟩
  obtain ⟨E, rfl⟩ : ∃ E : Nat, b = E := ⟨b.toNat, by omega⟩
  rcases ho with rfl | rfl | rfl | rfl | rfl | rfl | rfl | rfl | rfl | rfl | rfl
  · exact do_1 B D A E i f w (by omega) (by omega) (by omega) hm hf
  · exact do_2 B D A E i f w (by omega) (by omega) (by omega) hm hf
  · exact do_3 B D A E i f w (by omega) (by omega) (by omega) hm hf
  · exact do_4 B D A E i f w (by omega) (by omega) (by omega) hm hf
  · exact do_5 B D A E i f w (by omega) (by omega) (by omega) hm hf
  · exact do_6 B D A E i f w (by omega) (by omega) (by omega) hm hf
  · exact do_7 B D A E i f w (by omega) (by omega) (by omega) hm hf
  · refine (do_13 B D A E i f w (by omega) (by omega) (by omega) hm hf).mono ?_
    rintro e w' ⟨h1, h2, h3⟩
    refine ⟨h1, ?_, h3⟩
    have : stepF ⟨13, D, A, E, i⟩ f = upd f D ((f A + i) % 4294967296) := by
      unfold stepF valF
      simp [aluOf]
      congr 1
      show (f A + i % 4294967296) % 4294967296 = _
      omega
    rw [this]; exact h2
  · have hi' := hi (by omega)
    refine (do_14 B D A E i f w (by omega) (by omega) (by omega) hm hf hi').mono ?_
    rintro e w' ⟨h1, h2, h3⟩
    refine ⟨h1, ?_, h3⟩
    have : stepF ⟨14, D, A, E, i⟩ f = upd f D (f A * 2 ^ i.toNat % 4294967296) := by
      show upd f D (f A * 2 ^ (i % 4294967296 % 32).toNat % 4294967296) = _
      rw [sh_mod hi']
    rw [this]; exact h2
  · have hi' := hi (by omega)
    refine (do_15 B D A E i f w (by omega) (by omega) (by omega) hm hf hi').mono ?_
    rintro e w' ⟨h1, h2, h3⟩
    refine ⟨h1, ?_, h3⟩
    have : stepF ⟨15, D, A, E, i⟩ f = upd f D (f A / 2 ^ i.toNat) := by
      show upd f D (f A / 2 ^ (i % 4294967296 % 32).toNat) = _
      rw [sh_mod hi']
    rw [this]; exact h2
  · have hi' := hi (by omega)
    refine (do_16 B D A E i f w (by omega) (by omega) (by omega) hm hf hi').mono ?_
    rintro e w' ⟨h1, h2, h3⟩
    refine ⟨h1, ?_, h3⟩
    have : stepF ⟨16, D, A, E, i⟩ f = upd f D (sg (f A) / 2 ^ i.toNat % 4294967296) := by
      show upd f D (sg (f A) / 2 ^ (i % 4294967296 % 32).toNat % 4294967296) = _
      rw [sh_mod hi']
    rw [this]; exact h2
set_option maxRecDepth 100000 in
set_option maxHeartbeats 4000000 in
theorem run_straight (fuel : Int) (l : List Q5) (b0 off cp : Nat) (E : List Int) (w : World) (hok : ∀ x ∈ l, OkS x) (hll : l.length ≤ 60) (hl : L5 w (some ⟨b0, off, none⟩) l) (hb0 : b0 < w.heap.size) (hchk : checkS l = 0) (hE : endsS l = some E) (hEl : E.length ≤ 1000) (hf : (l.length : Int) < fuel ∧ fuel ≤ 100000) :
    Calls Try.prog 17 #[.slice (some ⟨b0, off, none⟩) l.length cp, .pointer none, .int .i64 fuel] w fun e w' => (∃ v, e = .returned (.tuple #[v, .int .i64 (l.length : Nat), .int .i64 0, .int .i64 0]) ∧ w'.ownsRow w.heap.size 37 1 v 64 (cellsF (runF l fun _ => 0))) ∧ Below w.heap.size w w' := by
  have CH := Lib.hid (check_any (some ⟨b0, off, none⟩) cp l)
  have EN := Lib.hid (fun w hl => ends_any (some ⟨b0, off, none⟩) cp l w hl)
  have HCK := Lib.hid hchk
  have HE := Lib.hid hE
  have HL := Lib.hid hl
  clear hchk hE hl
  go_enter Try.func17, Try.ntmps17
  go_wp2_with fail
  refine (CH.out _ HL.out).mono ?_
  rw [HCK.out]
  rintro e w1 ⟨rfl, b1⟩
  have L1 := Lib.hid (HL.out.later b1)
  have B1 := Lib.hid b1
  clear b1
  go_wp2_with fail
  refine (EN.out _ L1.out).mono ?_
  rintro e w2 ⟨h2, b2⟩
  rw [HE.out] at h2
  obtain ⟨v2, rfl, own2⟩ := h2
  have SZS := Lib.hid (show (Try.prog.info? 79).map (·.size) = some zs65.size by rw [zs65_size]; kernel_rfl)
  have HOS := Lib.hid (show Try.zeroCells79.size = zs65.size by rw [zs65_size]; kernel_rfl)
  go_wp2_with (refine wpList_store_row rfl 79 (.tmp 13) (.tmp 28) rfl w2.heap.size zs65 rfl rfl 79 _ (heap_alloc_new _ _) SZS.out HOS.out zs65_one ?_; generalize hW3 : World.setRow _ _ zs65 = W3; have M3 := Lib.hid (show MachS w2.heap.size (fun _ => 0) W3 by rw [← hW3]; exact machS_new (heap_alloc_new _ _)); have BW3 := Lib.hid (show Below w2.heap.size w2 W3 by rw [← hW3]; exact below_setRowS ((Below.refl _ _).alloc (Nat.le_refl _) _) (Nat.le_refl _)); clear hW3)
  have WR := Lib.hid (fun t => words_run (l.take t) (fun _ => 0) (fun k => ⟨Int.le_refl 0, by show (0 : Int) < 4294967296; decide⟩))
  have TK := Lib.hid (fun t (x : Q5) (h : l[t]? = some x) => show runF (l.take (t + 1)) (fun _ => 0) = stepF x (runF (l.take t) fun _ => 0) by rw [List.take_add_one, h]; exact run_snoc _ _ _)
  have bb : b0 < w2.heap.size := Nat.lt_of_lt_of_le hb0 (Nat.le_trans B1.out.size b2.size)
  have HB0 := Lib.hid (show b0 ≠ w2.heap.size by omega)
  have L3 := Lib.hid ((L1.out.later b2).later BW3.out)
  obtain ⟨ea, ec, rfl, hea⟩ := own_i own2 (by omega)
  have BB := Lib.hid (B1.out.trans (b2.mono (B1.out.size)))
  have FU := Lib.hid hf
  clear hea own2 b2 bb hf hEl
  go_loopw [14, 15, 16] (fun nv tv av wr => ∃ t : Nat, nv = .int .i64 t ∧ tv = .int .i64 0 ∧ av = .int .i64 t ∧ t ≤ l.length ∧ MachS w2.heap.size (runF (l.take t) fun _ => 0) wr ∧ W3.grownBy wr (some w2.heap.size)) (fun nv _ _ _ => fuel.toNat - (intOf nv).toNat)
  case atStart => exact ⟨0, rfl, rfl, rfl, Nat.zero_le _, M3.out, World.grownBy.refl _ _⟩
  case round =>
    obtain ⟨t, rfl, rfl, rfl, ht, hm, hg⟩ := hrel
    have hfu := FU.out
    have HM := Lib.hid hm
    have HG := Lib.hid hg
    have t2 : decide ((t : Int) < fuel) = true := by simp; omega
    have u1 := IntWalk.i64_in ((t : Int) + 1) (by omega)
    have g0 : (0 : Int) ≤ (t : Int) := by omega
    have MEAS := Lib.hid (show fuel.toNat - (t + 1) < fuel.toNat - t by omega)
    by_cases hlt : t < l.length
    · have t1 : decide ((t : Int) < (l.length : Int)) = true := by simp; omega
      have g1 : (t : Int) < (l.length : Int) := by omega
      obtain ⟨x, hx⟩ : ∃ x, l[t]? = some x := ⟨_, List.getElem?_eq_getElem hlt⟩
      obtain ⟨c0, c1, c2, c3, c4⟩ := l5_at (l5_grown L3.out HG.out HB0.out) hx
      have HX := Lib.hid hx
      have OK := Lib.hid (hok x (List.mem_of_getElem? hx))
      have HX24 := Lib.hid (show (x.o == 24) = false by have := OK.out.1.1; simp; omega)
      have HLT := Lib.hid hlt
      clear hx hm hg hfu ht
      go_wp2_with fail
      refine (do_anyS w2.heap.size x _ _ OK.out HM.out (WR.out t)).mono ?_
      rintro e wa ⟨rfl, hm4, hg4⟩
      have M4 := Lib.hid hm4
      have G4 := Lib.hid (grown_trans HG.out hg4)
      clear hm4 hg4 c0 c1 c2 c3 c4
      go_wp2_with fail
      refine (next_plain w2.heap.size b0 off cp t _ _ x wa HLT.out (by omega) HX24.out (l5_at (l5_grown L3.out G4.out HB0.out) HX.out).1).mono ?_
      rintro e wb ⟨rfl, hbl⟩
      have M5 := Lib.hid (M4.out.grown hbl)
      have G5 := Lib.hid (grown_trans G4.out (grown_below hbl))
      clear hbl
      go_wp2_with fail
      exact ⟨⟨t + 1, by push_cast; rfl, rfl, by push_cast; rfl, by omega, by rw [TK.out t x HX.out]; exact M5.out, G5.out⟩, by simpa [intOf] using MEAS.out⟩
    · obtain rfl : t = l.length := by omega
      have t1 : decide ((l.length : Int) < (l.length : Int)) = false := by simp
      rw [List.take_length] at HM
      clear hm hg hfu ht t2
      obtain ⟨i0, hi0, hz0, hz1, hz2⟩ := info_parts info_u32
      have NEWS := Lib.hid (show ∀ j u, (cellsF (runF l fun _ => 0))[j]? = some u → wr.cell? ((⟨w2.heap.size, 0, none⟩ : Addr).add j) = some u from fun j u hj => by
        obtain ⟨hjl, _⟩ := List.getElem?_eq_some_iff.1 hj
        rw [cellsF_len] at hjl
        rw [cellsF_at _ hjl] at hj
        cases hj
        have := HM.out.v j hjl
        rw [add_at, Nat.zero_add]; exact this)
      have ONEC := Lib.hid (show ∀ u ∈ cellsF (runF l fun _ => 0), u.oneCell' = true from fun u hu => by
        unfold cellsF at hu
        obtain ⟨k, _, rfl⟩ := List.mem_map.1 hu
        rfl)
      have BW := Lib.hid (show Below w.heap.size w wr from ((BB.out.trans (BW3.out.mono BB.out.size))).trans ⟨HG.out.os, HG.out.tape, HG.out.output, HG.out.size, fun i hi => HG.out.block i (Nat.lt_of_lt_of_le hi (Nat.le_trans BB.out.size BW3.out.size)) (fun e => by cases e; have := BB.out.size; omega)⟩)
      have BAS := Lib.hid BW.out.size
      go_wp2_with (at_builtin; refine wpList_append_own _ rfl (.const (.slice none 0 0)) (.tmp 52) 33 rfl w.heap.size 37 i0 (.int .u32 0) 1 4 Try.underlying33 hi0 hz0 hz1 hz2 rfl (by decide) (.slice none 0 0) 0 [] rfl (World.ownsRow_nil _ _ _ _) ⟨w2.heap.size, 0, none⟩ 64 64 (cellsF (runF l fun _ => 0)) rfl (by rw [cellsF_len]) NEWS.out ONEC.out (by decide) (by decide) BAS.out ?_; intro v7 w7 hown hgrow hn7)
      have hg7 : Below wr.heap.size wr w7 := ⟨hgrow.os, hgrow.tape, hgrow.output, hgrow.size, fun i hi => hgrow.block i hi (by simp [Value.ownBlock])⟩
      have HG7 := Lib.hid hg7
      have HOWN := Lib.hid hown
      clear hg7 hown hgrow hn7
      (try simp only [Exit.inBlock, Exit.then])
      refine bodyPost_ret (res_four rfl _ _ _) rfl ?_
      exact ⟨⟨v7, rfl, by simpa using HOWN.out⟩, BW.out.trans (HG7.out.mono BW.out.size)⟩
end Go.Proofs.Ytghclbeoabkgcaa
