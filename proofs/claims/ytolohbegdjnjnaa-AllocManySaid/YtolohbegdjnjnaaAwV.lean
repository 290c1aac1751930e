/- Contract of pintleref17.Weigh. -/
import Derived.Test.YtolohbegdjnjnaaAwT
import Derived.Deep.RegionHeld3
namespace Go.Proofs.Ytolohbegdjnjnaa
open Go Go.RowKit
set_option linter.unusedVariables false

def RgRel (w w2 : World) (l : List Q5) (P T : List Int) (i : Value) (wr : World) : Prop := ∃ (k d : Nat) (W : List Int), k ≤ l.length ∧ i = .int .i64 k ∧ StW l P k d ∧ GoodW W ∧ weighR l P (l.drop k) k d W = T ∧ WRow wr w.heap.size w.heap.size W ∧ w2.grownBy wr (some w.heap.size)
theorem rg_next {w w2 wn : World} {l : List Q5} {P T : List Int} {i : Value} {k d : Nat} {W : List Int} {x : Q5} (hx : l[k]? = some x) (hlt : k < l.length) (hst : StW l P (k + 1) (dNext x d)) (hgood : GoodW W)
    (hT : weighR l P (l.drop k) k d W = T) (hrow : WRow wn w.heap.size w.heap.size (foldW W (varsAt l P k x) (8 ^ dIn x d))) (hg : w2.grownBy wn (some w.heap.size)) (hi : i = .int .i64 ((k + 1 : Nat) : Int)) : RgRel w w2 l P T i wn :=
  ⟨k + 1, dNext x d, _, by omega, hi, hst, good_fold hgood _ _, by rw [← hT, weighR_next hx], hrow, hg⟩
theorem own_lower {w : World} {b b' : Nat} {v : Value} {l : List Int} (h : OwnI w b v l) (hb : b' ≤ b) : OwnI w b' v l := by
  obtain ⟨h1, h2 | ⟨g, cap, cur, hv, hg, h3⟩⟩ := h
  · exact ⟨h1, Or.inl h2⟩
  · exact ⟨h1, Or.inr ⟨g, cap, cur, hv, by omega, h3⟩⟩
theorem va_list00 {l : List Q5} {P : List Int} {k : Nat} {x : Q5} (h1 : writesS x = -1) (h2 : x.o ≠ 24) : varsAt l P k x = readsS x := by simp [varsAt, h1, h2]
theorem va_list10 {l : List Q5} {P : List Int} {k D : Nat} {x : Q5} (h1 : writesS x = (D : Int)) (h2 : x.o ≠ 24) : varsAt l P k x = readsS x ++ [(D : Int)] := by
  unfold varsAt
  rw [h1, if_neg (by omega), if_neg h2, List.append_nil]
theorem va_list01 {l : List Q5} {P : List Int} {k q : Nat} {x y : Q5} (h1 : writesS x = -1) (h2 : x.o = 24) (hq : P[k]? = some (q : Int)) (hy : l[q]? = some y) : varsAt l P k x = readsS x ++ [y.d] := by
  unfold varsAt
  rw [h1, if_pos rfl, if_pos h2, List.nil_append, List.getD_eq_getElem?_getD, hq, Option.getD_some, Int.toNat_natCast, dOf_at hy]

theorem vars_bd {l : List Q5} {P : List Int} {k : Nat} {x : Q5} (hP : endsS l = some P) (hc : ∀ x ∈ l, canS x = true) (hx : l[k]? = some x) : ∀ v ∈ varsAt l P k x, 0 ≤ v ∧ v < 64 := by
  intro v hv
  unfold varsAt at hv
  rcases List.mem_append.1 hv with h | h
  · exact rd_bd h
  · rcases List.mem_append.1 h with h | h
    · split at h
      · simp at h
      · rename_i hne
        simp at h
        rcases writes_bd (x := x) with g | g
        · exact absurd g hne
        · omega
    · split at h
      · rename_i h24
        obtain ⟨q, y, hq, hy⟩ := end_at hP hx h24
        rw [List.getD_eq_getElem?_getD, hq, Option.getD_some, Int.toNat_natCast, dOf_at hy] at h
        simp at h
        have := can_d (hc y (List.mem_of_getElem? hy))
        omega
      · simp at h

set_option maxRecDepth 100000 in
set_option maxHeartbeats 3000000 in
theorem rweigh_any (a : Option Addr) (c : Nat) (l : List Q5) (w : World) (hl : L5 w a l) (hwf : ∀ x ∈ l, x.wf) :
    Calls Try.prog 21 #[.slice a l.length c] w (fun e w' => ∃ g, e = .returned (.slice (some ⟨g, 0, none⟩) 64 64) ∧ WRow w' w.heap.size g (weighS l) ∧ Below w.heap.size w w') := by
  obtain ⟨i0, hi, hz0, hz1, hz2⟩ := info_parts info_int
  have hlen := hl.1
  have hmk := fun W => run_make_row' (P := Try.prog) 49 3 (.int .i64 0) 8 Try.underlying49 info_int rfl .i64 .i64 64 (by omega) (by omega) W
  have ow0 : WRow (w.alloc (.cells (madeCells #[Value.int .i64 0] 64) 3)) w.heap.size w.heap.size (List.replicate 64 0) := by
    unfold WRow
    rw [← made64]
    exact World.ownsRow_lit (base := w.heap.size) (size := 1) (e := 3) w (madeCells #[Value.int .i64 0] 64) 64 (Nat.le_refl _) (by simp only [maxLen]; omega) (by rw [size_madeCells])
  push_cast at hmk
  have OW0 := Lib.hid ow0
  have HL := Lib.hid hl
  have HW := Lib.hid hwf
  have B0 : Below w.heap.size w (w.alloc (.cells (madeCells #[Value.int .i64 0] 64) 3)) := (Below.refl _ _).alloc (Nat.le_refl _) _
  have HB0 := Lib.hid B0
  have L0 := Lib.hid (hl.later B0)
  have S0 : (w.alloc (.cells (madeCells #[Value.int .i64 0] 64) 3)).heap.size = w.heap.size + 1 := by simp
  have HS0 := Lib.hid S0
  clear hl ow0 B0 S0 hwf
  go_enter Try.func21, Try.ntmps21
  go_wp2_with fail
  clear hmk
  generalize w.alloc (.cells (madeCells #[Value.int .i64 0] 64) 3) = W0 at *
  have hS0 := HS0.out
  refine (rends_any a c l W0 L0.out).mono ?_
  unfold REndsPost
  rintro e w1 ⟨hends, b1⟩
  have ENDS := Lib.hid hends
  have H1 := Lib.hid (HB0.out.trans (b1.mono HB0.out.size))
  have R1 := Lib.hid (own_later OW0.out b1)
  have L1 := Lib.hid (L0.out.later b1)
  have hs1 := b1.size
  clear b1 hends
  by_cases hc : checkS l = 0
  · obtain ⟨hlen2, hcan, hcnt, P, hP⟩ := check_good hc
    have CAN := Lib.hid hcan
    have CNT := Lib.hid hcnt
    have HP := Lib.hid hP
    have WG := Lib.hid (weigh_good hc hP)
    have EB := Lib.hid (ends_back hP)
    have hc' := hc
    clear hcan hcnt
    rw [hP] at ENDS
    obtain ⟨v, rfl, hown⟩ := ENDS.out
    obtain ⟨a2, c2, rfl, hI2⟩ := own_iC hown
    have I2 := Lib.hid hI2
    have PL := Lib.hid EB.out.1
    clear ENDS hown hI2 hP hc
    go_wp2_with fail
    refine (rcheck_any a c l w1 L1.out HW.out).mono ?_
    rw [hc']
    rintro e w2 ⟨rfl, b2⟩
    have H2 := Lib.hid (H1.out.trans (b2.mono H1.out.size))
    have R2 := Lib.hid (own_later R1.out b2)
    have hs2 := b2.size
    have HB2 := Lib.hid b2
    clear b2 hc'
    go_wp2_with fail
    go_loopw [6] (fun i wr => RgRel w w2 l P (weighS l) i wr) (fun i _ => l.length - (intOf i).toNat)
    case atStart => exact ⟨0, 0, _, Nat.zero_le _, rfl, stW_0 HP.out, good_zero, WG.out.symm, R2.out, World.grownBy.refl _ _⟩
    case round =>
      obtain ⟨k, d, W, hk, rfl, hst, hgood, hT, hrow, hg⟩ := hrel
      obtain ⟨wo, rfl⟩ : ∃ wo : World, wo = wr := ⟨_, rfl⟩
      have GR := Lib.hid hgood
      have TT := Lib.hid hT
      have RW := Lib.hid hrow
      have HG := Lib.hid hg
      by_cases hlt : k < l.length
      · obtain ⟨x, hx⟩ := lookup hlt
        obtain ⟨hst2, hdi, hd24⟩ := stW_next hst hx CNT.out
        have ST := Lib.hid hst2
        have HX := Lib.hid hx
        have hbo := grown_row H2.out hg (Nat.le_refl _)
        have HBo := Lib.hid hbo
        have hso := hg.size
        rcases I2.out with hnil | ⟨g2, rfl, hg21, hg22, hc2⟩
        · have := PL.out; rw [hnil] at this; simp at this; omega
        have CP := Lib.hid hc2
        have TM := Lib.hid (show ∀ W', Below wo.heap.size wo W' → Calls Try.prog 52 #[.slice a l.length c, .slice (some ⟨g2, 0, none⟩) P.length c2, .int .i64 k] W' (fun e w' => e = .returned (.int .i64 ((8 ^ dIn x d : Nat) : Int)) ∧ W' = w') from fun W' hb =>
          times_any a _ c c2 l P k d x W' (HL.out.later (HBo.out.trans (hb.mono HBo.out.size))) PL.out (Or.inr ⟨g2, rfl, by have := hb.size; omega, fun j z hz => (hb.cell (by show g2 < _; omega)).trans (hg.cell ((HB2.out.cell hg22).trans (hc2 j z hz)) (by simp; omega))⟩) hlt hx hst)
        have hI : -2147483648 ≤ x.i ∧ x.i ≤ 2147483647 := by
          have := (HW.out x (List.mem_of_getElem? hx)).2.2.2.2
          simpa [Lit.wf, IntKind.min, IntKind.max, IntKind.signed, IntKind.bits] using this
        have WB := Lib.hid (writes_bd (x := x))
        have rl := rd_len x
        have RB := Lib.hid (fun d => rd_bd (x := x) (d := d))
        have WD := Lib.hid (fun h24 : x.o = 24 => writes_m (x := x) (by rw [h24]; rfl))
        have V00 := Lib.hid (va_list00 (l := l) (P := P) (k := k) (x := x))
        have V10 := Lib.hid (fun D => va_list10 (l := l) (P := P) (k := k) (D := D) (x := x))
        have V01 := Lib.hid (fun (q : Nat) (y : Q5) => va_list01 (l := l) (P := P) (k := k) (q := q) (y := y) (x := x))
        have VB := Lib.hid (show ∀ v ∈ varsAt l P k x, 0 ≤ v ∧ v < 64 from vars_bd HP.out CAN.out hx)
        obtain ⟨n, hn⟩ : ∃ n : Nat, n = 8 ^ dIn x d := ⟨_, rfl⟩
        have hnb : n ≤ 1073741824 := by rw [hn]; exact pow8_le hdi
        rw [← hn] at TM
        have HN := Lib.hid hn
        obtain ⟨xo, xd, xa, xb, xi⟩ := x
        have WA := Lib.hid (fun W => rwrites_any xo xd xa xb xi W hI)
        have RC := Lib.hid (show ∀ W', Below wo.heap.size wo W' → Calls Try.prog 53 #[.agg #[.int .i64 xo, .int .i64 xd, .int .i64 xa, .int .i64 xb, .int .i32 xi]] W' (fun e w' => ∃ v, e = .returned v ∧ OwnI w' wo.heap.size v (readsS ⟨xo, xd, xa, xb, xi⟩) ∧ Below W'.heap.size W' w') from fun W' hb =>
          (rreads_any xo xd xa xb xi W' hI).mono (fun e w' h => by obtain ⟨v, h1, h2, h3⟩ := h; exact ⟨v, h1, own_lower h2 hb.size, h3⟩))
        obtain ⟨_, hnil | ⟨bb, off, rfl, hbb, hcl⟩⟩ := HL.out
        · rw [hnil] at hlt; simp at hlt
        have CL := Lib.hid hcl
        have hbz : bb < wo.heap.size := by omega
        have hg2o : g2 < wo.heap.size := by omega
        obtain ⟨q0, q1, q2, q3, q4⟩ := hcl k _ hx
        have p0 := (hbo.cell hbb).trans q0
        have p1 := (hbo.cell hbb).trans q1
        have p2 := (hbo.cell hbb).trans q2
        have p3 := (hbo.cell hbb).trans q3
        have p4 := (hbo.cell hbb).trans q4
        generalize hrr : readsS ⟨xo, xd, xa, xb, xi⟩ = r at *
        generalize hwr1 : writesS ⟨xo, xd, xa, xb, xi⟩ = wr1 at *
        have SO := And.intro p0 (And.intro p1 (And.intro p2 (And.intro p3 (And.intro p4 (Below.refl wo.heap.size wo)))))
        have SD := And.intro p0 (And.intro p1 (And.intro p2 (And.intro p3 (And.intro p4 (Below.refl wo.heap.size wo).drew))))
        clear q0 q1 q2 q3 q4 hrr hwr1 hcl hc2 hx hst hst2 hgood hT hrow hg hbo hdi hd24 hn hI
        go_wp2_with fail
        go_region_held3 (fun w' => w'.cell? ⟨bb, off + k * 5, none⟩ = some (.int .i64 xo) ∧ w'.cell? ⟨bb, off + k * 5 + 1, none⟩ = some (.int .i64 xd) ∧ w'.cell? ⟨bb, off + k * 5 + 2, none⟩ = some (.int .i64 xa) ∧ w'.cell? ⟨bb, off + k * 5 + 3, none⟩ = some (.int .i64 xb) ∧ w'.cell? ⟨bb, off + k * 5 + 4, none⟩ = some (.int .i32 xi) ∧ Below wo.heap.size wo w')
          (first | (with_reducible assumption) | (with_reducible exact SO) | (exact SD) | (obtain ⟨s0, s1, s2, s3, s4, s5⟩ := ‹_ ∧ _ ∧ _ ∧ _ ∧ _ ∧ Below wo.heap.size wo _›; first | exact ⟨(hbl.cell (by show bb < _; have := s5.size; omega)).trans s0, (hbl.cell (by show bb < _; have := s5.size; omega)).trans s1, (hbl.cell (by show bb < _; have := s5.size; omega)).trans s2, (hbl.cell (by show bb < _; have := s5.size; omega)).trans s3, (hbl.cell (by show bb < _; have := s5.size; omega)).trans s4, s5.trans (hbl.mono s5.size)⟩ | exact ⟨s0, s1, s2, s3, s4, s5.drew⟩))
          (first
          | (go_at_call 52; with_reducible refine (TM.out _ (by obtain ⟨s0, s1, s2, s3, s4, s5⟩ := ‹_ ∧ _ ∧ _ ∧ _ ∧ _ ∧ Below wo.heap.size wo _›; first | with_reducible exact s5 | with_reducible exact s5.drew)).mono ?_; rintro e w8 ⟨rfl, rfl⟩)
          | (go_at_call 53; with_reducible refine (RC.out _ (by obtain ⟨s0, s1, s2, s3, s4, s5⟩ := ‹_ ∧ _ ∧ _ ∧ _ ∧ _ ∧ Below wo.heap.size wo _›; first | with_reducible exact s5 | with_reducible exact s5.drew)).mono ?_; rintro e w9 ⟨v3, rfl, oi, hbl⟩))
        clear SO SD
        obtain ⟨s0, s1, s2, s3, s4, s5⟩ := ‹_ ∧ _ ∧ _ ∧ _ ∧ _ ∧ Below wo.heap.size wo _›
        have HB9 := Lib.hid s5
        have OI := Lib.hid oi
        have hs9 := s5.size
        clear hbl oi s5
        go_wp2_with fail
        refine (WA.out _).mono ?_
        by_cases h24 : xo = 24
        · have H24 := Lib.hid h24
          have t24 : (xo == 24) = true := by simp [h24]
          obtain rfl : wr1 = -1 := WD.out h24
          obtain ⟨q, y, hPq, hlq⟩ := end_at HP.out HX.out h24
          have hyd := can_d (CAN.out y (List.mem_of_getElem? hlq))
          obtain ⟨D, hDy⟩ : ∃ D : Nat, y.d = (D : Int) := ⟨y.d.toNat, by omega⟩
          have hD : D < 64 := by omega
          have hq : q < l.length := by
            rcases Nat.lt_or_ge q l.length with g | g
            · exact g
            · rw [List.getElem?_eq_none g] at hlq; cases hlq
          have hkP : k < P.length := by rw [PL.out]; exact hlt
          have V := Lib.hid (V01.out q y (by first | exact trivial | rfl) h24 hPq hlq)
          rw [hDy] at V
          rintro e w10 ⟨rfl, hb10⟩
          have HB10 := Lib.hid (HB9.out.trans (hb10.mono HB9.out.size))
          have o10 : OwnI w10 wo.heap.size v3 r := own_later OI.out hb10
          have O10 := Lib.hid o10
          have VO := Lib.hid o10.lt
          have k2 := (HB10.out.cell hg2o).trans (HG.out.cell ((HB2.out.cell hg22).trans (CP.out k _ hPq)) (by simp; omega))
          have k3 := (HB10.out.cell hbz).trans ((HBo.out.cell hbb).trans (CL.out q y hlq).2.1)
          rw [hDy] at k3
          have f0 := (HB10.out.cell hbz).trans p0
          have hs10 := HB10.out.size
          have E1 := Lib.hid (show r.length + 1 ≤ maxLen by simp only [maxLen]; omega)
          clear hb10 o10
          clear h24 hPq hlq
          go_wp2_with ((at_builtin; refine wpList_append_own _ rfl (.tmp 53) (.tmp 62) 49 rfl wo.heap.size 3 i0 (.int .i64 0) 1 8 Try.underlying49 hi hz0 hz1 hz2 rfl (by decide) _ _ _ rfl (O10.out.alloc _) ⟨_, 0, none⟩ 1 1 [ivn D] rfl rfl (news_n _ D _ rfl) ivn_one E1.out (by omega) (by simp; omega) ?_; intro vq wq hown hgq hnq; have HBq := Lib.hid (below_grown' (HB10.out.alloc (by omega) _) hgq (fun q hq => (VO.out q hq).1)); have f1 := (HBq.out.cell hbz).trans p0))
          have OQ := Lib.hid (show OwnI wq wo.heap.size vq (r ++ [(D : Int)]) by
            unfold OwnI
            rw [List.length_append, List.map_append]
            exact hown)
          obtain ⟨u, hu⟩ : ∃ u, u = r ++ [(D : Int)] := ⟨_, rfl⟩
          rw [← hu] at OQ V
          have UE := V
          have ul : u.length ≤ 4 := by rw [hu]; simp; omega
          clear hu hown hgq hnq
          obtain ⟨a4, c4, rfl, h4⟩ := own_iC OQ.out
          have I4 := Lib.hid h4
          have UB := Lib.hid (show ∀ v ∈ u, 0 ≤ v ∧ v < 64 by rw [← UE.out]; exact VB.out)
          have RQ := Lib.hid (own_later RW.out HBq.out)
          have GQ := Lib.hid (HG.out.trans (grown_of_below HBq.out (some w.heap.size)))
          have hsq := HBq.out.size
          clear h4
          go_wp2_with fail
          go_loopw [10] (fun i wi => ∃ m : Nat, m ≤ u.length ∧ i = .int .i64 m ∧ WRow wi w.heap.size w.heap.size (foldW W (u.take m) n) ∧ wq.grownBy wi (some w.heap.size)) (fun i _ => u.length - (intOf i).toNat)
          case atStart => exact ⟨0, Nat.zero_le _, rfl, RQ.out, World.grownBy.refl _ _⟩
          case round =>
            obtain ⟨m, hm, rfl, own3, hg3⟩ := hrel
            have HG3 := Lib.hid hg3
            have hgi := hg3.size
            by_cases hmlt : m < u.length
            · obtain ⟨dd, hdd⟩ := lookup hmlt
              obtain ⟨hd0, hd1⟩ := UB.out dd (List.mem_of_getElem? hdd)
              obtain ⟨D, rfl⟩ : ∃ D : Nat, dd = (D : Int) := ⟨dd.toNat, by omega⟩
              have hD : D < 64 := by omega
              rcases I4.out with hnil | ⟨g4, rfl, hg41, hg42, hc4⟩
              · rw [hnil] at hmlt; simp at hmlt
              have cg := hg3.cell (hc4 m _ hdd) (by simp; omega)
              obtain ⟨z, hz, hzz, hzz0, hzz1⟩ := wrow_at (good_fold GR.out (u.take m) n) hD
              have hne : g4 ≠ w.heap.size := by omega
              have HNX := Lib.hid (foldW_next (W := W) hdd n)
              have HS := Lib.hid (wrow_set (n := n) hz)
              unfold WRow at own3
              have cd := own3.cellAt D (by omega)
              rw [hzz] at cd
              unfold iv at cd
              have fz := own3.frozenAt D
              have hwi := (own3.lt w.heap.size rfl).2
              have OW := Lib.hid own3
              clear own3 hdd hc4 hg3 hzz hz
              have hDl : D < ((foldW W (u.take m) n).map iv).length := by rw [List.length_map, (good_fold GR.out (u.take m) n).1]; exact hD
              obtain ⟨W1, hW1⟩ : ∃ W1, W1 = (wr.setCell ⟨w.heap.size, D, none⟩ (.int .i64 (z + (n : Int)))).drew := ⟨_, rfl⟩
              have hdr : Below (wr.setCell ⟨w.heap.size, D, none⟩ (.int .i64 (z + (n : Int)))).heap.size (wr.setCell ⟨w.heap.size, D, none⟩ (.int .i64 (z + (n : Int)))) W1 := by rw [hW1]; exact (Below.refl _ _).drew
              have st1 := OW.out.stored D (iv (z + (n : Int)))
              have o1 := own_later st1.1 hdr
              have g1 : wr.grownBy W1 (some w.heap.size) := st1.2.trans (grown_of_below hdr _)
              have cg1 := g1.cell cg (by simp; omega)
              have cd1 := o1.cellAt D (by omega)
              rw [List.getElem?_set_self hDl] at cd1
              unfold iv at cd1
              have fz1 := o1.frozenAt D
              have hw1 := (o1.lt w.heap.size rfl).2
              have st2 := o1.stored D (iv 1000000000)
              rw [List.set_set] at st2
              have G1 := Lib.hid g1
              have O1 := Lib.hid o1
              have ST2 := Lib.hid st2
              have HW1 := Lib.hid hW1
              clear hW1 hdr st1 o1 g1 st2
              go_wp2_with fail
              go_region
              rw [← HW1.out]
              clear HW1 cd cg fz hwi
              by_cases hbig : 1000000000 < z + (n : Int)
              · have tb : decide (1000000000 < z + (n : Int)) = true := by simpa using hbig
                have e := HS.out
                rw [show min 1000000000 (z + (n : Int)) = 1000000000 by omega] at e
                have E := Lib.hid e
                clear e
                go_wp2_with fail
                refine ⟨⟨m + 1, by omega, rfl, ?_, (HG3.out.trans G1.out).trans ST2.out.2⟩, by simp [intOf]; omega⟩
                rw [HNX.out]
                unfold WRow
                rw [← E.out]
                exact ST2.out.1
              · have tb : decide (1000000000 < z + (n : Int)) = false := by simpa using hbig
                have e := HS.out
                rw [show min 1000000000 (z + (n : Int)) = z + (n : Int) by omega] at e
                have E := Lib.hid e
                clear e
                go_wp2_with fail
                refine ⟨⟨m + 1, by omega, rfl, ?_, HG3.out.trans G1.out⟩, by simp [intOf]; omega⟩
                rw [HNX.out]
                unfold WRow
                rw [← E.out]
                exact O1.out
            · obtain rfl : m = u.length := by omega
              rw [List.take_length] at own3
              have R4 := Lib.hid own3
              clear own3 hg3 hmlt
              go_wp2_with fail
              refine ⟨rg_next HX.out hlt ST.out GR.out TT.out ?_ (GQ.out.trans HG3.out) rfl, by simp [intOf]; omega⟩
              rw [UE.out, ← HN.out]
              exact R4.out
        · have N24 := Lib.hid h24
          have t24 : (xo == 24) = false := by simp [h24]
          rcases WB.out with rfl | ⟨hw0, hw1⟩
          · rintro e w10 ⟨rfl, hb10⟩
            have HB10 := Lib.hid (HB9.out.trans (hb10.mono HB9.out.size))
            have o10 : OwnI w10 wo.heap.size v3 r := own_later OI.out hb10
            have O10 := Lib.hid o10
            have VO := Lib.hid o10.lt
            have f0 := (HB10.out.cell hbz).trans p0
            have hs10 := HB10.out.size
            have E1 := Lib.hid (show r.length + 1 ≤ maxLen by simp only [maxLen]; omega)
            clear hb10 o10
            have HBq := HB10
            have OQ := O10
            have UE := Lib.hid (V00.out (by first | exact trivial | rfl) h24)
            clear h24
            have ul : r.length ≤ 4 := by omega
            obtain ⟨u, hu⟩ : ∃ u, u = r := ⟨_, rfl⟩
            subst hu
            obtain ⟨wq, hwq⟩ : ∃ wq, wq = w10 := ⟨_, rfl⟩
            subst hwq
            obtain ⟨a4, c4, rfl, h4⟩ := own_iC OQ.out
            have I4 := Lib.hid h4
            have UB := Lib.hid (show ∀ v ∈ u, 0 ≤ v ∧ v < 64 by rw [← UE.out]; exact VB.out)
            have RQ := Lib.hid (own_later RW.out HBq.out)
            have GQ := Lib.hid (HG.out.trans (grown_of_below HBq.out (some w.heap.size)))
            have hsq := HBq.out.size
            clear h4
            go_wp2_with fail
            go_loopw [10] (fun i wi => ∃ m : Nat, m ≤ u.length ∧ i = .int .i64 m ∧ WRow wi w.heap.size w.heap.size (foldW W (u.take m) n) ∧ wq.grownBy wi (some w.heap.size)) (fun i _ => u.length - (intOf i).toNat)
            case atStart => exact ⟨0, Nat.zero_le _, rfl, RQ.out, World.grownBy.refl _ _⟩
            case round =>
              obtain ⟨m, hm, rfl, own3, hg3⟩ := hrel
              have HG3 := Lib.hid hg3
              have hgi := hg3.size
              by_cases hmlt : m < u.length
              · obtain ⟨dd, hdd⟩ := lookup hmlt
                obtain ⟨hd0, hd1⟩ := UB.out dd (List.mem_of_getElem? hdd)
                obtain ⟨D, rfl⟩ : ∃ D : Nat, dd = (D : Int) := ⟨dd.toNat, by omega⟩
                have hD : D < 64 := by omega
                rcases I4.out with hnil | ⟨g4, rfl, hg41, hg42, hc4⟩
                · rw [hnil] at hmlt; simp at hmlt
                have cg := hg3.cell (hc4 m _ hdd) (by simp; omega)
                obtain ⟨z, hz, hzz, hzz0, hzz1⟩ := wrow_at (good_fold GR.out (u.take m) n) hD
                have hne : g4 ≠ w.heap.size := by omega
                have HNX := Lib.hid (foldW_next (W := W) hdd n)
                have HS := Lib.hid (wrow_set (n := n) hz)
                unfold WRow at own3
                have cd := own3.cellAt D (by omega)
                rw [hzz] at cd
                unfold iv at cd
                have fz := own3.frozenAt D
                have hwi := (own3.lt w.heap.size rfl).2
                have OW := Lib.hid own3
                clear own3 hdd hc4 hg3 hzz hz
                have hDl : D < ((foldW W (u.take m) n).map iv).length := by rw [List.length_map, (good_fold GR.out (u.take m) n).1]; exact hD
                obtain ⟨W1, hW1⟩ : ∃ W1, W1 = (wr.setCell ⟨w.heap.size, D, none⟩ (.int .i64 (z + (n : Int)))).drew := ⟨_, rfl⟩
                have hdr : Below (wr.setCell ⟨w.heap.size, D, none⟩ (.int .i64 (z + (n : Int)))).heap.size (wr.setCell ⟨w.heap.size, D, none⟩ (.int .i64 (z + (n : Int)))) W1 := by rw [hW1]; exact (Below.refl _ _).drew
                have st1 := OW.out.stored D (iv (z + (n : Int)))
                have o1 := own_later st1.1 hdr
                have g1 : wr.grownBy W1 (some w.heap.size) := st1.2.trans (grown_of_below hdr _)
                have cg1 := g1.cell cg (by simp; omega)
                have cd1 := o1.cellAt D (by omega)
                rw [List.getElem?_set_self hDl] at cd1
                unfold iv at cd1
                have fz1 := o1.frozenAt D
                have hw1 := (o1.lt w.heap.size rfl).2
                have st2 := o1.stored D (iv 1000000000)
                rw [List.set_set] at st2
                have G1 := Lib.hid g1
                have O1 := Lib.hid o1
                have ST2 := Lib.hid st2
                have HW1 := Lib.hid hW1
                clear hW1 hdr st1 o1 g1 st2
                go_wp2_with fail
                go_region
                rw [← HW1.out]
                clear HW1 cd cg fz hwi
                by_cases hbig : 1000000000 < z + (n : Int)
                · have tb : decide (1000000000 < z + (n : Int)) = true := by simpa using hbig
                  have e := HS.out
                  rw [show min 1000000000 (z + (n : Int)) = 1000000000 by omega] at e
                  have E := Lib.hid e
                  clear e
                  go_wp2_with fail
                  refine ⟨⟨m + 1, by omega, rfl, ?_, (HG3.out.trans G1.out).trans ST2.out.2⟩, by simp [intOf]; omega⟩
                  rw [HNX.out]
                  unfold WRow
                  rw [← E.out]
                  exact ST2.out.1
                · have tb : decide (1000000000 < z + (n : Int)) = false := by simpa using hbig
                  have e := HS.out
                  rw [show min 1000000000 (z + (n : Int)) = z + (n : Int) by omega] at e
                  have E := Lib.hid e
                  clear e
                  go_wp2_with fail
                  refine ⟨⟨m + 1, by omega, rfl, ?_, HG3.out.trans G1.out⟩, by simp [intOf]; omega⟩
                  rw [HNX.out]
                  unfold WRow
                  rw [← E.out]
                  exact O1.out
              · obtain rfl : m = u.length := by omega
                rw [List.take_length] at own3
                have R4 := Lib.hid own3
                clear own3 hg3 hmlt
                go_wp2_with fail
                refine ⟨rg_next HX.out hlt ST.out GR.out TT.out ?_ (GQ.out.trans HG3.out) rfl, by simp [intOf]; omega⟩
                rw [UE.out, ← HN.out]
                exact R4.out
          · obtain ⟨D, rfl⟩ : ∃ D : Nat, wr1 = (D : Int) := ⟨wr1.toNat, by omega⟩
            have hD : D < 64 := by omega
            have tge : decide (0 ≤ (D : Int)) = true := by simp
            have V := Lib.hid (V10.out D (by first | exact trivial | rfl) h24)
            clear h24
            rintro e w10 ⟨rfl, hb10⟩
            have HB10 := Lib.hid (HB9.out.trans (hb10.mono HB9.out.size))
            have o10 : OwnI w10 wo.heap.size v3 r := own_later OI.out hb10
            have O10 := Lib.hid o10
            have VO := Lib.hid o10.lt
            have f0 := (HB10.out.cell hbz).trans p0
            have hs10 := HB10.out.size
            have E1 := Lib.hid (show r.length + 1 ≤ maxLen by simp only [maxLen]; omega)
            clear hb10 o10
            go_wp2_with ((at_builtin; refine wpList_append_own _ rfl (.tmp 43) (.tmp 45) 49 rfl wo.heap.size 3 i0 (.int .i64 0) 1 8 Try.underlying49 hi hz0 hz1 hz2 rfl (by decide) _ _ _ rfl (O10.out.alloc _) ⟨_, 0, none⟩ 1 1 [ivn D] rfl rfl (news_n _ D _ rfl) ivn_one E1.out (by omega) (by simp; omega) ?_; intro vq wq hown hgq hnq; have HBq := Lib.hid (below_grown' (HB10.out.alloc (by omega) _) hgq (fun q hq => (VO.out q hq).1)); have f1 := (HBq.out.cell hbz).trans p0))
            have OQ := Lib.hid (show OwnI wq wo.heap.size vq (r ++ [(D : Int)]) by
              unfold OwnI
              rw [List.length_append, List.map_append]
              exact hown)
            obtain ⟨u, hu⟩ : ∃ u, u = r ++ [(D : Int)] := ⟨_, rfl⟩
            rw [← hu] at OQ V
            have UE := V
            have ul : u.length ≤ 4 := by rw [hu]; simp; omega
            clear hu hown hgq hnq f0
            obtain ⟨a4, c4, rfl, h4⟩ := own_iC OQ.out
            have I4 := Lib.hid h4
            have UB := Lib.hid (show ∀ v ∈ u, 0 ≤ v ∧ v < 64 by rw [← UE.out]; exact VB.out)
            have RQ := Lib.hid (own_later RW.out HBq.out)
            have GQ := Lib.hid (HG.out.trans (grown_of_below HBq.out (some w.heap.size)))
            have hsq := HBq.out.size
            clear h4
            go_wp2_with fail
            go_loopw [10] (fun i wi => ∃ m : Nat, m ≤ u.length ∧ i = .int .i64 m ∧ WRow wi w.heap.size w.heap.size (foldW W (u.take m) n) ∧ wq.grownBy wi (some w.heap.size)) (fun i _ => u.length - (intOf i).toNat)
            case atStart => exact ⟨0, Nat.zero_le _, rfl, RQ.out, World.grownBy.refl _ _⟩
            case round =>
              obtain ⟨m, hm, rfl, own3, hg3⟩ := hrel
              have HG3 := Lib.hid hg3
              have hgi := hg3.size
              by_cases hmlt : m < u.length
              · obtain ⟨dd, hdd⟩ := lookup hmlt
                obtain ⟨hd0, hd1⟩ := UB.out dd (List.mem_of_getElem? hdd)
                obtain ⟨D, rfl⟩ : ∃ D : Nat, dd = (D : Int) := ⟨dd.toNat, by omega⟩
                have hD : D < 64 := by omega
                rcases I4.out with hnil | ⟨g4, rfl, hg41, hg42, hc4⟩
                · rw [hnil] at hmlt; simp at hmlt
                have cg := hg3.cell (hc4 m _ hdd) (by simp; omega)
                obtain ⟨z, hz, hzz, hzz0, hzz1⟩ := wrow_at (good_fold GR.out (u.take m) n) hD
                have hne : g4 ≠ w.heap.size := by omega
                have HNX := Lib.hid (foldW_next (W := W) hdd n)
                have HS := Lib.hid (wrow_set (n := n) hz)
                unfold WRow at own3
                have cd := own3.cellAt D (by omega)
                rw [hzz] at cd
                unfold iv at cd
                have fz := own3.frozenAt D
                have hwi := (own3.lt w.heap.size rfl).2
                have OW := Lib.hid own3
                clear own3 hdd hc4 hg3 hzz hz
                have hDl : D < ((foldW W (u.take m) n).map iv).length := by rw [List.length_map, (good_fold GR.out (u.take m) n).1]; exact hD
                obtain ⟨W1, hW1⟩ : ∃ W1, W1 = (wr.setCell ⟨w.heap.size, D, none⟩ (.int .i64 (z + (n : Int)))).drew := ⟨_, rfl⟩
                have hdr : Below (wr.setCell ⟨w.heap.size, D, none⟩ (.int .i64 (z + (n : Int)))).heap.size (wr.setCell ⟨w.heap.size, D, none⟩ (.int .i64 (z + (n : Int)))) W1 := by rw [hW1]; exact (Below.refl _ _).drew
                have st1 := OW.out.stored D (iv (z + (n : Int)))
                have o1 := own_later st1.1 hdr
                have g1 : wr.grownBy W1 (some w.heap.size) := st1.2.trans (grown_of_below hdr _)
                have cg1 := g1.cell cg (by simp; omega)
                have cd1 := o1.cellAt D (by omega)
                rw [List.getElem?_set_self hDl] at cd1
                unfold iv at cd1
                have fz1 := o1.frozenAt D
                have hw1 := (o1.lt w.heap.size rfl).2
                have st2 := o1.stored D (iv 1000000000)
                rw [List.set_set] at st2
                have G1 := Lib.hid g1
                have O1 := Lib.hid o1
                have ST2 := Lib.hid st2
                have HW1 := Lib.hid hW1
                clear hW1 hdr st1 o1 g1 st2
                go_wp2_with fail
                go_region
                rw [← HW1.out]
                clear HW1 cd cg fz hwi
                by_cases hbig : 1000000000 < z + (n : Int)
                · have tb : decide (1000000000 < z + (n : Int)) = true := by simpa using hbig
                  have e := HS.out
                  rw [show min 1000000000 (z + (n : Int)) = 1000000000 by omega] at e
                  have E := Lib.hid e
                  clear e
                  go_wp2_with fail
                  refine ⟨⟨m + 1, by omega, rfl, ?_, (HG3.out.trans G1.out).trans ST2.out.2⟩, by simp [intOf]; omega⟩
                  rw [HNX.out]
                  unfold WRow
                  rw [← E.out]
                  exact ST2.out.1
                · have tb : decide (1000000000 < z + (n : Int)) = false := by simpa using hbig
                  have e := HS.out
                  rw [show min 1000000000 (z + (n : Int)) = z + (n : Int) by omega] at e
                  have E := Lib.hid e
                  clear e
                  go_wp2_with fail
                  refine ⟨⟨m + 1, by omega, rfl, ?_, HG3.out.trans G1.out⟩, by simp [intOf]; omega⟩
                  rw [HNX.out]
                  unfold WRow
                  rw [← E.out]
                  exact O1.out
              · obtain rfl : m = u.length := by omega
                rw [List.take_length] at own3
                have R4 := Lib.hid own3
                clear own3 hg3 hmlt
                go_wp2_with fail
                refine ⟨rg_next HX.out hlt ST.out GR.out TT.out ?_ (GQ.out.trans HG3.out) rfl, by simp [intOf]; omega⟩
                rw [UE.out, ← HN.out]
                exact R4.out
      · obtain rfl : k = l.length := by omega
        have hTe := TT.out
        rw [weighR_end] at hTe
        have HB := Lib.hid (grown_row H2.out HG.out (Nat.le_refl _))
        have HTE := Lib.hid hTe
        clear hTe hT hst hg hgood hrow
        go_wp2_with fail
        go_ret
        exact ⟨_, rfl, by rw [← HTE.out]; exact RW.out, HB.out⟩
  · have E := Lib.hid (weigh_bad hc)
    have tc : (checkS l != 0) = true := by simpa using hc
    have HE := ENDS.out
    obtain ⟨v, b, rfl⟩ : ∃ v b, e = .returned (.tuple #[v, b]) := by
      cases h : endsS l with
      | none => rw [h] at HE; obtain ⟨v, rfl, _⟩ := HE; exact ⟨_, _, rfl⟩
      | some P => rw [h] at HE; obtain ⟨v, rfl, _⟩ := HE; exact ⟨_, _, rfl⟩
    clear hc HE ENDS
    go_wp2_with fail
    refine (rcheck_any a c l w1 L1.out HW.out).mono ?_
    rintro e w2 ⟨rfl, b2⟩
    have H2 := Lib.hid (H1.out.trans (b2.mono H1.out.size))
    have R2 := Lib.hid (own_later R1.out b2)
    clear b2
    go_wp2_with fail
    go_ret
    exact ⟨_, rfl, by rw [E.out]; exact R2.out, H2.out⟩
end Go.Proofs.Ytolohbegdjnjnaa
