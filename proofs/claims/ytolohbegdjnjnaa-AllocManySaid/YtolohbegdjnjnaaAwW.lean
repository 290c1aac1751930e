/- Contract of alloc.Weigh. -/
import Derived.Test.YtolohbegdjnjnaaAwA
namespace Go.Proofs.Ytolohbegdjnjnaa
open Go Go.RowKit
set_option linter.unusedVariables false

theorem own_iC {w : World} {base : Nat} {v : Value} {l : List Int} (h : OwnI w base v l) : ∃ a c, v = .slice a l.length c ∧ (l = [] ∨ ∃ g, a = some ⟨g, 0, none⟩ ∧ base ≤ g ∧ g < w.heap.size ∧ ∀ k x, l[k]? = some x → w.cell? ⟨g, k, none⟩ = some (.int .i64 x)) := by
  have hlt := h.lt
  have h' := h
  obtain ⟨_, ⟨hv, hn⟩ | ⟨g, cap, cur, hv, hg, hh, hc, hcm, _⟩⟩ := h
  · exact ⟨none, 0, by rw [hv, hn], Or.inl (List.eq_nil_of_length_eq_zero hn)⟩
  · refine ⟨some ⟨g, 0, none⟩, cap, hv, Or.inr ⟨g, rfl, hg, (hlt g (by rw [hv]; rfl)).2, fun k x hx => ?_⟩⟩
    have := h'.cells (g := g) (by rw [hv]; rfl) k (iv x) (by rw [List.getElem?_map, hx]; rfl)
    rw [add_at, Nat.zero_add] at this
    exact this
def WgRel (w w2 : World) (l : List Q5) (P T : List Int) (v6 i : Value) (wr : World) : Prop := ∃ (k d n : Nat) (W : List Int), k ≤ l.length ∧ i = .int .i64 k ∧ v6 = .int .i64 n ∧ n = 8 ^ d ∧ d ≤ 10 ∧ StW l P k d ∧ GoodW W ∧ weighR l P (l.drop k) k d W = T ∧ WRow wr w.heap.size w.heap.size W ∧ w2.grownBy wr (some w.heap.size)
theorem made64 : (madeCells #[Value.int .i64 0] 64).toList = (List.replicate 64 (0 : Int)).map iv := made_zero 64
theorem weigh_bad {l : List Q5} (h : checkS l ≠ 0) : weighS l = List.replicate 64 0 := by unfold weighS; rw [if_neg h]
theorem weigh_good {l : List Q5} {P : List Int} (h : checkS l = 0) (hP : endsS l = some P) : weighS l = weighR l P l 0 0 (List.replicate 64 0) := by unfold weighS; rw [if_pos h, hP]

theorem grown_row {w w1 wi : World} {H : Nat} (h : Below w.heap.size w w1) (hg : w1.grownBy wi (some H)) (hH : w.heap.size ≤ H) : Below w.heap.size w wi :=
  h.grown hg h.size (fun k hk => by cases hk; exact hH)
theorem wg_next {w w2 wn : World} {l : List Q5} {P T : List Int} {v6 i : Value} {k d n : Nat} {W : List Int} {x : Q5} (hx : l[k]? = some x) (hlt : k < l.length) (hst : StW l P (k + 1) (dNext x d)) (hgood : GoodW W)
    (hT : weighR l P (l.drop k) k d W = T) (hrow : WRow wn w.heap.size w.heap.size (foldW W (varsAt l P k x) (8 ^ dIn x d))) (hg : w2.grownBy wn (some w.heap.size)) (hv : v6 = .int .i64 (n : Int)) (hn : n = 8 ^ dNext x d) (hi : i = .int .i64 ((k + 1 : Nat) : Int)) : WgRel w w2 l P T v6 i wn := by
  have h10 : dNext x d ≤ 10 := by obtain ⟨_, _, _, _, h, _⟩ := hst; exact h
  exact ⟨k + 1, dNext x d, n, _, by omega, hi, hv, hn, h10, hst, good_fold hgood _ _, by rw [← hT, weighR_next hx], hrow, hg⟩
theorem va_00 {l : List Q5} {P : List Int} {k n : Nat} {W : List Int} {x : Q5} (h1 : writesS x = -1) (h2 : x.o ≠ 24) : foldW W (varsAt l P k x) n = foldW W (readsS x) n := by simp [varsAt, h1, h2]
theorem va_10 {l : List Q5} {P : List Int} {k n D : Nat} {W : List Int} {x : Q5} (h1 : writesS x = (D : Int)) (h2 : x.o ≠ 24) : foldW W (varsAt l P k x) n = addW (foldW W (readsS x) n) D n := by
  unfold varsAt
  rw [h1, if_neg (by omega), if_neg h2, List.append_nil, foldW_snoc]
theorem va_01 {l : List Q5} {P : List Int} {k n q : Nat} {W : List Int} {x y : Q5} (h1 : writesS x = -1) (h2 : x.o = 24) (hq : P[k]? = some (q : Int)) (hy : l[q]? = some y) : foldW W (varsAt l P k x) n = addW (foldW W (readsS x) n) y.d n := by
  unfold varsAt
  rw [h1, if_pos rfl, if_pos h2, List.nil_append, List.getD_eq_getElem?_getD, hq, Option.getD_some, Int.toNat_natCast, dOf_at hy, foldW_snoc]

set_option maxRecDepth 100000 in
set_option maxHeartbeats 3000000 in
theorem weigh_any (a : Option Addr) (c : Nat) (l : List Q5) (w : World) (hl : L5 w a l) :
    Calls Try.prog 20 #[.slice a l.length c] w (fun e w' => ∃ g, e = .returned (.slice (some ⟨g, 0, none⟩) 64 64) ∧ WRow w' w.heap.size g (weighS l) ∧ Below w.heap.size w w') := by
  have hlen := hl.1
  have hmk := fun W => run_make_row' (P := Try.prog) 49 3 (.int .i64 0) 8 Try.underlying49 info_int rfl .i64 .i64 64 (by omega) (by omega) W
  have ow0 : WRow (w.alloc (.cells (madeCells #[Value.int .i64 0] 64) 3)) w.heap.size w.heap.size (List.replicate 64 0) := by
    unfold WRow
    rw [← made64]
    exact World.ownsRow_lit (base := w.heap.size) (size := 1) (e := 3) w (madeCells #[Value.int .i64 0] 64) 64 (Nat.le_refl _) (by simp only [maxLen]; omega) (by rw [size_madeCells])
  push_cast at hmk
  have OW0 := Lib.hid ow0
  have HL := Lib.hid hl
  have B0 : Below w.heap.size w (w.alloc (.cells (madeCells #[Value.int .i64 0] 64) 3)) := (Below.refl _ _).alloc (Nat.le_refl _) _
  have HB0 := Lib.hid B0
  have L0 := Lib.hid (hl.later B0)
  have S0 : (w.alloc (.cells (madeCells #[Value.int .i64 0] 64) 3)).heap.size = w.heap.size + 1 := by simp
  have HS0 := Lib.hid S0
  clear hl ow0 B0 S0
  go_enter Try.func20, Try.ntmps20
  go_wp2_with fail
  clear hmk
  generalize w.alloc (.cells (madeCells #[Value.int .i64 0] 64) 3) = W0 at *
  have hS0 := HS0.out
  refine (check_any a c l W0 L0.out).mono ?_
  rintro e w1 ⟨rfl, b1⟩
  have HB1 := Lib.hid b1
  have H1 := Lib.hid (HB0.out.trans (b1.mono HB0.out.size))
  have R1 := Lib.hid (own_later OW0.out b1)
  have L1 := Lib.hid (L0.out.later b1)
  have hs1 := b1.size
  clear b1
  by_cases hc : checkS l = 0
  · obtain ⟨hlen2, hcan, hcnt, P, hP⟩ := check_good hc
    have CAN := Lib.hid hcan
    have CNT := Lib.hid hcnt
    have HP := Lib.hid hP
    have WG := Lib.hid (weigh_good hc hP)
    have EB := Lib.hid (ends_back hP)
    clear hcan hcnt
    rw [hc]
    clear hc
    go_wp2_with fail
    refine (ends_any a c l w1 L1.out).mono ?_
    unfold EndsPost
    rw [hP]
    rintro e w2 ⟨⟨v, rfl, hown⟩, b2⟩
    obtain ⟨a2, c2, rfl, hI2⟩ := own_iC hown
    have I2 := Lib.hid hI2
    have H2 := Lib.hid (H1.out.trans (b2.mono H1.out.size))
    have R2 := Lib.hid (own_later R1.out b2)
    have L2 := Lib.hid (L1.out.later b2)
    have hs2 := b2.size
    have PL := Lib.hid EB.out.1
    clear b2 hown hI2 hP
    go_wp2_with fail
    go_loopw [6, 24] (fun v6 i wr => WgRel w w2 l P (weighS l) v6 i wr) (fun _ i _ => l.length - (intOf i).toNat)
    case atStart => exact ⟨0, 0, 1, _, Nat.zero_le _, rfl, rfl, rfl, by omega, stW_0 HP.out, good_zero, WG.out.symm, R2.out, World.grownBy.refl _ _⟩
    case round =>
      obtain ⟨k, d, n, W, hk, rfl, rfl, hn, hd, hst, hgood, hT, hrow, hg⟩ := hrel
      obtain ⟨wo, rfl⟩ : ∃ wo : World, wo = wr := ⟨_, rfl⟩
      have GR := Lib.hid hgood
      have TT := Lib.hid hT
      have RW := Lib.hid hrow
      have HG := Lib.hid hg
      by_cases hlt : k < l.length
      · obtain ⟨x, hx⟩ := lookup hlt
        obtain ⟨hst2, hdi, hd24⟩ := stW_next hst hx CNT.out
        have ST := Lib.hid hst2
        have hcx := CAN.out x (List.mem_of_getElem? hx)
        have HX := Lib.hid hx
        have HBo := Lib.hid (grown_row H2.out hg (Nat.le_refl _))
        have hso := hg.size
        have V00 := Lib.hid (fun m => va_00 (l := l) (P := P) (k := k) (n := m) (W := W) (x := x))
        have V10 := Lib.hid (fun m D => va_10 (l := l) (P := P) (k := k) (n := m) (D := D) (W := W) (x := x))
        have V01 := Lib.hid (fun (m q : Nat) (y : Q5) => va_01 (l := l) (P := P) (k := k) (n := m) (q := q) (y := y) (W := W) (x := x))
        have WB := Lib.hid (writes_bd (x := x))
        have rl := rd_len x
        have RB := Lib.hid (fun d => rd_bd (x := x) (d := d))
        have WD := Lib.hid (fun h24 : x.o = 24 => writes_m (x := x) (by rw [h24]; rfl))
        rcases I2.out with hnil | ⟨g2, rfl, hg21, hg22, hc2⟩
        · have := PL.out; rw [hnil] at this; simp at this; omega
        have CP := Lib.hid hc2
        obtain ⟨xo, xd, xa, xb, xi⟩ := x
        have WA := Lib.hid (writes_any xo xd xa xb xi)
        have RA := Lib.hid (reads_any xo xd xa xb xi)
        obtain ⟨_, hnil | ⟨bb, off, rfl, hbb, hcl⟩⟩ := HL.out
        · rw [hnil] at hlt; simp at hlt
        have CL := Lib.hid hcl
        have hbz : bb < wo.heap.size := by omega
        obtain ⟨q0, q1, q2, q3, q4⟩ := hcl k _ hx
        have p0 := (HBo.out.cell hbb).trans q0
        have p1 := (HBo.out.cell hbb).trans q1
        have p2 := (HBo.out.cell hbb).trans q2
        have p3 := (HBo.out.cell hbb).trans q3
        have p4 := (HBo.out.cell hbb).trans q4
        clear q0 q1 q2 q3 q4
        have hNx := Lib.hid hn
        clear hcl hc2 hx hst hst2 hgood hT hrow hg hcx
        by_cases h24 : xo = 24
        · have H24 := Lib.hid h24
          have t24 : (xo == 24) = true := by simp [h24]
          have t23 : (xo == 23) = false := by simp [h24]
          have N23 := Lib.hid (show ¬ xo = 23 by omega)
          have hd0 := hd24 h24
          obtain ⟨n3, hn3⟩ : ∃ n3 : Nat, n3 = 8 ^ (d - 1) := ⟨_, rfl⟩
          have hn38 : n = n3 * 8 := by rw [hn, hn3, ← Nat.pow_succ]; congr 1; omega
          have hn2 : n ≤ 1073741824 := by rw [hn]; exact pow8_le hd
          have e9 : Int.tdiv (n : Int) 8 = (n3 : Int) := by rw [hn38, Int.tdiv_eq_ediv_of_nonneg (by omega)]; omega
          have N3 := Lib.hid hn3
          have N2 := Lib.hid (show n = 8 ^ dIn ⟨xo, xd, xa, xb, xi⟩ d by rw [hn, dIn, if_neg (by simpa using N23.out)])
          have hn3b : n3 ≤ 134217728 := by omega
          clear hn3 hn38 hn h24 hd24 hdi hd
          go_wp2_with fail
          refine (RA.out _).mono ?_
          rintro e w3 ⟨v3, rfl, oi, hb3⟩
          obtain ⟨hbox, hz3, hz3'⟩ := boxed hb3
          have b0 := hbox 0 (.int .i64 xo) rfl
          have b1 := hbox 1 (.int .i64 xd) rfl
          have b2 := hbox 2 (.int .i64 xa) rfl
          have b3 := hbox 3 (.int .i64 xb) rfl
          have b4 := hbox 4 (.int .i32 xi) rfl
          obtain ⟨a3, c3, rfl, hI3⟩ := own_iC oi
          have I3 := Lib.hid hI3
          have R3 := Lib.hid (own_later (RW.out.alloc (.cells #[.int .i64 xo, .int .i64 xd, .int .i64 xa, .int .i64 xb, .int .i32 xi] 45)) hb3)
          have G3 := Lib.hid (HG.out.trans ((grown_of_below ((Below.refl wo.heap.size wo).alloc (o := .cells #[.int .i64 xo, .int .i64 xd, .int .i64 xa, .int .i64 xb, .int .i32 xi] 45) (Nat.le_refl _)) (some w.heap.size)).trans (grown_of_below hb3 (some w.heap.size))))
          have hsz3 := G3.out.size
          generalize readsS ⟨xo, xd, xa, xb, xi⟩ = r at *
          generalize hwr1 : writesS ⟨xo, xd, xa, xb, xi⟩ = wr1 at *
          clear hwr1
          clear hbox hb3 oi hI3
          go_wp2_with fail
          go_loopw [37] (fun i wi => ∃ m : Nat, m ≤ r.length ∧ i = .int .i64 m ∧ WRow wi w.heap.size w.heap.size (foldW W (r.take m) n) ∧ w3.grownBy wi (some w.heap.size)) (fun i _ => r.length - (intOf i).toNat)
          case atStart => exact ⟨0, Nat.zero_le _, rfl, R3.out, World.grownBy.refl _ _⟩
          case round =>
            obtain ⟨m, hm, rfl, own3, hg3⟩ := hrel
            by_cases hmlt : m < r.length
            · obtain ⟨dd, hdd⟩ := lookup hmlt
              obtain ⟨hd0, hd1⟩ := RB.out dd (List.mem_of_getElem? hdd)
              obtain ⟨D, rfl⟩ : ∃ D : Nat, dd = (D : Int) := ⟨dd.toNat, by omega⟩
              have hD : D < 64 := by omega
              rcases I3.out with hnil | ⟨g, rfl, hg1, hg2', hcells⟩
              · rw [hnil] at hmlt; simp at hmlt
              have cg := hg3.cell (hcells m _ hdd) (by simp at hg1 ⊢; omega)
              have AD := Lib.hid (add_any w.heap.size w.heap.size (foldW W (r.take m) n) D n wr own3 (good_fold GR.out _ _) hD hn2)
              have HN := Lib.hid (foldW_next (W := W) hdd n)
              have HG3 := Lib.hid hg3
              have hgi := hg3.size
              clear own3 hdd hcells hg3
              go_wp2_with fail
              refine AD.out.mono ?_
              rintro e w5 ⟨rfl, ow5, hg5⟩
              have OW5 := Lib.hid ow5
              have HG5 := Lib.hid hg5
              clear ow5 hg5
              go_wp2_with fail
              refine ⟨⟨m + 1, by omega, rfl, ?_, HG3.out.trans HG5.out⟩, by simp [intOf]; omega⟩
              rw [HN.out]
              exact OW5.out
            · obtain rfl : m = r.length := by omega
              rw [List.take_length] at own3
              have e0 := hg3.cell b0 (by simp; omega)
              have e1 := hg3.cell b1 (by simp; omega)
              have e2 := hg3.cell b2 (by simp; omega)
              have e3 := hg3.cell b3 (by simp; omega)
              have e4 := hg3.cell b4 (by simp; omega)
              have hgi := hg3.size
              have H4 := Lib.hid (G3.out.trans hg3)
              have R4 := Lib.hid own3
              clear own3 hg3 hmlt b0 b1 b2 b3 b4
              go_wp2_with fail
              refine (WA.out wr).mono ?_
              obtain rfl : wr1 = -1 := WD.out H24.out
              rintro e w6 ⟨rfl, hb6⟩
              have R6 := Lib.hid (own_later R4.out hb6)
              have G6 := Lib.hid (H4.out.trans (grown_of_below hb6 (some w.heap.size)))
              have f0 := (hb6.cell (by simp; omega)).trans e0
              have hs6 := hb6.size
              clear hb6 e0 e1 e2 e3 e4
              obtain ⟨q, y, hPq, hlq⟩ := end_at HP.out HX.out H24.out
              have hyd := can_d (CAN.out y (List.mem_of_getElem? hlq))
              obtain ⟨D, hDy⟩ : ∃ D : Nat, y.d = (D : Int) := ⟨y.d.toNat, by omega⟩
              have hD : D < 64 := by omega
              have hq : q < l.length := by
                rcases Nat.lt_or_ge q l.length with g | g
                · exact g
                · rw [List.getElem?_eq_none g] at hlq; cases hlq
              have k2 : w6.cell? ⟨g2, k, none⟩ = some (.int .i64 (q : Int)) := G6.out.cell (CP.out k _ hPq) (by simp; omega)
              have HB6 := Lib.hid (grown_row H2.out G6.out (Nat.le_refl _))
              have k3 := (HB6.out.cell hbb).trans (CL.out q y hlq).2.1
              rw [hDy] at k3
              have V := Lib.hid (V01.out n _ _ rfl H24.out hPq hlq)
              rw [hDy] at V
              have AD := Lib.hid (add_any w.heap.size w.heap.size (foldW W r n) D n w6 R6.out (good_fold GR.out _ _) hD hn2)
              have hqP : q < 20000 := by omega
              have hkP : k < P.length := by rw [PL.out]; exact hlt
              clear hlq hPq
              go_wp2_with fail
              refine AD.out.mono ?_
              rintro e w8 ⟨rfl, ow8, hg8⟩
              have OW8 := Lib.hid ow8
              have G8 := Lib.hid (G6.out.trans hg8)
              have hs8 := hg8.size
              clear ow8 hg8
              go_wp2_with fail
              refine ⟨wg_next (n := n3) HX.out hlt ST.out GR.out TT.out ?_ G8.out rfl ?_ rfl, by simp [intOf]; omega⟩
              · rw [← N2.out, V.out]; exact OW8.out
              · rw [N3.out, dNext, if_neg (by simpa using N23.out), if_pos H24.out]
        · have N24 := Lib.hid h24
          have t24 : (xo == 24) = false := by simp [h24]
          by_cases h23 : xo = 23
          · have H23 := Lib.hid h23
            have t23 : (xo == 23) = true := by simp [h23]
            obtain ⟨n2, hn2e⟩ : ∃ n2 : Nat, n2 = n * 8 := ⟨_, rfl⟩
            have N2 := Lib.hid (show n2 = 8 ^ dIn ⟨xo, xd, xa, xb, xi⟩ d by rw [hn2e, hn, dIn, if_pos h23, Nat.pow_succ])
            have hn2 : n2 ≤ 1073741824 := by rw [N2.out]; exact pow8_le hdi
            have e8 : (n : Int) * 8 = (n2 : Int) := by omega
            clear hn h23 h24 hd24 hdi hn2e hd
            go_wp2_with fail
            refine (RA.out _).mono ?_
            rintro e w3 ⟨v3, rfl, oi, hb3⟩
            obtain ⟨hbox, hz3, hz3'⟩ := boxed hb3
            have b0 := hbox 0 (.int .i64 xo) rfl
            have b1 := hbox 1 (.int .i64 xd) rfl
            have b2 := hbox 2 (.int .i64 xa) rfl
            have b3 := hbox 3 (.int .i64 xb) rfl
            have b4 := hbox 4 (.int .i32 xi) rfl
            obtain ⟨a3, c3, rfl, hI3⟩ := own_iC oi
            have I3 := Lib.hid hI3
            have R3 := Lib.hid (own_later (RW.out.alloc (.cells #[.int .i64 xo, .int .i64 xd, .int .i64 xa, .int .i64 xb, .int .i32 xi] 45)) hb3)
            have G3 := Lib.hid (HG.out.trans ((grown_of_below ((Below.refl wo.heap.size wo).alloc (o := .cells #[.int .i64 xo, .int .i64 xd, .int .i64 xa, .int .i64 xb, .int .i32 xi] 45) (Nat.le_refl _)) (some w.heap.size)).trans (grown_of_below hb3 (some w.heap.size))))
            have hsz3 := G3.out.size
            generalize readsS ⟨xo, xd, xa, xb, xi⟩ = r at *
            generalize hwr1 : writesS ⟨xo, xd, xa, xb, xi⟩ = wr1 at *
            clear hwr1
            clear hbox hb3 oi hI3
            go_wp2_with fail
            go_loopw [37] (fun i wi => ∃ m : Nat, m ≤ r.length ∧ i = .int .i64 m ∧ WRow wi w.heap.size w.heap.size (foldW W (r.take m) n2) ∧ w3.grownBy wi (some w.heap.size)) (fun i _ => r.length - (intOf i).toNat)
            case atStart => exact ⟨0, Nat.zero_le _, rfl, R3.out, World.grownBy.refl _ _⟩
            case round =>
              obtain ⟨m, hm, rfl, own3, hg3⟩ := hrel
              by_cases hmlt : m < r.length
              · obtain ⟨dd, hdd⟩ := lookup hmlt
                obtain ⟨hd0, hd1⟩ := RB.out dd (List.mem_of_getElem? hdd)
                obtain ⟨D, rfl⟩ : ∃ D : Nat, dd = (D : Int) := ⟨dd.toNat, by omega⟩
                have hD : D < 64 := by omega
                rcases I3.out with hnil | ⟨g, rfl, hg1, hg2', hcells⟩
                · rw [hnil] at hmlt; simp at hmlt
                have cg := hg3.cell (hcells m _ hdd) (by simp at hg1 ⊢; omega)
                have AD := Lib.hid (add_any w.heap.size w.heap.size (foldW W (r.take m) n2) D n2 wr own3 (good_fold GR.out _ _) hD hn2)
                have HN := Lib.hid (foldW_next (W := W) hdd n2)
                have HG3 := Lib.hid hg3
                have hgi := hg3.size
                clear own3 hdd hcells hg3
                go_wp2_with fail
                refine AD.out.mono ?_
                rintro e w5 ⟨rfl, ow5, hg5⟩
                have OW5 := Lib.hid ow5
                have HG5 := Lib.hid hg5
                clear ow5 hg5
                go_wp2_with fail
                refine ⟨⟨m + 1, by omega, rfl, ?_, HG3.out.trans HG5.out⟩, by simp [intOf]; omega⟩
                rw [HN.out]
                exact OW5.out
              · obtain rfl : m = r.length := by omega
                rw [List.take_length] at own3
                have e0 := hg3.cell b0 (by simp; omega)
                have e1 := hg3.cell b1 (by simp; omega)
                have e2 := hg3.cell b2 (by simp; omega)
                have e3 := hg3.cell b3 (by simp; omega)
                have e4 := hg3.cell b4 (by simp; omega)
                have hgi := hg3.size
                have H4 := Lib.hid (G3.out.trans hg3)
                have R4 := Lib.hid own3
                clear own3 hg3 hmlt b0 b1 b2 b3 b4
                go_wp2_with fail
                refine (WA.out wr).mono ?_
                rcases WB.out with rfl | ⟨hw0, hw1⟩
                · rintro e w6 ⟨rfl, hb6⟩
                  have R6 := Lib.hid (own_later R4.out hb6)
                  have G6 := Lib.hid (H4.out.trans (grown_of_below hb6 (some w.heap.size)))
                  have f0 := (hb6.cell (by simp; omega)).trans e0
                  have hs6 := hb6.size
                  clear hb6 e0 e1 e2 e3 e4
                  go_wp2_with fail
                  refine ⟨wg_next HX.out hlt ST.out GR.out TT.out ?_ G6.out rfl ?_ rfl, by simp [intOf]; omega⟩
                  · rw [V00.out _ (by first | exact trivial | rfl) N24.out, ← N2.out]; exact R6.out
                  · rw [N2.out, dNext, dIn, if_pos H23.out, if_pos H23.out]
                · obtain ⟨D, rfl⟩ : ∃ D : Nat, wr1 = (D : Int) := ⟨wr1.toNat, by omega⟩
                  have hD : D < 64 := by omega
                  have tge : decide (0 ≤ (D : Int)) = true := by simp
                  rintro e w6 ⟨rfl, hb6⟩
                  have R6 := own_later R4.out hb6
                  have G6 := Lib.hid (H4.out.trans (grown_of_below hb6 (some w.heap.size)))
                  have f0 := (hb6.cell (by simp; omega)).trans e0
                  have hs6 := hb6.size
                  have AD := Lib.hid (add_any w.heap.size w.heap.size (foldW W r n2) D n2 w6 R6 (good_fold GR.out _ _) hD hn2)
                  clear hb6 e0 e1 e2 e3 e4 R6
                  go_wp2_with fail
                  refine AD.out.mono ?_
                  rintro e w7 ⟨rfl, ow7, hg7⟩
                  have h0 := hg7.cell f0 (by simp; omega)
                  have OW7 := Lib.hid ow7
                  have G7 := Lib.hid (G6.out.trans hg7)
                  have hs7 := hg7.size
                  clear ow7 hg7 f0
                  go_wp2_with fail
                  refine ⟨wg_next HX.out hlt ST.out GR.out TT.out ?_ G7.out rfl ?_ rfl, by simp [intOf]; omega⟩
                  · rw [V10.out _ D (by first | exact trivial | rfl) N24.out, ← N2.out]; exact OW7.out
                  · rw [N2.out, dNext, dIn, if_pos H23.out, if_pos H23.out]
          · have N23 := Lib.hid h23
            have t23 : (xo == 23) = false := by simp [h23]
            obtain ⟨n2, hn2e⟩ : ∃ n2 : Nat, n2 = n := ⟨_, rfl⟩
            subst hn2e
            have N2 := Lib.hid (show n2 = 8 ^ dIn ⟨xo, xd, xa, xb, xi⟩ d by rw [hn, dIn, if_neg h23])
            have hn2 : n2 ≤ 1073741824 := by rw [N2.out]; exact pow8_le hdi
            clear hn h23 h24 hd24 hdi hd
            go_wp2_with fail
            refine (RA.out _).mono ?_
            rintro e w3 ⟨v3, rfl, oi, hb3⟩
            obtain ⟨hbox, hz3, hz3'⟩ := boxed hb3
            have b0 := hbox 0 (.int .i64 xo) rfl
            have b1 := hbox 1 (.int .i64 xd) rfl
            have b2 := hbox 2 (.int .i64 xa) rfl
            have b3 := hbox 3 (.int .i64 xb) rfl
            have b4 := hbox 4 (.int .i32 xi) rfl
            obtain ⟨a3, c3, rfl, hI3⟩ := own_iC oi
            have I3 := Lib.hid hI3
            have R3 := Lib.hid (own_later (RW.out.alloc (.cells #[.int .i64 xo, .int .i64 xd, .int .i64 xa, .int .i64 xb, .int .i32 xi] 45)) hb3)
            have G3 := Lib.hid (HG.out.trans ((grown_of_below ((Below.refl wo.heap.size wo).alloc (o := .cells #[.int .i64 xo, .int .i64 xd, .int .i64 xa, .int .i64 xb, .int .i32 xi] 45) (Nat.le_refl _)) (some w.heap.size)).trans (grown_of_below hb3 (some w.heap.size))))
            have hsz3 := G3.out.size
            generalize readsS ⟨xo, xd, xa, xb, xi⟩ = r at *
            generalize hwr1 : writesS ⟨xo, xd, xa, xb, xi⟩ = wr1 at *
            clear hwr1
            clear hbox hb3 oi hI3
            go_wp2_with fail
            go_loopw [37] (fun i wi => ∃ m : Nat, m ≤ r.length ∧ i = .int .i64 m ∧ WRow wi w.heap.size w.heap.size (foldW W (r.take m) n2) ∧ w3.grownBy wi (some w.heap.size)) (fun i _ => r.length - (intOf i).toNat)
            case atStart => exact ⟨0, Nat.zero_le _, rfl, R3.out, World.grownBy.refl _ _⟩
            case round =>
              obtain ⟨m, hm, rfl, own3, hg3⟩ := hrel
              by_cases hmlt : m < r.length
              · obtain ⟨dd, hdd⟩ := lookup hmlt
                obtain ⟨hd0, hd1⟩ := RB.out dd (List.mem_of_getElem? hdd)
                obtain ⟨D, rfl⟩ : ∃ D : Nat, dd = (D : Int) := ⟨dd.toNat, by omega⟩
                have hD : D < 64 := by omega
                rcases I3.out with hnil | ⟨g, rfl, hg1, hg2', hcells⟩
                · rw [hnil] at hmlt; simp at hmlt
                have cg := hg3.cell (hcells m _ hdd) (by simp at hg1 ⊢; omega)
                have AD := Lib.hid (add_any w.heap.size w.heap.size (foldW W (r.take m) n2) D n2 wr own3 (good_fold GR.out _ _) hD hn2)
                have HN := Lib.hid (foldW_next (W := W) hdd n2)
                have HG3 := Lib.hid hg3
                have hgi := hg3.size
                clear own3 hdd hcells hg3
                go_wp2_with fail
                refine AD.out.mono ?_
                rintro e w5 ⟨rfl, ow5, hg5⟩
                have OW5 := Lib.hid ow5
                have HG5 := Lib.hid hg5
                clear ow5 hg5
                go_wp2_with fail
                refine ⟨⟨m + 1, by omega, rfl, ?_, HG3.out.trans HG5.out⟩, by simp [intOf]; omega⟩
                rw [HN.out]
                exact OW5.out
              · obtain rfl : m = r.length := by omega
                rw [List.take_length] at own3
                have e0 := hg3.cell b0 (by simp; omega)
                have e1 := hg3.cell b1 (by simp; omega)
                have e2 := hg3.cell b2 (by simp; omega)
                have e3 := hg3.cell b3 (by simp; omega)
                have e4 := hg3.cell b4 (by simp; omega)
                have hgi := hg3.size
                have H4 := Lib.hid (G3.out.trans hg3)
                have R4 := Lib.hid own3
                clear own3 hg3 hmlt b0 b1 b2 b3 b4
                go_wp2_with fail
                refine (WA.out wr).mono ?_
                rcases WB.out with rfl | ⟨hw0, hw1⟩
                · rintro e w6 ⟨rfl, hb6⟩
                  have R6 := Lib.hid (own_later R4.out hb6)
                  have G6 := Lib.hid (H4.out.trans (grown_of_below hb6 (some w.heap.size)))
                  have f0 := (hb6.cell (by simp; omega)).trans e0
                  have hs6 := hb6.size
                  clear hb6 e0 e1 e2 e3 e4
                  go_wp2_with fail
                  refine ⟨wg_next HX.out hlt ST.out GR.out TT.out ?_ G6.out rfl ?_ rfl, by simp [intOf]; omega⟩
                  · rw [V00.out _ (by first | exact trivial | rfl) N24.out, ← N2.out]; exact R6.out
                  · rw [N2.out, dNext, dIn, if_neg N23.out, if_neg N23.out, if_neg N24.out]
                · obtain ⟨D, rfl⟩ : ∃ D : Nat, wr1 = (D : Int) := ⟨wr1.toNat, by omega⟩
                  have hD : D < 64 := by omega
                  have tge : decide (0 ≤ (D : Int)) = true := by simp
                  rintro e w6 ⟨rfl, hb6⟩
                  have R6 := own_later R4.out hb6
                  have G6 := Lib.hid (H4.out.trans (grown_of_below hb6 (some w.heap.size)))
                  have f0 := (hb6.cell (by simp; omega)).trans e0
                  have hs6 := hb6.size
                  have AD := Lib.hid (add_any w.heap.size w.heap.size (foldW W r n2) D n2 w6 R6 (good_fold GR.out _ _) hD hn2)
                  clear hb6 e0 e1 e2 e3 e4 R6
                  go_wp2_with fail
                  refine AD.out.mono ?_
                  rintro e w7 ⟨rfl, ow7, hg7⟩
                  have h0 := hg7.cell f0 (by simp; omega)
                  have OW7 := Lib.hid ow7
                  have G7 := Lib.hid (G6.out.trans hg7)
                  have hs7 := hg7.size
                  clear ow7 hg7 f0
                  go_wp2_with fail
                  refine ⟨wg_next HX.out hlt ST.out GR.out TT.out ?_ G7.out rfl ?_ rfl, by simp [intOf]; omega⟩
                  · rw [V10.out _ D (by first | exact trivial | rfl) N24.out, ← N2.out]; exact OW7.out
                  · rw [N2.out, dNext, dIn, if_neg N23.out, if_neg N23.out, if_neg N24.out]
      · obtain rfl : k = l.length := by omega
        have hTe := TT.out
        rw [weighR_end] at hTe
        have HB := Lib.hid (grown_row H2.out HG.out (Nat.le_refl _))
        have HTE := Lib.hid hTe
        clear hTe hT hst hg hgood hrow hn
        go_wp2_with fail
        go_ret
        exact ⟨_, rfl, by rw [← HTE.out]; exact RW.out, HB.out⟩
  · have E := Lib.hid (weigh_bad hc)
    have tc : (checkS l != 0) = true := by simpa using hc
    clear hc
    go_wp2_with fail
    go_ret
    exact ⟨_, rfl, by rw [E.out]; exact R1.out, H1.out⟩
end Go.Proofs.Ytolohbegdjnjnaa
