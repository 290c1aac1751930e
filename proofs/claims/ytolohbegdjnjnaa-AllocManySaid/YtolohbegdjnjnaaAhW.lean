/- Contracts of alloc.Homes: the comparison, and the whole. -/
import Derived.Test.YtolohbegdjnjnaaStE
import Derived.Test.YtolohbegdjnjnaaAhP
import Derived.Test.YtolohbegdjnjnaaAwW
import Derived.Test.YtolohbegdjnjnaaVars
namespace Go.Proofs.Ytolohbegdjnjnaa
open Go Go.RowKit
set_option linter.unusedVariables false

def In64 (x : Int) : Prop := 0 ≤ x ∧ x < 64
theorem goodW_at {W : List Int} (h : GoodW W) {x : Int} (hx : In64 x) : 0 ≤ wAt W x ∧ wAt W x ≤ 1000000000 ∧ (W.map iv)[x.toNat]? = some (.int .i64 (wAt W x)) := by
  have hl : x.toNat < W.length := by rw [h.1]; have := hx.2; have := hx.1; omega
  have e : W[x.toNat]? = some (wAt W x) := by unfold wAt; rw [List.getD_eq_getElem?_getD, List.getElem?_eq_getElem hl]; rfl
  have := h.2 _ _ e
  exact ⟨this.1, this.2, by rw [List.getElem?_map, e]; rfl⟩

set_option maxRecDepth 100000 in
set_option maxHeartbeats 1000000 in
theorem cmp_any (W : List Int) (hW : GoodW W) (base B g G : Nat) (w : World) (row : WRow w base g W) (hB : B < w.heap.size) (hb : w.cell? ⟨B, 0, none⟩ = some (.slice (some ⟨g, 0, none⟩) 64 64)) (hBG : B ≠ G) (hgG : g ≠ G) :
    CmpAt (fW W) In64 G (.pointer (some ⟨B, 0, none⟩)) w := by
  intro V x y hV hx hy
  obtain ⟨x0, x1, ex⟩ := goodW_at hW hx
  obtain ⟨y0, y1, ey⟩ := goodW_at hW hy
  obtain ⟨nx, rfl⟩ : ∃ k : Nat, x = (k : Int) := ⟨x.toNat, by have := hx.1; omega⟩
  obtain ⟨ny, rfl⟩ : ∃ k : Nat, y = (k : Int) := ⟨y.toNat, by have := hy.1; omega⟩
  obtain ⟨hx0, hx1⟩ := hx
  obtain ⟨hy0, hy1⟩ := hy
  have gl := (row.lt g rfl).2
  have cx := row.cellAt nx (by omega)
  have cy := row.cellAt ny (by omega)
  rw [show (nx : Int).toNat = nx from rfl] at ex
  rw [show (ny : Int).toNat = ny from rfl] at ey
  rw [ex] at cx
  rw [ey] at cy
  have vb := hV.cell hb (by simp; omega)
  have vx := hV.cell cx (by simp; omega)
  have vy := hV.cell cy (by simp; omega)
  obtain ⟨zx, hzx⟩ : ∃ z, z = wAt W (nx : Int) := ⟨_, rfl⟩
  obtain ⟨zy, hzy⟩ : ∃ z, z = wAt W (ny : Int) := ⟨_, rfl⟩
  have hf : fW W (nx : Int) (ny : Int) = zy - zx := by unfold fW; rw [hzx, hzy]
  rw [hf]
  rw [← hzx] at x0 x1 vx
  rw [← hzy] at y0 y1 vy
  clear hzx hzy hf row hb cx cy ex ey hV hW
  go_enter Try.func57, Try.ntmps57
  go_wp2_with fail
  go_region
  go_wp2_with fail
  go_ret
  exact ⟨rfl, 1, rfl⟩

/-- where sorted variables lie -/
def VAt (w : World) (a : Option Addr) (l : List Int) : Prop := l = [] ∨ ∃ G, a = some ⟨G, 0, none⟩ ∧ G < w.heap.size ∧ ∀ k x, l[k]? = some x → w.cell? ⟨G, k, none⟩ = some (.int .i64 x)
theorem varsS_in (l : List Q5) : AllOk In64 (varsS l) := by
  intro x hx
  unfold varsS at hx
  obtain ⟨n, hn, rfl⟩ := List.mem_map.mp hx
  have := List.mem_range.mp (List.mem_filter.mp hn).1
  unfold In64
  omega
theorem varsS_le (l : List Q5) : (varsS l).length ≤ 64 := by
  unfold varsS
  rw [List.length_map]
  exact Nat.le_trans (List.length_filter_le _ _) (by simp)
theorem varsS_rising (l : List Q5) : (varsS l).Pairwise (· < ·) := by
  unfold varsS
  rw [List.pairwise_map]
  refine (List.Pairwise.filter _ (List.pairwise_lt_range)).imp ?_
  intro a b h
  omega

theorem sort_both (W : List Int) (hW : GoodW W) (base B g : Nat) (a : Option Addr) (c : Nat) (l : List Int) (w : World) (own : OwnI w base (.slice a l.length c) l) (row : WRow w base g W) (hB : B < w.heap.size) (hb : w.cell? ⟨B, 0, none⟩ = some (.slice (some ⟨g, 0, none⟩) 64 64))
    (hBG : ∀ G, a = some ⟨G, 0, none⟩ → B ≠ G) (hgG : ∀ G, a = some ⟨G, 0, none⟩ → g ≠ G) (hn : l.length ≤ 64) (hok : AllOk In64 l) :
    Calls Try.prog 56 #[.slice a l.length c, .func (.func 57) #[] #[.pointer (some ⟨B, 0, none⟩)]] w fun e w' =>
      e = .returned (.tuple #[]) ∧ Below base w w' ∧ VAt w' a (stableS (lt1 W) l) ∧ AllOk In64 (stableS (lt1 W) l) := by
  rcases own with ⟨h1, ⟨hv, hl⟩ | ⟨G, cap, cur, hv, hG, hh, hc, hcm, hcs, htk⟩⟩
  · have : l = [] := List.eq_nil_of_length_eq_zero hl
    subst this
    refine (sortStable_nil a c _ w).mono ?_
    rintro e w' ⟨rfl, rfl⟩
    exact ⟨rfl, Below.refl _ _, .inl rfl, fun x hx => by simp [stableS, blkS, passesS] at hx⟩
  · obtain ⟨rfl, _, rfl⟩ : a = some ⟨G, 0, none⟩ ∧ True ∧ c = cap := by injection hv with e1 e2 e3; exact ⟨e1, trivial, e3⟩
    have own : SRow w base G c l.length l := ⟨rfl, h1, .inr ⟨G, c, cur, rfl, hG, hh, hc, hcm, hcs, htk⟩⟩
    refine (sortStable_any (fW W) In64 (.pointer (some ⟨B, 0, none⟩)) base G c l.length l w own (by omega) hcm hok (cmp_any W hW base B g G w row hB hb (hBG G rfl) (hgG G rfl))).mono ?_
    rintro e w' ⟨rfl, o, k, gr⟩
    refine ⟨rfl, (Below.refl base w).grown gr (by have := own.2.lt G rfl; omega) (fun k hk => by cases hk; exact hG), .inr ⟨G, rfl, (o.2.lt G rfl).2, fun j x hx => ?_⟩, k⟩
    have hj : j < l.length := by
      rcases Nat.lt_or_ge j l.length with h | h
      · exact h
      · have e : (stableS (ltF (fW W)) l).length ≤ j := by rw [o.1]; exact h
        have hx' : (stableS (ltF (fW W)) l)[j]? = some x := hx
        rw [List.getElem?_eq_none e] at hx'
        cases hx'
    have := (o.at hj).1
    rw [this, List.getD_eq_getElem?_getD, show (stableS (ltF (fW W)) l)[j]? = some x from hx]
    rfl

theorem own_lowerB {w : World} {b b' : Nat} {v : Value} {l : List Int} (h : OwnI w b v l) (hb : b' ≤ b) : OwnI w b' v l := by
  obtain ⟨h1, h | ⟨g, cap, cur, hv, hg, rest⟩⟩ := h
  · exact ⟨h1, .inl h⟩
  · exact ⟨h1, .inr ⟨g, cap, cur, hv, Nat.le_trans hb hg, rest⟩⟩
theorem weighS_good (l : List Q5) : GoodW (weighS l) := by
  have key : ∀ (P : List Int) (m : List Q5) (i d : Nat) (W : List Int), GoodW W → GoodW (weighR l P m i d W) := by
    intro P m
    induction m with
    | nil => intro i d W h; exact h
    | cons x m ih => intro i d W h; exact ih _ _ _ (good_fold h _ _)
  unfold weighS
  split
  · split
    · exact key _ _ _ _ _ good_zero
    · exact good_zero
  · exact good_zero
theorem homes_next {s H : List Int} {k D : Nat} (h : s[k]? = some (D : Int)) : homesR (s.drop k) k H = homesR (s.drop (k + 1)) (k + 1) (if k < 20 then H.set (D * 2) (5 + (k : Int)) else H.set (D * 2 + 1) ((k : Int) - 20)) := by
  have hk : k < s.length := by
    rcases Nat.lt_or_ge k s.length with h' | h'
    · exact h'
    · rw [List.getElem?_eq_none h'] at h; cases h
  rw [List.getElem?_eq_getElem hk] at h
  rw [List.drop_eq_getElem_cons hk, Option.some.inj h, homesR]
  rfl
def HRow (w : World) (base g : Nat) (H : List Int) : Prop := H.length = 128 ∧ w.ownsRow base 58 2 (.slice (some ⟨g, 0, none⟩) 64 64) 64 (H.map iv)
def homesS (l : List Q5) : List Int := homesD (weighS l) (varsS l) (varsS l) (List.replicate 128 0)
theorem info_home : (Try.prog.info? 58).map (fun i => (i.zero, i.size, i.bytes)) = some (some (.agg #[.int .i64 0, .int .i64 0]), 2, 16) := by kernel_rfl
theorem made_homes : (madeCells #[Value.int IntKind.i64 0, Value.int IntKind.i64 0] 128).toList = (List.replicate 128 (0 : Int)).map iv := by
  kernel_rfl
theorem make_homes (W : World) :
    (Instr.makeSlice 52 (.int .i64 64) (.int .i64 64)).run Try.prog W = .ok (.slice (some ⟨W.heap.size, 0, none⟩) 64 64) (W.alloc (.cells (madeCells #[Value.int IntKind.i64 0, Value.int IntKind.i64 0] 128) 58)) := by
  obtain ⟨i0, hi, hz0, hz1, hz2⟩ := info_parts info_home
  have h := run_make (P := Try.prog) W 52 58 i0 _ Try.underlying52 hi hz0 .i64 .i64 64 64 (by omega) (by omega) (by rw [hz2]; omega) (by omega)
  rw [hz1] at h
  simp at h
  exact h
theorem HRow.set {w : World} {base g : Nat} {H : List Int} (h : HRow w base g H) (j : Nat) (z : Int) : HRow (w.setCell ⟨g, j, none⟩ (.int .i64 z)) base g (H.set j z) ∧ w.grownBy (w.setCell ⟨g, j, none⟩ (.int .i64 z)) (some g) := by
  obtain ⟨o1, g1⟩ := h.2.stored j (iv z)
  refine ⟨⟨by simp [h.1], ?_⟩, g1⟩
  rw [List.map_set]
  exact o1
theorem HRow.at {w : World} {base g : Nat} {H : List Int} (h : HRow w base g H) {j : Nat} (hj : j < 128) : w.cell? ⟨g, j, none⟩ = some (.int .i64 (H.getD j 0)) ∧ w.frozen? ⟨g, j, none⟩ = false ∧ g < w.heap.size := by
  obtain ⟨hl, own⟩ := h
  have cd := own.cellAt j (by omega)
  have hj' : j < H.length := by omega
  rw [List.getElem?_map, List.getElem?_eq_getElem hj'] at cd
  refine ⟨?_, own.frozenAt j, (own.lt g rfl).2⟩
  rw [cd, List.getD_eq_getElem?_getD, List.getElem?_eq_getElem hj']
  rfl
def HomesPost (w : World) (l : List Q5) (e : Ending) (w' : World) : Prop := ∃ g, e = .returned (.tuple #[.slice (some ⟨g, 0, none⟩) 64 64, .int .i64 (((varsS l).length - 20 : Nat) : Int), .int .i64 0]) ∧ HRow w' w.heap.size g (homesS l) ∧ Below w.heap.size w w'

set_option maxRecDepth 100000 in
set_option maxHeartbeats 1000000 in
theorem homes_bad (a : Option Addr) (c : Nat) (l : List Q5) (w : World) (hl : L5 w a l) (hc : checkS l ≠ 0) :
    Calls Try.prog 23 #[.slice a l.length c] w (fun e w' => e = .returned (.tuple #[.slice none 0 0, .int .i64 0, .int .i64 (checkS l)]) ∧ Below w.heap.size w w') := by
  have HL := Lib.hid hl
  obtain ⟨q, hq⟩ : ∃ q, q = checkS l := ⟨_, rfl⟩
  rw [← hq] at hc ⊢
  have tc : (q != 0) = true := by simpa using hc
  have HQ := Lib.hid hq
  clear hl hq
  go_enter Try.func23, Try.ntmps23
  go_wp2_with fail
  refine (check_any a c l w HL.out).mono ?_
  rintro e w1 ⟨rfl, b1⟩
  have HB1 := Lib.hid b1
  clear b1
  rw [← HQ.out]
  go_wp2_with fail
  go_ret3
  exact ⟨rfl, HB1.out⟩

set_option maxRecDepth 100000 in
set_option maxHeartbeats 2000000 in
theorem homes_any (a : Option Addr) (c : Nat) (l : List Q5) (w : World) (hl : L5 w a l) (hc : checkS l = 0) :
    Calls Try.prog 23 #[.slice a l.length c] w (HomesPost w l) := by
  have HL := Lib.hid hl
  have hmk := make_homes
  have HMK := Lib.hid hmk
  have SAME := Lib.hid (homes_same (weighS l) (varsS_rising l) (fun v hv => (varsS_in l v hv).1) (List.replicate 128 0))
  have CHK := Lib.hid hc
  clear hl hmk
  go_enter Try.func23, Try.ntmps23
  go_wp2_with fail
  refine (check_any a c l w HL.out).mono ?_
  rintro e w1 ⟨rfl, b1⟩
  rw [hc]
  clear hc
  have HB1 := Lib.hid b1
  have L1 := Lib.hid (HL.out.later b1)
  have hs1 := b1.size
  clear b1
  go_wp2_with fail
  refine (weigh_any a c l w1 L1.out).mono ?_
  rintro e w2 ⟨g, rfl, row, b2⟩
  have R2 := Lib.hid row
  have HB2 := Lib.hid (HB1.out.trans (b2.mono HB1.out.size))
  have L2 := Lib.hid (L1.out.later b2)
  have hs2 := b2.size
  have gl := row.lt g rfl
  clear b2 row
  go_wp2_with fail
  have c2 : (w2.alloc (.cells #[.slice (some ⟨g, 0, none⟩) 64 64] 49)).cell? ⟨w2.heap.size, 0, none⟩ = some (.slice (some ⟨g, 0, none⟩) 64 64) := by simp
  have HB3 := Lib.hid (HB2.out.alloc (by have := HB2.out.size; omega) (.cells #[.slice (some ⟨g, 0, none⟩) 64 64] 49))
  have bA : Below w2.heap.size w2 (w2.alloc (.cells #[.slice (some ⟨g, 0, none⟩) 64 64] 49)) := (Below.refl _ _).alloc (Nat.le_refl _) _
  have L3 := Lib.hid (L2.out.later bA)
  have R3 := Lib.hid (own_later R2.out bA)
  have hs3 : (w2.alloc (.cells #[.slice (some ⟨g, 0, none⟩) 64 64] 49)).heap.size = w2.heap.size + 1 := by simp
  clear bA
  generalize w2.alloc (.cells #[.slice (some ⟨g, 0, none⟩) 64 64] 49) = w3 at *
  refine (vars_any a c l w3 L3.out).mono ?_
  rintro e w4 ⟨v, rfl, own, b4⟩
  obtain ⟨av, cv, rfl, hI⟩ := own_iB own
  have OW4 := Lib.hid own
  have R4 := Lib.hid (own_later R3.out b4)
  have c4 := (b4.cell (p := ⟨w2.heap.size, 0, none⟩) (by simp; omega)).trans c2
  have HB4 := Lib.hid (HB3.out.trans (b4.mono HB3.out.size))
  have hs4 := b4.size
  have NB := Lib.hid (show ∀ G, av = some ⟨G, 0, none⟩ → w2.heap.size ≠ G by
    intro G hG
    subst hG
    have := own.lt G rfl
    omega)
  have NG := Lib.hid (show ∀ G, av = some ⟨G, 0, none⟩ → g ≠ G by
    intro G hG
    subst hG
    have := own.lt G rfl
    omega)
  clear own hI b4 c2
  go_wp2_with fail
  refine (sort_both (weighS l) (weighS_good l) w1.heap.size w2.heap.size g av cv (varsS l) w4 (own_lowerB OW4.out (by omega)) R4.out (by omega) c4 NB.out NG.out (varsS_le l) (varsS_in l)).mono ?_
  rintro e w5 ⟨rfl, b5, hv5, k5⟩
  have HB5 := Lib.hid (HB4.out.trans (b5.mono HB1.out.size))
  have V5 := Lib.hid hv5
  have K5 := Lib.hid k5
  have SL := (stable_spec (lt := lt1 (weighS l)) (lt2_trn (weighS l)) (varsS l) (cross_rising (weighS l) (varsS_rising l))).1.length_eq
  have VL := varsS_le l
  clear b5 hv5 k5 c4
  obtain ⟨s, hs⟩ : ∃ s, s = stableS (lt1 (weighS l)) (varsS l) := ⟨_, rfl⟩
  rw [← hs] at V5 K5 SAME SL
  have HS := Lib.hid hs
  obtain ⟨nv, hnv⟩ : ∃ n, n = (varsS l).length := ⟨_, rfl⟩
  rw [← hnv] at SL VL
  have HNV := Lib.hid hnv
  rw [← hnv]
  have HMK := Lib.hid (HMK.out w5)
  clear hs hnv
  have hmk := HMK.out
  go_wp2_with fail
  clear hmk
  have ow : HRow (w5.alloc (.cells (madeCells #[Value.int IntKind.i64 0, Value.int IntKind.i64 0] 128) 58)) w.heap.size w5.heap.size (List.replicate 128 0) := by
    refine ⟨by simp, ?_⟩
    rw [← made_homes]
    exact World.ownsRow_lit (base := w.heap.size) (size := 2) (e := 58) w5 (madeCells #[Value.int IntKind.i64 0, Value.int IntKind.i64 0] 128) 64 (HB5.out.size) (by simp only [maxLen]; omega) (by rw [size_madeCells])
  have O6 := Lib.hid ow
  have HB6 := Lib.hid (HB5.out.alloc HB5.out.size (.cells (madeCells #[Value.int IntKind.i64 0, Value.int IntKind.i64 0] 128) 58))
  have V6 : VAt (w5.alloc (.cells (madeCells #[Value.int IntKind.i64 0, Value.int IntKind.i64 0] 128) 58)) av s ∧ (∀ G, av = some ⟨G, 0, none⟩ → s ≠ [] → G < w5.heap.size) := by
    rcases V5.out with h | ⟨G, h1, h2, h3⟩
    · exact ⟨.inl h, fun G _ hne => absurd h hne⟩
    · exact ⟨.inr ⟨G, h1, by simp; omega, fun k x hx => (((Below.refl w5.heap.size w5).alloc (Nat.le_refl _) _).cell (p := ⟨G, k, none⟩) h2).trans (h3 k x hx)⟩, fun G' e _ => by rw [h1] at e; cases e; exact h2⟩
  have V6 := Lib.hid V6
  clear ow
  generalize hW6 : w5.alloc (.cells (madeCells #[Value.int IntKind.i64 0, Value.int IntKind.i64 0] 128) 58) = W6 at *
  go_loopw [26] (fun i wr => ∃ (k : Nat) (H : List Int), k ≤ nv ∧ i = .int .i64 k ∧ HRow wr w.heap.size w5.heap.size H ∧ W6.grownBy wr (some w5.heap.size) ∧ homesR (s.drop k) k H = homesS l) (fun i _ => nv - (intOf i).toNat)
  case atStart => exact ⟨0, _, Nat.zero_le _, rfl, O6.out, World.grownBy.refl _ _, by rw [List.drop_zero]; exact SAME.out⟩
  case round =>
    obtain ⟨k, H, hk, rfl, ho, hg, hT⟩ := hrel
    have HO := Lib.hid ho
    have HG := Lib.hid hg
    have TT := Lib.hid hT
    clear ho hg hT
    by_cases hlt : k < nv
    · have tl : decide ((k : Int) < (nv : Int)) = true := by simp; omega
      obtain ⟨v, hv⟩ : ∃ v, s[k]? = some v := ⟨s[k]'(by omega), List.getElem?_eq_getElem _⟩
      obtain ⟨hv0, hv1⟩ := K5.out v (List.mem_of_getElem? hv)
      obtain ⟨D, rfl⟩ : ∃ D : Nat, v = (D : Int) := ⟨v.toNat, by omega⟩
      have hD : D < 64 := by omega
      have EN := Lib.hid (homes_next (H := H) hv)
      have hne : s ≠ [] := by intro h; rw [h] at hv; simp at hv
      obtain ⟨hV, hVlt⟩ := V6.out
      rcases hV with h0 | ⟨G, rfl, hG2, hG3⟩
      · exact absurd h0 hne
      have hGlt := hVlt G rfl hne
      have cv0 := HG.out.cell (hG3 k _ hv) (by simp; omega)
      clear hv hne hVlt hG3
      by_cases h20 : k < 20
      · have tl2 : decide ((k : Int) < 20) = true := by simp; omega
        obtain ⟨c1, f1, gs⟩ := HO.out.at (j := D * 2) (by omega)
        have KEY := Lib.hid (HO.out.set (D * 2) (5 + (k : Int)))
        go_wp2_with fail
        refine ⟨⟨k + 1, H.set (D * 2) (5 + (k : Int)), by omega, by simp, KEY.out.1, HG.out.trans KEY.out.2, ?_⟩, by simp [intOf]; omega⟩
        rw [← TT.out, EN.out, if_pos h20]
      · have tl2 : decide ((k : Int) < 20) = false := by simp; omega
        obtain ⟨c1, f1, gs⟩ := HO.out.at (j := D * 2 + 1) (by omega)
        have KEY := Lib.hid (HO.out.set (D * 2 + 1) ((k : Int) - 20))
        go_wp2_with fail
        refine ⟨⟨k + 1, H.set (D * 2 + 1) ((k : Int) - 20), by omega, by simp, KEY.out.1, HG.out.trans KEY.out.2, ?_⟩, by simp [intOf]; omega⟩
        rw [← TT.out, EN.out, if_neg h20]
    · obtain rfl : k = nv := by omega
      have tl : decide ((k : Int) < (k : Int)) = false := by simp
      have e := TT.out
      rw [List.drop_of_length_le (by omega)] at e
      have e : H = homesS l := e
      subst e
      have HB7 := Lib.hid (HB6.out.grown HG.out HB6.out.size (fun j hj => by cases hj; exact HB5.out.size))
      clear TT hlt
      go_wp2_with fail
      have em : max (0 : Int) ((k : Int) - 20) = ((k - 20 : Nat) : Int) := by omega
      go_ret3
      refine ⟨w5.heap.size, ?_, HO.out, HB7.out⟩
      rw [← HNV.out]
      simp
      exact em
end Go.Proofs.Ytolohbegdjnjnaa
