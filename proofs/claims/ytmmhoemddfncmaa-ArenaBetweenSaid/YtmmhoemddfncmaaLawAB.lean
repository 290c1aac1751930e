/- The statement of layer 30 on how many bytes are needed: it returns true for all inputs. -/
import Derived.Test.YtmmhoemddfncmaaBkIn
import Derived.Test.YtmmhoemddfncmaaArL
namespace Go.Proofs.Ytmmhoemddfncmaa
open Go Go.RowKit Go.ChangeShapes Go.WideShapes Go.ChangeAt
set_option linter.unusedVariables false

def accH (T : Int) (s : Int) (b : Q3) : Int := if b.f ≤ T ∧ T ≤ b.t then s + upI b.s else s
theorem accH_eq {b : Q3} (h : okQ b = true) (T s : Int) : accT T s b = accH T s b := by
  have := (ok_up h).2.2.2.2.1
  unfold accT accH meetQ
  simp only [decide_eq_true_eq]
  by_cases c : b.f ≤ T ∧ T ≤ b.t
  · rw [if_pos c, if_pos (by omega)]
  · rw [if_neg c, if_neg (by omega)]
theorem foldH_eq {l : List Q3} (T : Int) : ∀ (m : List Q3) (s : Int), (∀ b ∈ m, okQ b = true) → m.foldl (accT T) s = m.foldl (accH T) s
  | [], s, _ => rfl
  | b :: m, s, h => by
    rw [List.foldl_cons, List.foldl_cons, accH_eq (h b (by simp)), foldH_eq (l := l) T m _ (fun c hc => h c (by simp [hc]))]
theorem accH_sum (T : Int) : ∀ (m : List Q3) (s : Int), m.foldl (accH T) s = s + ((heldAt m T).map fun x => upI x.s).sum
  | [], s => by simp [heldAt]
  | b :: m, s => by
    rw [List.foldl_cons, accH_sum T m]
    unfold accH heldAt
    by_cases c : b.f ≤ T ∧ T ≤ b.t
    · rw [if_pos c, List.filter_cons_of_pos (by simpa using c)]
      simp only [List.map_cons, List.sum_cons]
      omega
    · rw [if_neg c, List.filter_cons_of_neg (by simpa using c)]
theorem least_le {l : List Q3} (hl : AllQ l) (hall : ∀ b ∈ l, okQ b = true) : ∀ (m : List Q3) (z : Int), z ≤ (fitP l).2.1 → m.foldl (leastT l) z ≤ (fitP l).2.1
  | [], z, h => h
  | x :: m, z, h => by
    rw [List.foldl_cons]
    refine least_le hl hall m _ ?_
    unfold leastT sumT
    rw [foldH_eq (l := l) x.f l 0 hall, accH_sum]
    have := held_le hl x.f
    omega
def sumU (s : Int) (b : Q3) : Int := s + upI b.s
theorem sumU_sum : ∀ (m : List Q3) (s : Int), m.foldl sumU s = s + (m.map fun x => upI x.s).sum
  | [], s => by simp
  | b :: m, s => by
    rw [List.foldl_cons, sumU_sum m]
    simp only [sumU, List.map_cons, List.sum_cons]
    omega
theorem sumU_bd {l : List Q3} (hall : ∀ b ∈ l, okQ b = true) : ∀ k, k ≤ l.length → 0 ≤ (l.take k).foldl sumU 0 ∧ (l.take k).foldl sumU 0 ≤ 1048579 * k := by
  intro k
  induction k with
  | zero => intro _; simp
  | succ k ih =>
    intro hk
    have ih := ih (by omega)
    obtain ⟨x, hx⟩ : ∃ x, l[k]? = some x := ⟨_, List.getElem?_eq_getElem (by omega)⟩
    rw [fold_next hx]
    have := ok_up (hall x (List.mem_of_getElem? hx))
    generalize (l.take k).foldl sumU 0 = z at ih ⊢
    unfold sumU
    push_cast
    omega
theorem foldH_bd {l : List Q3} (hall : ∀ b ∈ l, okQ b = true) (T : Int) : ∀ k, k ≤ l.length → 0 ≤ (l.take k).foldl (accH T) 0 ∧ (l.take k).foldl (accH T) 0 ≤ 1048579 * k := by
  intro k
  induction k with
  | zero => intro _; simp
  | succ k ih =>
    intro hk
    have ih := ih (by omega)
    obtain ⟨x, hx⟩ : ∃ x, l[k]? = some x := ⟨_, List.getElem?_eq_getElem (by omega)⟩
    rw [fold_next hx]
    have := ok_up (hall x (List.mem_of_getElem? hx))
    generalize (l.take k).foldl (accH T) 0 = z at ih ⊢
    unfold accH
    push_cast
    split <;> omega
theorem may_mem {l : List Q3} (h : mayL l = true) : ∀ b ∈ l, okQ b = true := by
  unfold mayL at h
  simp only [Bool.and_eq_true, decide_eq_true_eq, List.all_eq_true] at h
  exact h.2

set_option maxRecDepth 100000 in
set_option maxHeartbeats 4000000 in
theorem walk_ArenaBetween (w : World) (a0 : Option Addr) (c0 : Nat) (l0 : List Q3) (w0 : B3In w a0 l0 c0) :
    Calls Try.prog 5 #[.slice a0 l0.length c0] w fun e w' => e = .returned (.bool true) ∧ Below w.heap.size w w' := by
  obtain ⟨t, ht⟩ : ∃ t, t = l0.take 30 := ⟨_, rfl⟩
  have HT := Lib.hid ht
  clear ht
  go_enter Try.func5, Try.ntmps5
  go_wp2_with fail
  refine (fewB_at a0 c0 l0 t w w0 HT.out).mono ?_
  rintro e w1 ⟨a1, c1, rfl, s1, hc1, hc2, b1⟩
  have S1 := Lib.hid s1
  have HB1 := Lib.hid b1
  have hlen := s1.1
  clear w0 s1 b1
  go_wp2_with fail
  cases hm : mayL t with
  | false =>
    have MY := Lib.hid (fun W (h : B3 W a1 t) => rmay_any a1 c1 t W h)
    rw [hm] at MY
    have LN := Lib.hid (fun W (h : B3 W a1 t) => least_no a1 c1 t W h hm)
    refine (fit_no a1 c1 t w1 S1.out hm).mono ?_
    rintro e w2 ⟨rfl, b2⟩
    have HB2 := Lib.hid (bt HB1.out b2)
    have S2 := Lib.hid (S1.out.later b2)
    clear b2 hm
    go_wp2_with fail
    go_loopw [6, 7, 8] (fun a b i wr => a = .int .i64 0 ∧ b = .int .i64 0 ∧ i = .int .i64 0 ∧ Below w2.heap.size w2 wr) (fun _ _ _ _ => 0)
    case atStart => exact ⟨rfl, rfl, rfl, Below.refl _ _⟩
    case round =>
      obtain ⟨rfl, rfl, rfl, hb⟩ := hrel
      have HB := Lib.hid hb
      have S3 := Lib.hid (S2.out.later hb)
      clear hb
      by_cases h0 : 0 < t.length
      · go_wp2_with fail
        refine (MY.out _ S3.out).mono ?_
        rintro e w3 ⟨rfl, b3⟩
        have b3 := below_draw b3
        have HB3 := Lib.hid (bt HB.out b3)
        have S4 := Lib.hid (S3.out.later b3)
        clear b3
        go_wp2_with fail
        refine (MY.out _ S4.out).mono ?_
        rintro e w5 ⟨rfl, b5⟩
        have b5 := below_draw b5
        have HB5 := Lib.hid (bt HB3.out b5)
        have S5 := Lib.hid (B3.later S4.out b5)
        clear b5
        go_wp2_with fail
        refine (LN.out _ S5.out).mono ?_
        rintro e w6 ⟨rfl, b6⟩
        have HB6 := Lib.hid (bt HB5.out b6)
        clear b6
        go_wp2_with fail
        refine (lives30 w6).mono ?_
        rintro e w7 ⟨rfl, b7⟩
        have HB7 := Lib.hid (bt HB6.out b7)
        clear b7
        go_wp2_with fail
        go_ret
        exact ⟨rfl, bt HB2.out HB7.out⟩
      · go_wp2_with fail
        refine (MY.out _ S3.out).mono ?_
        rintro e w5 ⟨rfl, b5⟩
        have b5 := below_draw b5
        have HB5 := Lib.hid (bt HB.out b5)
        have S5 := Lib.hid (B3.later S3.out b5)
        clear b5
        go_wp2_with fail
        refine (LN.out _ S5.out).mono ?_
        rintro e w6 ⟨rfl, b6⟩
        have HB6 := Lib.hid (bt HB5.out b6)
        clear b6
        go_wp2_with fail
        refine (lives30 w6).mono ?_
        rintro e w7 ⟨rfl, b7⟩
        have HB7 := Lib.hid (bt HB6.out b7)
        clear b7
        go_wp2_with fail
        go_ret
        exact ⟨rfl, bt HB2.out HB7.out⟩
  | true =>
    obtain ⟨hq, hn⟩ := may_all hm
    have hall := may_mem hm
    have HQ := Lib.hid hq
    have ALL := Lib.hid hall
    have MY := Lib.hid (fun W (h : B3 W a1 t) => rmay_any a1 c1 t W h)
    rw [hm] at MY
    have LN := Lib.hid (fun W (h : B3 W a1 t) => least_yes a1 c1 t W h hm)
    have LE := least_le hq hall t 0 (fit_inv hq).all0
    have SE := fit_sum hq
    have TB := rooms_bd hq (fit_inv hq) (by rw [order_len]; exact hn)
    have T0 := (fit_inv hq).all0
    have LB := least_bd hq hn t 0 (by omega) (by omega)
    refine (fit_yes a1 c1 t w1 S1.out hm).mono ?_
    rintro e w2 ⟨g, rfl, _, b2⟩
    have HB2 := Lib.hid (bt HB1.out b2)
    have S2 := Lib.hid (S1.out.later b2)
    clear b2 hm hq hall
    generalize (fitP t).2.1 = tot at LE SE TB T0 ⊢
    have LEQ := Lib.hid (show leastL t = t.foldl (leastT t) 0 from rfl)
    obtain ⟨les, hles⟩ : ∃ z, z = leastL t := ⟨_, rfl⟩
    have LL := LEQ.out
    rw [← hles] at LN LL
    rw [← LL] at LE LB
    have HLES := Lib.hid hles
    have SU := sumU_sum t 0
    obtain ⟨su, hsu⟩ : ∃ z, z = t.foldl sumU 0 := ⟨_, rfl⟩
    have HSU := Lib.hid hsu
    have SL : tot ≤ su := by omega
    have HLL := Lib.hid LL
    clear hles hsu SU SE LEQ LL
    obtain ⟨n, hnn⟩ : ∃ n, n = t.length := ⟨_, rfl⟩
    have HN := Lib.hid hnn
    rw [← hnn] at MY LN hn ⊢
    clear hnn hc1 hlen
    go_wp2_with fail
    go_loopw [6, 7, 8] (fun a b i wr => ∃ k : Nat, k ≤ n ∧ i = .int .i64 k ∧ a = .int .i64 ((t.take k).foldl (leastT t) 0) ∧ b = .int .i64 ((t.take k).foldl sumU 0) ∧ Below w2.heap.size w2 wr) (fun _ _ i _ => n - (intOf i).toNat)
    case atStart => exact ⟨0, Nat.zero_le _, rfl, rfl, rfl, Below.refl _ _⟩
    case round =>
      obtain ⟨k, hk, rfl, rfl, rfl, hb⟩ := hrel
      have HB := Lib.hid hb
      have S3 := Lib.hid (S2.out.later hb)
      have hws := hb.size
      clear hb
      by_cases hlt : k < n
      · have kb := sumU_bd ALL.out k (by rw [← HN.out]; exact hk)
        have lb := least_bd HQ.out (by rw [← HN.out]; exact hn) (t.take k) 0 (by omega) (by omega)
        obtain ⟨x, hx⟩ : ∃ x, t[k]? = some x := ⟨_, List.getElem?_eq_getElem (by rw [← HN.out]; exact hlt)⟩
        have NS := Lib.hid (fold_next (f := sumU) (z := 0) hx)
        have NL := Lib.hid (fold_next (f := leastT t) (z := 0) hx)
        obtain ⟨s, hs⟩ : ∃ z, z = (t.take k).foldl sumU 0 := ⟨_, rfl⟩
        obtain ⟨m, hm⟩ : ∃ z, z = (t.take k).foldl (leastT t) 0 := ⟨_, rfl⟩
        rw [← hs] at NS kb ⊢
        rw [← hm] at NL lb ⊢
        clear hs hm
        go_wp2_with fail
        refine (MY.out _ S3.out).mono ?_
        rintro e w3 ⟨rfl, b3⟩
        replace b3 := below_draw b3
        have HB3 := Lib.hid (bt HB.out b3)
        have S4 := Lib.hid (S3.out.later b3)
        have hs3 := HB3.out.size
        clear b3
        obtain ⟨_, hnil | ⟨b, off, rfl, hbb, hc⟩⟩ := S2.out
        · rw [hnil] at hx; simp at hx
        have HC := Lib.hid (fun (W : World) (h : Below w2.heap.size w2 W) (j : Nat) (y : Q3) (hy : t[j]? = some y) => show W.cell? ⟨b, off + j * 3, none⟩ = some (.int .i64 y.s) ∧ W.cell? ⟨b, off + j * 3 + 1, none⟩ = some (.int .i64 y.f) ∧ W.cell? ⟨b, off + j * 3 + 2, none⟩ = some (.int .i64 y.t) from
          ⟨(h.cell hbb).trans (hc j y hy).1, (h.cell hbb).trans (hc j y hy).2.1, (h.cell hbb).trans (hc j y hy).2.2⟩)
        obtain ⟨x0, x1, x2⟩ := HC.out _ HB3.out k x hx
        have HX := Lib.hid hx
        have qx := ok_up (ALL.out x (List.mem_of_getElem? hx))
        have qm := ok_max (ALL.out x (List.mem_of_getElem? hx))
        have RU := Lib.hid (fun W => rup_any x.s W qx.1 qm)
        obtain ⟨xs, xf, xt⟩ := x
        simp only at x0 x1 x2 qx
        have NS2 := NS.out
        rw [show sumU s ⟨xs, xf, xt⟩ = s + upI xs from rfl] at NS2
        obtain ⟨up, hup⟩ : ∃ z, z = upI xs := ⟨_, rfl⟩
        try simp only at RU
        rw [← hup] at NS2 qx RU
        have NS3 := Lib.hid NS2
        have hbr : b < w3.heap.size := by omega
        have k0 : (0 : Int) ≤ (k : Int) := by omega
        have kn : (k : Int) < (n : Int) := by omega
        clear hx hc NS NS2 hup
        go_wp2_with fail
        refine (RU.out _).mono ?_
        rintro e w4 ⟨rfl, rfl⟩
        go_wp2_with fail
        have EH := Lib.hid (show sumT t xf = t.foldl (accH xf) 0 from foldH_eq (l := t) xf t 0 ALL.out)
        go_loopw [9, 10] (fun h i wi => ∃ j : Nat, j ≤ n ∧ i = .int .i64 j ∧ h = .int .i64 ((t.take j).foldl (accH xf) 0) ∧ Below w2.heap.size w2 wi) (fun _ i _ => n - (intOf i).toNat)
        case atStart => exact ⟨0, Nat.zero_le _, rfl, rfl, HB3.out⟩
        case round =>
          obtain ⟨j, hj, rfl, rfl, hb⟩ := hrel
          have HBi := Lib.hid hb
          have hwi := hb.size
          have hbd := foldH_bd ALL.out xf j (by rw [← HN.out]; exact hj)
          obtain ⟨h, hh⟩ : ∃ h, h = (t.take j).foldl (accH xf) 0 := ⟨_, rfl⟩
          rw [← hh] at hbd ⊢
          have HH := Lib.hid hh
          clear hh x0 x1 x2 hbr
          by_cases hltj : j < n
          · obtain ⟨y, hy⟩ : ∃ y, t[j]? = some y := ⟨_, List.getElem?_eq_getElem (by rw [← HN.out]; exact hltj)⟩
            obtain ⟨y0, y1, y2⟩ := HC.out _ hb j y hy
            obtain ⟨x0, x1, x2⟩ := HC.out _ hb k _ HX.out
            simp only at x0 x1 x2
            have NY := fold_next (f := accH xf) (z := 0) hy
            rw [← HH.out] at NY
            have qy := ok_up (ALL.out y (List.mem_of_getElem? hy))
            have qn := ok_max (ALL.out y (List.mem_of_getElem? hy))
            have RU2 := Lib.hid (fun W => rup_any y.s W qy.1 qn)
            obtain ⟨ys, yf, yt⟩ := y
            simp only at y0 y1 y2 qy
            rw [show accH xf h ⟨ys, yf, yt⟩ = (if yf ≤ xf ∧ xf ≤ yt then h + upI ys else h) from rfl] at NY
            obtain ⟨uy, huy⟩ : ∃ z, z = upI ys := ⟨_, rfl⟩
            try simp only at RU2
            rw [← huy] at NY qy RU2
            have hbi : b < wr.heap.size := by omega
            have j0 : (0 : Int) ≤ (j : Int) := by omega
            have jn : (j : Int) < (n : Int) := by omega
            have HY := Lib.hid hy
            clear hy huy hb
            by_cases g1 : yf ≤ xf
            · have t1 : decide (yf ≤ xf) = true := by simpa using g1
              by_cases g2 : xf ≤ yt
              · have t2 : decide (xf ≤ yt) = true := by simpa using g2
                rw [if_pos ⟨g1, g2⟩] at NY
                have NY := Lib.hid NY
                clear g1 g2
                go_wp2_with fail
                go_quiet (fail)
                rename_i nq
                have HBq := Lib.hid (show Below w2.heap.size w2 (wr.drewN nq) from below_dN HBi.out ())
                generalize wr.drewN nq = wq at *
                clear x0 x1 x2 y0 y1 y2
                obtain ⟨y0, _, _⟩ := HC.out _ HBq.out j _ HY.out
                have hbq : b < wq.heap.size := by have := HBq.out.size; omega
                go_wp2_with fail
                refine (RU2.out _).mono ?_
                rintro e w5 ⟨rfl, rfl⟩
                go_wp2_with fail
                refine ⟨⟨j + 1, by omega, by simp, by rw [NY.out], HBq.out⟩, by simp [intOf]; omega⟩
              · have t2 : decide (xf ≤ yt) = false := by simpa using g2
                rw [if_neg (fun g => g2 g.2)] at NY
                have NY := Lib.hid NY
                clear g1 g2
                go_wp2_with fail
                go_quiet (fail)
                go_wp2_with fail
                refine ⟨⟨j + 1, by omega, by simp, by rw [NY.out], below_dN HBi.out ()⟩, by simp [intOf]; omega⟩
            · have t1 : decide (yf ≤ xf) = false := by simpa using g1
              rw [if_neg (fun g => g1 g.1)] at NY
              have NY := Lib.hid NY
              clear g1
              go_wp2_with fail
              go_quiet (fail)
              go_wp2_with fail
              refine ⟨⟨j + 1, by omega, by simp, by rw [NY.out], below_dN HBi.out ()⟩, by simp [intOf]; omega⟩
          · have hj2 : j = n := by omega
            have e1 : sumT t xf = h := by rw [EH.out, HH.out, hj2, HN.out, List.take_of_length_le (Nat.le_refl _)]
            have NL2 := NL.out
            rw [show leastT t m ⟨xs, xf, xt⟩ = max m (sumT t xf) from rfl, e1] at NL2
            clear e1
            by_cases g : m < h
            · have t1 : decide (m < h) = true := by simpa using g
              rw [show max m h = h by omega] at NL2
              have NZ := Lib.hid NL2
              clear NL2 g
              go_wp2_with fail
              refine ⟨⟨k + 1, by omega, by simp, by rw [NZ.out], by rw [NS3.out], HBi.out⟩, by simp [intOf]; omega⟩
            · have t1 : decide (m < h) = false := by simpa using g
              rw [show max m h = m by omega] at NL2
              have NZ := Lib.hid NL2
              clear NL2 g
              go_wp2_with fail
              refine ⟨⟨k + 1, by omega, by simp, by rw [NZ.out], by rw [NS3.out], HBi.out⟩, by simp [intOf]; omega⟩
      · have hk2 : k = n := by omega
        have e1 : (t.take k).foldl (leastT t) 0 = les := by rw [hk2, HN.out, List.take_of_length_le (Nat.le_refl _), HLL.out]
        have e2 : (t.take k).foldl sumU 0 = su := by rw [hk2, HN.out, List.take_of_length_le (Nat.le_refl _), HSU.out]
        rw [e1, e2]
        clear e1 e2 hk2
        go_wp2_with fail
        refine (MY.out _ S3.out).mono ?_
        rintro e w5 ⟨rfl, b5⟩
        have b5 := below_draw b5
        have HB5 := Lib.hid (bt HB.out b5)
        have S5 := Lib.hid (B3.later S3.out b5)
        clear b5
        go_wp2_with fail
        refine (LN.out _ S5.out).mono ?_
        rintro e w6 ⟨rfl, b6⟩
        have t1 : decide (les ≤ tot) = true := by simpa using LE
        have t2 : decide (tot ≤ su) = true := by simpa using SL
        have HB6 := Lib.hid (bt HB5.out b6)
        clear b6
        go_wp2_with fail
        refine (lives30 w6).mono ?_
        rintro e w7 ⟨rfl, b7⟩
        have HB7 := Lib.hid (bt HB6.out b7)
        clear b7
        go_wp2_with fail
        go_ret
        exact ⟨rfl, bt HB2.out HB7.out⟩

theorem own : ownKnob Try.prog.godebug = none := by kernel_rfl
theorem laidOut : laidOutB Try.prog = true := by kernel_rfl
set_option maxRecDepth 100000 in
theorem lifted_ArenaBetween (os : Os) (started : os.Started) (H : Type) (enc : TypeId × Value → H) :
    ReturnsInHanded {} Try.checked os 5 .any (Rows.arenaBetweenSpec.pre6 enc Try.prog Try.f5 Rows.arenaBetweenRow.domain false) (Rows.arenaBetweenSpec.post enc Try.prog Try.f5 false true false false) := by
  refine returnsInHanded_of_change (C := Try.checked) own started (by kernel_rfl) Try.func5
    (ChangeSpec.witness6 (enc := enc) (C := Try.checked) false ⟨#[], #[.slice none 0 0], []⟩ 8 (by kernel_rfl) (by kernel_rfl) (by kernel_rfl) (by kernel_rfl)) ?_
  intro W base args ds gs before hval0 hW hcnd _
  have hval : ∀ (j : Nat) t v, Try.f5.params[j]? = some t → args[j]? = some v → Value.okWide Try.prog W .any base t v := hval0
  have hW' := hW
  obtain ⟨p, q, hA0, hV, rfl, hfz, hnd⟩ := hW
  have hA : DataW.TrodAll enc Try.prog W 0 (fun _ => true) true Try.f5.params.toList args.toList ds p := hA0
  rw [Try.params5] at hA hval
  obtain ⟨v0, vs0, d0, ds0, p0, q0, hargs, rfl, rfl, h0, r0⟩ := trodAll_cons hA
  obtain ⟨rfl, rfl, rfl⟩ := trodAll_nil r0
  obtain rfl : args = #[v0] := by cases args; simp_all
  obtain ⟨rfl, rfl⟩ := trodVars_none hV
  have k0 := h0
  have lt0 : ∀ x ∈ p0, x.block < W.heap.size := by obtain ⟨m, hm⟩ := k0; exact DataW.trod_lt m _ _ _ hm
  obtain ⟨a0, c0, l0, rfl, w0⟩ := block_in (hval 0 22 v0 rfl rfl) h0
  clear hA0 hval0
  refine (walk_ArenaBetween W a0 c0 l0 w0).mono fun e W' ⟨he, bel⟩ => ?_
  subst he
  exact ⟨_, rfl, _, _, _, [], _, [], hW', trodAll_mk1 (shut_bool Try.underlying4 _), (trodAll_cons_mk (Below.trod laidOut (by kernel_rfl) (of_decide_eq_true (by kernel_rfl)) k0 bel lt0) trodAll_mk0), rfl, bel.frame _, fun h => by cases h⟩

theorem holds_ArenaBetween : Rows.ArenaBetweenSaid :=
  OpenClaim.holds_of_wide 5 Try.f5 rfl rfl rfl rfl rfl rfl rfl ⟨rfl, rfl, rfl, rfl, rfl⟩ rfl rfl rfl rfl rfl (by kernel_rfl) Try.func5 (by kernel_rfl)
    (of_decide_eq_true (by kernel_rfl)) (by unfold Func.isWrapper; first | (rw [if_pos (by decide +kernel)]; kernel_rfl) | (rw [if_neg (by decide +kernel)]; exact ⟨rfl, rfl⟩))
    (fun os started H enc _ => lifted_ArenaBetween os started H enc)

end Go.Proofs.Ytmmhoemddfncmaa
