/- Contract of arena.Least. -/
import Derived.Test.YtmmhoemddfncmaaArE
namespace Go.Proofs.Ytmmhoemddfncmaa
open Go Go.RowKit
set_option linter.unusedVariables false

def accT (T : Int) (s : Int) (b : Q3) : Int := if meetQ ⟨0, T, T⟩ b = true then s + upI b.s else s
def sumT (l : List Q3) (T : Int) : Int := l.foldl (accT T) 0
def leastT (l : List Q3) (m : Int) (x : Q3) : Int := max m (sumT l x.f)
def leastL (l : List Q3) : Int := l.foldl (leastT l) 0
theorem sumT_bd {l : List Q3} (hl : AllQ l) (T : Int) : ∀ k, k ≤ l.length → 0 ≤ (l.take k).foldl (accT T) 0 ∧ (l.take k).foldl (accT T) 0 ≤ 1048579 * k := by
  intro k
  induction k with
  | zero => intro _; simp
  | succ k ih =>
    intro hk
    have ih := ih (by omega)
    obtain ⟨x, hx⟩ : ∃ x, l[k]? = some x := ⟨_, List.getElem?_eq_getElem (by omega)⟩
    rw [fold_next hx]
    have e : qAt l (k : Int) = x := by unfold qAt; rw [List.getD_eq_getElem?_getD, Int.toNat_natCast, hx]; rfl
    have := ok_up (hl (k : Int) (by omega) (by omega))
    rw [e] at this
    generalize (l.take k).foldl (accT T) 0 = z at ih ⊢
    unfold accT
    push_cast
    split <;> omega
theorem sumT_le {l : List Q3} (hl : AllQ l) (hn : l.length ≤ 100) (T : Int) : 0 ≤ sumT l T ∧ sumT l T ≤ 104857900 := by
  have := sumT_bd hl T l.length (Nat.le_refl _)
  rw [List.take_of_length_le (Nat.le_refl _)] at this
  unfold sumT
  omega
theorem least_bd {l : List Q3} (hl : AllQ l) (hn : l.length ≤ 100) : ∀ (m : List Q3) (z : Int), 0 ≤ z → z ≤ 104857900 → 0 ≤ m.foldl (leastT l) z ∧ m.foldl (leastT l) z ≤ 104857900
  | [], z, h1, h2 => ⟨h1, h2⟩
  | x :: m, z, h1, h2 => by
    have := sumT_le hl hn x.f
    exact least_bd hl hn m _ (by unfold leastT; omega) (by unfold leastT; omega)

set_option maxHeartbeats 1000000 in
theorem least_no (a : Option Addr) (c : Nat) (l : List Q3) (w : World) (hl : B3 w a l) (hm : mayL l = false) :
    Calls Try.prog 15 #[.slice a l.length c] w fun e w' => e = .returned (.int .i64 0) ∧ Below w.heap.size w w' := by
  have C := Lib.hid (may_any a c l w hl)
  rw [hm] at C
  clear hl
  go_enter Try.func15, Try.ntmps15
  go_wp2_with fail
  refine C.out.mono ?_
  rintro e w1 ⟨rfl, hb⟩
  have HB := Lib.hid hb
  clear hb
  go_wp2_with fail
  go_ret
  exact ⟨rfl, HB.out⟩

set_option maxRecDepth 100000 in
set_option maxHeartbeats 4000000 in
theorem least_yes (a : Option Addr) (c : Nat) (l : List Q3) (w : World) (hl : B3 w a l) (hm : mayL l = true) :
    Calls Try.prog 15 #[.slice a l.length c] w fun e w' => e = .returned (.int .i64 (leastL l)) ∧ Below w.heap.size w w' := by
  obtain ⟨hq, hn⟩ := may_all hm
  have C := Lib.hid (may_any a c l w hl)
  rw [hm] at C
  have HL := Lib.hid hl
  have HQ := Lib.hid hq
  obtain ⟨res, hres⟩ : ∃ r, r = leastL l := ⟨_, rfl⟩
  rw [← hres]
  have HRES := Lib.hid hres
  have AT := Lib.hid (fun (k : Nat) (x : Q3) (hx : l[k]? = some x) => show okQ x = true from by
    have hk : k < l.length := by
      rcases Nat.lt_or_ge k l.length with h | h
      · exact h
      · rw [List.getElem?_eq_none h] at hx; cases hx
    have e : qAt l (k : Int) = x := by unfold qAt; rw [List.getD_eq_getElem?_getD, Int.toNat_natCast, hx]; rfl
    have := HQ.out (k : Int) (by omega) (by omega)
    rwa [e] at this)
  obtain ⟨n, hnn⟩ : ∃ n, n = l.length := ⟨_, rfl⟩
  have HN := Lib.hid hnn
  rw [← hnn] at C hn ⊢
  clear hl hm hq hres hnn
  go_enter Try.func15, Try.ntmps15
  go_wp2_with fail
  refine C.out.mono ?_
  rintro e w1 ⟨rfl, hb⟩
  have HB1 := Lib.hid hb
  clear hb C
  go_wp2_with fail
  go_loopw [3, 15] (fun m i wr => ∃ k : Nat, k ≤ n ∧ i = .int .i64 k ∧ m = .int .i64 ((l.take k).foldl (leastT l) 0) ∧ Below w.heap.size w wr) (fun _ i _ => n - (intOf i).toNat)
  case atStart => exact ⟨0, Nat.zero_le _, rfl, rfl, HB1.out⟩
  case round =>
    obtain ⟨k, hk, rfl, rfl, hb⟩ := hrel
    have HB := Lib.hid hb
    have hws := hb.size
    clear hb
    obtain ⟨m, hm⟩ : ∃ m, m = (l.take k).foldl (leastT l) 0 := ⟨_, rfl⟩
    have mb := least_bd HQ.out (by rw [← HN.out]; exact hn) (l.take k) 0 (by omega) (by omega)
    rw [← hm] at mb ⊢
    have HM := Lib.hid hm
    clear hm
    by_cases hlt : k < n
    · obtain ⟨x, hx⟩ : ∃ x, l[k]? = some x := ⟨_, List.getElem?_eq_getElem (by rw [← HN.out]; exact hlt)⟩
      have L1 := HL.out.later HB.out
      obtain ⟨hlen, hnil | ⟨b, off, rfl, hbb, hc⟩⟩ := HL.out
      · rw [hnil] at hx; simp at hx
      have HC := Lib.hid (fun (W : World) (h : Below w.heap.size w W) (j : Nat) (y : Q3) (hy : l[j]? = some y) => show W.cell? ⟨b, off + j * 3, none⟩ = some (.int .i64 y.s) ∧ W.cell? ⟨b, off + j * 3 + 1, none⟩ = some (.int .i64 y.f) ∧ W.cell? ⟨b, off + j * 3 + 2, none⟩ = some (.int .i64 y.t) from
        ⟨(h.cell hbb).trans (hc j y hy).1, (h.cell hbb).trans (hc j y hy).2.1, (h.cell hbb).trans (hc j y hy).2.2⟩)
      obtain ⟨c0, c1, c2⟩ := HC.out _ HB.out k x hx
      have NX := Lib.hid (fold_next (f := leastT l) (z := 0) hx)
      obtain ⟨xs, xf, xt⟩ := x
      simp only at c0 c1 c2
      have hbr : b < wr.heap.size := by omega
      have k0 : (0 : Int) ≤ (k : Int) := by omega
      have kn : (k : Int) < (n : Int) := by omega
      clear hx hc L1
      have B5 := Lib.hid (HB.out.alloc hws (.cells #[.int .i64 xs, .int .i64 xf, .int .i64 xt] 33) |>.alloc (by simp; omega) (.cells #[.int .i64 0, .int .i64 xf, .int .i64 xf] 33))
      have z0 : ((wr.alloc (.cells #[.int .i64 xs, .int .i64 xf, .int .i64 xt] 33)).alloc (.cells #[.int .i64 0, .int .i64 xf, .int .i64 xf] 33)).cell? ⟨wr.heap.size + 1, 0, none⟩ = some (.int .i64 0) := by simp
      have z1 : ((wr.alloc (.cells #[.int .i64 xs, .int .i64 xf, .int .i64 xt] 33)).alloc (.cells #[.int .i64 0, .int .i64 xf, .int .i64 xf] 33)).cell? ⟨wr.heap.size + 1, 1, none⟩ = some (.int .i64 xf) := by simp
      have z2 : ((wr.alloc (.cells #[.int .i64 xs, .int .i64 xf, .int .i64 xt] 33)).alloc (.cells #[.int .i64 0, .int .i64 xf, .int .i64 xf] 33)).cell? ⟨wr.heap.size + 1, 2, none⟩ = some (.int .i64 xf) := by simp
      have z3 : wr.heap.size + 1 < ((wr.alloc (.cells #[.int .i64 xs, .int .i64 xf, .int .i64 xt] 33)).alloc (.cells #[.int .i64 0, .int .i64 xf, .int .i64 xf] 33)).heap.size := by simp
      obtain ⟨H, hH⟩ : ∃ H, H = wr.heap.size + 1 := ⟨_, rfl⟩
      go_wp2_with fail
      rw [← hH] at z0 z1 z2 z3 ⊢
      generalize (wr.alloc (.cells #[.int .i64 xs, .int .i64 xf, .int .i64 xt] 33)).alloc (.cells #[.int .i64 0, .int .i64 xf, .int .i64 xf] 33) = w5 at B5 z0 z1 z2 z3 ⊢
      clear hH c0 c1 c2 hbr
      go_loopw [7, 26] (fun s i wi => ∃ j : Nat, j ≤ n ∧ i = .int .i64 j ∧ s = .int .i64 ((l.take j).foldl (accT xf) 0) ∧ Below w5.heap.size w5 wi) (fun _ i _ => n - (intOf i).toNat)
      case atStart => exact ⟨0, Nat.zero_le _, rfl, rfl, Below.refl _ _⟩
      case round =>
        obtain ⟨j, hj, rfl, rfl, hb⟩ := hrel
        have HBi := Lib.hid hb
        have hwi := hb.size
        have sb := sumT_bd HQ.out xf j (by rw [← HN.out]; exact hj)
        obtain ⟨s, hs⟩ : ∃ s, s = (l.take j).foldl (accT xf) 0 := ⟨_, rfl⟩
        rw [← hs] at sb ⊢
        have HS := Lib.hid hs
        clear hs
        have hw5 := B5.out.size
        by_cases hltj : j < n
        · obtain ⟨y, hy⟩ : ∃ y, l[j]? = some y := ⟨_, List.getElem?_eq_getElem (by rw [← HN.out]; exact hltj)⟩
          obtain ⟨c0, c1, c2⟩ := HC.out _ (B5.out.trans (hb.mono hw5)) j y hy
          have NY := Lib.hid (fold_next (f := accT xf) (z := 0) hy)
          have qy := ok_up (AT.out j y hy)
          have qm := ok_max (AT.out j y hy)
          have v0 := (hb.cell (p := ⟨H, 0, none⟩) z3).trans z0
          have v1 := (hb.cell (p := ⟨H, 1, none⟩) z3).trans z1
          have v2 := (hb.cell (p := ⟨H, 2, none⟩) z3).trans z2
          have MT := Lib.hid (fun W => meet_any ⟨0, xf, xf⟩ y W)
          have RD := Lib.hid (fun W => round_any y W qy.1 qm)
          obtain ⟨ys, yf, yt⟩ := y
          simp only at c0 c1 c2 qy
          try simp only at MT
          try simp only at RD
          have NY2 := NY.out
          rw [← HS.out, show accT xf s ⟨ys, yf, yt⟩ = (if meetQ ⟨0, xf, xf⟩ ⟨ys, yf, yt⟩ = true then s + upI ys else s) from rfl] at NY2
          obtain ⟨up, hup⟩ : ∃ up, up = upI ys := ⟨_, rfl⟩
          rw [← hup] at qy NY2 RD
          obtain ⟨mt, hmt⟩ : ∃ mt, mt = meetQ ⟨0, xf, xf⟩ ⟨ys, yf, yt⟩ := ⟨_, rfl⟩
          rw [← hmt] at MT NY2
          have hbi : b < wr.heap.size := by omega
          have HHi : H < wr.heap.size := by omega
          have HHn : ¬ H = wr.heap.size := by omega
          have j0 : (0 : Int) ≤ (j : Int) := by omega
          have jn : (j : Int) < (n : Int) := by omega
          clear hy hb hup hmt
          cases mt with
          | false =>
            rw [if_neg (by simp)] at NY2
            have NZ := Lib.hid NY2
            clear NY NY2
            go_wp2_with fail
            refine (MT.out _).mono ?_
            rintro e w6 ⟨rfl, hb6⟩
            have B6 := Lib.hid ((HBi.out.alloc hwi (.cells #[.int .i64 ys, .int .i64 yf, .int .i64 yt] 33)).trans (hb6.mono (by simp; omega)))
            clear hb6
            go_wp2_with fail
            refine ⟨⟨j + 1, by omega, by simp, by rw [NZ.out], B6.out⟩, by simp [intOf]; omega⟩
          | true =>
            rw [if_pos rfl] at NY2
            have NZ := Lib.hid NY2
            clear NY NY2
            go_wp2_with fail
            refine (MT.out _).mono ?_
            rintro e w6 ⟨rfl, hb6⟩
            have B6 := Lib.hid ((HBi.out.alloc hwi (.cells #[.int .i64 ys, .int .i64 yf, .int .i64 yt] 33)).trans (hb6.mono (by simp; omega)))
            have y0 := (hb6.cell (p := ⟨wr.heap.size, 0, none⟩) (by simp)).trans (show _ = some (.int .i64 ys) by simp)
            have y1 := (hb6.cell (p := ⟨wr.heap.size, 1, none⟩) (by simp)).trans (show _ = some (.int .i64 yf) by simp)
            have y2 := (hb6.cell (p := ⟨wr.heap.size, 2, none⟩) (by simp)).trans (show _ = some (.int .i64 yt) by simp)
            have hs6 := hb6.size
            simp at hs6
            clear hb6
            go_wp2_with fail
            refine (RD.out _).mono ?_
            rintro e w7 ⟨rfl, hb7⟩
            have B7 := Lib.hid (B6.out.trans (hb7.mono (by omega)))
            clear hb7
            go_wp2_with fail
            refine ⟨⟨j + 1, by omega, by simp, by rw [NZ.out], B7.out⟩, by simp [intOf]; omega⟩
        · have hj2 : j = n := by omega
          have e := HS.out
          rw [hj2, HN.out, List.take_of_length_le (Nat.le_refl _)] at e
          have e2 : s = sumT l xf := e
          have B8 := Lib.hid (B5.out.trans (HBi.out.mono hw5))
          have NX2 := NX.out
          rw [← HM.out] at NX2
          have NX3 : (l.take (k + 1)).foldl (leastT l) 0 = max m s := by rw [NX2]; unfold leastT; rw [← e2]
          have NX4 := Lib.hid NX3
          clear e e2 NX2 NX3
          go_wp2_with fail
          refine ⟨⟨k + 1, by omega, by simp, by rw [NX4.out], B8.out⟩, by simp [intOf]; omega⟩
    · have hk2 : k = n := by omega
      have e : res = m := by rw [HRES.out, HM.out, hk2, HN.out, List.take_of_length_le (Nat.le_refl _)]; rfl
      have E := Lib.hid e
      clear e
      go_wp2_with fail
      go_ret
      exact ⟨by rw [E.out]; rfl, HB.out⟩
end Go.Proofs.Ytmmhoemddfncmaa
