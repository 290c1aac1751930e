/- Contracts of Go's stable sort's parts: swapRange, rotate. -/
import Derived.Test.YtmmhoemddfncmaaStQ
import Derived.Test.YtmmhoemddfncmaaInts
import Derived.Laws.Rows
import Derived.Laws.OwnMore
import Derived.Great.Walk
import Derived.BigRegion
namespace Go.Proofs.Ytmmhoemddfncmaa
open Go Go.RowKit
set_option linter.unusedVariables false

/-- the row that is sorted: a slice of n numbers at block G's beginning -/
def SRow (w : World) (base G c n : Nat) (xs : List Int) : Prop := xs.length = n ∧ w.ownsRow base 3 1 (.slice (some ⟨G, 0, none⟩) n c) n (xs.map iv)
theorem SRow.at {w : World} {base G c n : Nat} {xs : List Int} (h : SRow w base G c n xs) {k : Nat} (hk : k < n) : w.cell? ⟨G, k, none⟩ = some (.int .i64 (xs.getD k 0)) ∧ w.frozen? ⟨G, k, none⟩ = false ∧ G < w.heap.size := by
  obtain ⟨hl, own⟩ := h
  have cd := own.cellAt k (by omega)
  have hk' : k < xs.length := by omega
  rw [List.getElem?_map, List.getElem?_eq_getElem hk'] at cd
  refine ⟨?_, own.frozenAt k, (own.lt G rfl).2⟩
  rw [cd, List.getD_eq_getElem?_getD, List.getElem?_eq_getElem hk']
  rfl
theorem SRow.sw {w : World} {base G c n : Nat} {xs : List Int} (h : SRow w base G c n xs) (i j : Nat) :
    SRow ((w.setCell ⟨G, i, none⟩ (.int .i64 (xs.getD j 0))).setCell ⟨G, j, none⟩ (.int .i64 (xs.getD i 0))) base G c n (sw i j xs) ∧ w.grownBy ((w.setCell ⟨G, i, none⟩ (.int .i64 (xs.getD j 0))).setCell ⟨G, j, none⟩ (.int .i64 (xs.getD i 0))) (some G) := by
  obtain ⟨hl, own⟩ := h
  obtain ⟨o1, g1⟩ := own.stored i (iv (xs.getD j 0))
  obtain ⟨o2, g2⟩ := o1.stored j (iv (xs.getD i 0))
  refine ⟨⟨by simp [hl], ?_⟩, g1.trans g2⟩
  unfold Go.Proofs.Ytmmhoemddfncmaa.sw
  rw [List.map_set, List.map_set]
  exact o2
theorem SRow.drew {w : World} {base G c n : Nat} {xs : List Int} (h : SRow w base G c n xs) (q : Nat) : SRow (w.drewN q) base G c n xs := h
theorem grown_drew {w w' : World} {g : Option Nat} (h : w.grownBy w' g) (q : Nat) : w.grownBy (w'.drewN q) g := h.trans ⟨rfl, rfl, rfl, Nat.le_refl _, fun _ _ _ => rfl⟩

set_option maxRecDepth 100000 in
set_option maxHeartbeats 1000000 in
theorem swr_any (base G c n : Nat) (xs : List Int) (a b k : Nat) (cl : Value) (w : World) (A B K : Int) (hA : A = a) (hB : B = b) (hK : K = k) (own : SRow w base G c n xs) (hn : n ≤ 4096) (hc : c ≤ maxLen) (hab : a < b) (hb : b + k ≤ n) :
    Calls Try.prog 56 #[.slice (some ⟨G, 0, none⟩) n c, .int .i64 A, .int .i64 B, .int .i64 K, cl] w fun e w' => e = .returned (.tuple #[]) ∧ SRow w' base G c n (swR a b k xs) ∧ w.grownBy w' (some G) := by
  subst hA hB hK
  have OW := Lib.hid own
  clear own
  go_enter Try.func56, Try.ntmps56
  go_wp2_with fail
  go_loopw [10] (fun i wr => ∃ (m : Nat) (ys : List Int), m ≤ k ∧ i = .int .i64 m ∧ SRow wr base G c n ys ∧ w.grownBy wr (some G) ∧ swR (a + m) (b + m) (k - m) ys = swR a b k xs) (fun i _ => k - (intOf i).toNat)
  case atStart => exact ⟨0, xs, Nat.zero_le _, rfl, OW.out, World.grownBy.refl _ _, rfl⟩
  case round =>
    obtain ⟨m, ys, hm, rfl, oy, hg, hT⟩ := hrel
    have OY := Lib.hid oy
    have HG := Lib.hid hg
    have TT := Lib.hid hT
    by_cases hlt : m < k
    · obtain ⟨c1, f1, gs⟩ := oy.at (k := a + m) (by omega)
      obtain ⟨c2, f2, _⟩ := oy.at (k := b + m) (by omega)
      obtain ⟨x, hx⟩ : ∃ x, x = ys.getD (a + m) 0 := ⟨_, rfl⟩
      obtain ⟨y, hy⟩ : ∃ x, x = ys.getD (b + m) 0 := ⟨_, rfl⟩
      have KEY := Lib.hid (oy.sw (a + m) (b + m))
      rw [← hx, ← hy] at KEY
      rw [← hx] at c1
      rw [← hy] at c2
      clear oy hg hT hx hy
      have n1 : ¬ a = b := by omega
      have n2 : ¬ b = a := by omega
      have n3 : ¬ a + m = b + m := by omega
      have n4 : ¬ b + m = a + m := by omega
      go_wp2_with fail
      go_region
      generalize hW : (wr.setCell ⟨G, a + m, none⟩ (Value.int IntKind.i64 y)).setCell ⟨G, b + m, none⟩ (Value.int IntKind.i64 x) = W
      rw [hW] at KEY
      clear hW
      go_wp2_with fail
      refine ⟨⟨m + 1, Go.Proofs.Ytmmhoemddfncmaa.sw (a + m) (b + m) ys, by omega, by simp, (KEY.out.1).drew 1, grown_drew (HG.out.trans KEY.out.2) 1, ?_⟩, by simp [intOf]; omega⟩
      rw [← TT.out, show k - m = (k - (m + 1)) + 1 by omega]
      rfl
    · obtain rfl : m = k := by omega
      have T2 := TT.out
      rw [Nat.sub_self] at T2
      have e : ys = swR a b m xs := T2
      subst e
      clear oy hg hT T2 TT
      go_wp2_with fail
      exact Go.Great.bodyPost_end0 (by rfl) (by rfl) ⟨rfl, OY.out, HG.out⟩

set_option maxRecDepth 100000 in
set_option maxHeartbeats 1000000 in
theorem rot_any (base G c n : Nat) (xs : List Int) (a m b : Nat) (cl : Value) (w : World) (own : SRow w base G c n xs) (hn : n ≤ 4096) (hc : c ≤ maxLen) (ha : a < m) (hm : m < b) (hb : b ≤ n) :
    Calls Try.prog 50 #[.slice (some ⟨G, 0, none⟩) n c, .int .i64 a, .int .i64 m, .int .i64 b, cl] w fun e w' => e = .returned (.tuple #[]) ∧ SRow w' base G c n (rotT a m b xs) ∧ w.grownBy w' (some G) := by
  have OW := Lib.hid own
  have ST := Lib.hid (rot_start (xs := xs) (Nat.le_of_lt ha) (Nat.le_of_lt hm) (by rw [own.1]; exact hb))
  clear own
  go_enter Try.func50, Try.ntmps50
  go_wp2_with fail
  go_loopw [10, 11] (fun i j wr => ∃ (p q : Nat) (ys : List Int), 0 < p ∧ 0 < q ∧ i = .int .i64 p ∧ j = .int .i64 q ∧ SRow wr base G c n ys ∧ w.grownBy wr (some G) ∧ RotAt m p q ys (rotT a m b xs)) (fun i j _ => (intOf i).toNat + (intOf j).toNat)
  case atStart => exact ⟨m - a, b - m, xs, by omega, by omega, by congr 1; omega, by congr 1; omega, OW.out, World.grownBy.refl _ _, ST.out⟩
  case round =>
    obtain ⟨p, q, ys, hp, hq, rfl, rfl, oy, hg, hT⟩ := hrel
    have OY := Lib.hid oy
    have HG := Lib.hid hg
    have TT := Lib.hid hT
    obtain ⟨hpm, hqn⟩ : p ≤ m ∧ m + q ≤ n := by
      obtain ⟨L, U, V, R, h1, h2, h3, h4, _⟩ := hT
      have := oy.1
      rw [h4] at this
      simp at this
      omega
    clear oy hg hT
    by_cases hpq : p = q
    · subst hpq
      have E := rot_end TT.out
      go_wp2_with fail
      refine (swr_any base G c n ys (m - p) m p cl wr _ _ _ (by omega) rfl rfl OY.out hn hc (by omega) hqn).mono ?_
      rintro e w2 ⟨rfl, o2, g2⟩
      rw [E] at o2
      have O2 := Lib.hid o2
      have G2 := Lib.hid g2
      clear E o2 g2
      go_wp2_with fail
      exact Go.Great.bodyPost_end0 (by rfl) (by rfl) ⟨rfl, O2.out, HG.out.trans G2.out⟩
    · have hne : ¬ (p : Int) = (q : Int) := by omega
      by_cases hlt : q < p
      · have RM := Lib.hid (rot_more TT.out hlt)
        go_wp2_with fail
        refine (swr_any base G c n ys (m - p) m q cl wr _ _ _ (by omega) rfl rfl OY.out hn hc (by omega) hqn).mono ?_
        rintro e w2 ⟨rfl, o2, g2⟩
        have O2 := Lib.hid o2
        have G2 := Lib.hid g2
        clear o2 g2
        go_wp2_with fail
        refine ⟨⟨p - q, q, _, by omega, hq, by congr 1; omega, rfl, O2.out, HG.out.trans G2.out, RM.out⟩, by simp [intOf]; omega⟩
      · have hgt : p < q := by omega
        have RM := Lib.hid (rot_less TT.out hgt)
        go_wp2_with fail
        refine (swr_any base G c n ys (m - p) (m + q - p) p cl wr _ _ _ (by omega) (by omega) rfl OY.out hn hc (by omega) (by omega)).mono ?_
        rintro e w2 ⟨rfl, o2, g2⟩
        have O2 := Lib.hid o2
        have G2 := Lib.hid g2
        clear o2 g2
        go_wp2_with fail
        refine ⟨⟨p, q - p, _, hp, by omega, rfl, by congr 1; omega, O2.out, HG.out.trans G2.out, RM.out⟩, by simp [intOf]; omega⟩
end Go.Proofs.Ytmmhoemddfncmaa
