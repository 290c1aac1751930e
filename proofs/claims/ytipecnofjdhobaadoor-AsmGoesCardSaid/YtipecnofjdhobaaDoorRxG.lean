/- The document's Find, By and Places. -/
import Derived.Test.YtipecnofjdhobaaDoorRxF
import Derived.Test.YtipecnofjdhobaaDoorPseudoB
import Derived.Maps.AppendAt
namespace Go.Proofs.YtipecnofjdhobaaDoor
open Go Go.RowKit Go.Maps Pl
set_option linter.unusedVariables false
set_option linter.unusedSimpArgs false
set_option maxRecDepth 100000

set_option maxHeartbeats 4000000 in
theorem find_any (l : List It) (at0 : Option Addr) (c : Nat) (w : World) (hA : ItAt w at0 l) (hl : l.length ≤ 4000) (hc : c ≤ 9223372036854775807) (hu : Uniq l) (t : Nat) (y : It) (ht : l[t]? = some y) (hk : y.kd = 2) :
    Calls Tryd.prog 23 #[.slice at0 l.length c, .int .i64 y.lb] w fun e w' => e = .returned (.int .i64 (t : Int)) ∧ Below w.heap.size w w' := by
  have HA := Lib.hid hA
  have HU := Lib.hid hu
  have HT := Lib.hid ht
  have HK := Lib.hid hk
  have HTL := Lib.hid (List.getElem?_eq_some_iff.1 ht).1
  have hli : (l.length : Int) ≤ 4000 := by omega
  obtain ⟨lb0, hlb⟩ : ∃ z, z = y.lb := ⟨_, rfl⟩
  rw [← hlb]
  have HLB := Lib.hid hlb
  clear hA hu ht hk hlb
  go_enter Tryd.func23, Tryd.ntmps23
  go_wp2_with fail
  go_loopw [5, 6] (fun s5 s6 wr => ∃ k : Nat, k ≤ l.length ∧ s6 = .int .i64 k ∧ s5 = .int .i64 (if t < k then (t : Int) else -1) ∧ wr = w) (fun _ s6 _ => l.length - (intOf s6).toNat)
  case atStart => exact ⟨0, Nat.zero_le _, rfl, rfl, rfl⟩
  case round =>
    obtain ⟨k, hk, rfl, rfl, rfl⟩ := hrel
    by_cases hkl : k < l.length
    · obtain ⟨x, hx⟩ : ∃ x, l[k]? = some x := ⟨_, List.getElem?_eq_getElem hkl⟩
      obtain ⟨g, off, hat, hg, c0, c1, c2, c3, c4, c5, c6⟩ := HA.out k x hx
      subst hat
      have HKL := Lib.hid hkl
      have HXI := Lib.hid hx
      have k0 : (0 : Int) ≤ (k : Int) := by omega
      have k1 : (k : Int) < (l.length : Int) := by omega
      obtain ⟨kd, o, d, a, b', i, lb⟩ := x
      dsimp only at c0 c1 c2 c3 c4 c5 c6
      clear hx hkl hk
      by_cases e : k = t
      · subst e
        have hxy : y = ⟨kd, o, d, a, b', i, lb⟩ := by have h := HT.out; rw [HXI.out] at h; injection h with h; exact h.symm
        have t2 : (kd == 2) = true := by have h := HK.out; rw [hxy] at h; simpa using h
        have t3 : (lb == lb0) = true := by have h := HLB.out; rw [hxy] at h; simp [h]
        clear hxy
        simp only [Nat.lt_irrefl, if_false]
        go_wp2_with fail
        exact ⟨⟨k + 1, HKL.out, rfl, by rw [if_pos (by omega)], by first | rfl | trivial⟩, by have := HKL.out; simp [intOf]; omega⟩
      · have HSA := Lib.hid (show (if t < k + 1 then (t : Int) else -1) = if t < k then (t : Int) else -1 by
          by_cases h : t < k
          · rw [if_pos h, if_pos (by omega)]
          · rw [if_neg h, if_neg (by omega)])
        have hne : ¬ (kd = 2 ∧ lb = lb0) := fun h => e (HU.out k t _ y HXI.out HT.out h.1 HK.out (by rw [← HLB.out]; exact h.2))
        obtain ⟨v, hv⟩ : ∃ v : Int, v = if t < k then (t : Int) else -1 := ⟨_, rfl⟩
        rw [← hv] at HSA ⊢
        clear hv e
        by_cases h2 : kd = 2
        · have t2 : (kd == 2) = true := by simp [h2]
          have t3 : (lb == lb0) = false := by simp; exact fun h => hne ⟨h2, h⟩
          clear h2 hne
          go_wp2_with fail
          exact ⟨⟨k + 1, HKL.out, rfl, by rw [HSA.out], by first | rfl | trivial⟩, by have := HKL.out; simp [intOf]; omega⟩
        · have t2 : (kd == 2) = false := by simp [h2]
          clear h2 hne
          go_wp2_with fail
          exact ⟨⟨k + 1, HKL.out, rfl, by rw [HSA.out], by first | rfl | trivial⟩, by have := HKL.out; simp [intOf]; omega⟩
    · obtain rfl : k = l.length := by omega
      have kx : ¬ ((l.length : Int) < (l.length : Int)) := by omega
      have HTT := Lib.hid (show (if t < l.length then (t : Int) else -1) = t from if_pos HTL.out)
      rw [HTT.out]
      clear hkl hk
      go_wp2_with fail
      go_ret
      exact ⟨rfl, Below.refl _ _⟩
set_option maxHeartbeats 4000000 in
theorem by_any (l : List It) (at0 : Option Addr) (c : Nat) (w : World) (hA : ItAt w at0 l) (hl : l.length ≤ 4000) (hc : c ≤ 9223372036854775807) (hu : Uniq l) (i t : Nat) (x y : It) (hx : l[i]? = some x) (ht : l[t]? = some y) (hk : y.kd = 2) (he : y.lb = x.lb)
    (P pc : Nat) (p : Nat → Int) (hp : ∀ j, 0 ≤ p j ∧ p j ≤ 8 * (j : Int)) (hP : RowAt w P (iR (l.length + 1) p)) (hpc : pc ≤ 9223372036854775807) :
    Calls Tryd.prog 15 #[.slice at0 l.length c, .slice (some ⟨P, 0, none⟩) (l.length + 1) pc, .int .i64 (i : Int)] w fun e w' => e = .returned (.int .i64 (p t - p i)) ∧ Below w.heap.size w w' := by
  have HF := Lib.hid (fun W (h : Below w.heap.size w W) => find_any l at0 c W (hA.later h) hl hc hu t y ht hk)
  rw [he] at HF
  have htl := (List.getElem?_eq_some_iff.1 ht).1
  have hil := (List.getElem?_eq_some_iff.1 hx).1
  obtain ⟨g, off, hat, hg, c0, c1, c2, c3, c4, c5, c6⟩ := hA i x hx
  subst hat
  obtain ⟨kd, o, d, a, b', im, lb⟩ := x
  dsimp only at c0 c1 c2 c3 c4 c5 c6 HF
  have q1 := hP.cell t _ (iR_at (n := l.length + 1) p (by omega))
  have q2 := hP.cell i _ (iR_at (n := l.length + 1) p (by omega))
  have ql := hP.lt
  have e1 := (hp t).1
  have e2 := (hp t).2
  have e3 := (hp i).1
  have e4 := (hp i).2
  obtain ⟨p1, hp1⟩ : ∃ z, z = p t := ⟨_, rfl⟩
  obtain ⟨p2, hp2⟩ : ∃ z, z = p i := ⟨_, rfl⟩
  rw [← hp1] at q1 e1 e2 ⊢
  rw [← hp2] at q2 e3 e4 ⊢
  have hwr : IntKind.i64.wrap (p1 - p2) = p1 - p2 := by simp [IntKind.wrap, IntKind.signed, IntKind.bits]; omega
  have t0 : (0 : Int) ≤ (t : Int) := by omega
  have t1 : (t : Int) < (l.length : Int) + 1 := by omega
  have t2 : (t : Int) < ((l.length + 1 : Nat) : Int) := by omega
  have k0 : (0 : Int) ≤ (i : Int) := by omega
  have k1 : (i : Int) < (l.length : Int) := by omega
  have k2 : (i : Int) < (l.length : Int) + 1 := by omega
  have k4 : (i : Int) < ((l.length + 1 : Nat) : Int) := by omega
  have PS := Lib.hid (show ∀ W', Below w.heap.size w W' → (fun (w' : World) => w'.cell? ⟨g, off + i * 7 + 6, none⟩ = some (.int .i64 lb) ∧ w'.cell? ⟨P, t, none⟩ = some (.int .i64 p1) ∧ w'.cell? ⟨P, i, none⟩ = some (.int .i64 p2) ∧ Below w.heap.size w w') W' from fun W' h => ⟨(h.cell (p := ⟨g, _, none⟩) hg).trans c6, (h.cell (p := ⟨P, _, none⟩) ql).trans q1, (h.cell (p := ⟨P, _, none⟩) ql).trans q2, h⟩)
  clear hp1 hp2 hP hA hx ht hu hk he c0 c1 c2 c3 c4 c5 htl hil hp
  go_enter Tryd.func15, Tryd.ntmps15
  go_upto_region 1 with fail
  go_cut [6] (fun s6 wx => s6 = .int .i64 (p1 - p2) ∧ Below w.heap.size w wx)
  case first =>
    go_region_held3 (fun (w' : World) => w'.cell? ⟨g, off + i * 7 + 6, none⟩ = some (.int .i64 lb) ∧ w'.cell? ⟨P, t, none⟩ = some (.int .i64 p1) ∧ w'.cell? ⟨P, i, none⟩ = some (.int .i64 p2) ∧ Below w.heap.size w w')
      (first | (with_reducible assumption) | (refine PS.out _ ?_; first | (with_reducible exact Below.refl _ _) | (with_reducible exact (Below.refl _ _).drew) | (with_reducible exact hB2) | (with_reducible exact hB2.drew)))
      (first | (go_at_call 23; (with_reducible refine (HF.out _ (by first | (with_reducible exact Below.refl _ _) | (with_reducible exact (Below.refl _ _).drew))).mono ?_); rintro e w9 ⟨rfl, hb9⟩; have hB2 : Below w.heap.size w w9 := (by first | (with_reducible exact hb9) | exact below_call (Below.refl w.heap.size w).drew hb9); clear hb9))
    all_goals (go_wp2_with fail)
    all_goals go_meet
    all_goals (first | exact ⟨rfl, hB2⟩ | exact ⟨rfl, hB2.drew⟩)
  case rest =>
    obtain ⟨h6, hb⟩ := hcut
    subst h6
    have HB := Lib.hid hb
    clear hb
    go_wp2_with fail
    go_ret
    exact ⟨rfl, HB.out⟩
end Go.Proofs.YtipecnofjdhobaaDoor
