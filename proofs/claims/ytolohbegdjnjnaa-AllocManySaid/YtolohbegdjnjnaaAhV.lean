/- Contract of the document's Homes. -/
import Derived.Test.YtolohbegdjnjnaaAhW
import Derived.Test.YtolohbegdjnjnaaAwV
import Derived.Test.YtolohbegdjnjnaaVarsR
namespace Go.Proofs.Ytolohbegdjnjnaa
open Go Go.RowKit
set_option linter.unusedVariables false

def slotsS (l : List Q5) : Nat := slotsD (weighS l) (varsS l) (varsS l) 0
def RHomesPost (w : World) (l : List Q5) (e : Ending) (w' : World) : Prop := ∃ g, e = .returned (.tuple #[.slice (some ⟨g, 0, none⟩) 64 64, .int .i64 (slotsS l : Int)]) ∧ HRow w' w.heap.size g (homesS l) ∧ Below w.heap.size w w'
theorem count_next {W V : List Int} {k : Nat} {v x : Int} (h : V[k]? = some x) : aheadW W (V.take (k + 1)) v = aheadW W (V.take k) v + (if lt2W W x v = true then 1 else 0) := by
  unfold aheadW
  rw [List.take_add_one, h]
  simp only [Option.toList_some, List.countP_append, List.countP_cons, List.countP_nil, Nat.zero_add]
theorem drop_next {s : List Int} {k : Nat} {x : Int} (h : s[k]? = some x) : s.drop k = x :: s.drop (k + 1) := by
  have hk : k < s.length := by
    rcases Nat.lt_or_ge k s.length with h' | h'
    · exact h'
    · rw [List.getElem?_eq_none h'] at h; cases h
  rw [List.getElem?_eq_getElem hk] at h
  rw [List.drop_eq_getElem_cons hk, Option.some.inj h]
theorem hrow_later {w w' : World} {base g : Nat} {H : List Int} (h : HRow w base g H) (hb : Below w.heap.size w w') : HRow w' base g H := ⟨h.1, own_later h.2 hb⟩

set_option maxRecDepth 100000 in
set_option maxHeartbeats 4000000 in
theorem rhomes_any (a : Option Addr) (c : Nat) (l : List Q5) (w : World) (hl : L5 w a l) (hwf : ∀ x ∈ l, x.wf) :
    Calls Try.prog 24 #[.slice a l.length c] w (RHomesPost w l) := by
  have HL := Lib.hid hl
  have HWF := Lib.hid hwf
  have hmk := make_homes w
  have GW := Lib.hid (weighS_good l)
  have VI := Lib.hid (varsS_in l)
  have VL := varsS_le l
  have ow : HRow (w.alloc (.cells (madeCells #[Value.int IntKind.i64 0, Value.int IntKind.i64 0] 128) 58)) w.heap.size w.heap.size (List.replicate 128 0) := by
    refine ⟨by simp, ?_⟩
    rw [← made_homes]
    exact World.ownsRow_lit (base := w.heap.size) (size := 2) (e := 58) w (madeCells #[Value.int IntKind.i64 0, Value.int IntKind.i64 0] 128) 64 (Nat.le_refl _) (by simp only [maxLen]; omega) (by rw [size_madeCells])
  have O0 := Lib.hid ow
  have B0 : Below w.heap.size w (w.alloc (.cells (madeCells #[Value.int IntKind.i64 0, Value.int IntKind.i64 0] 128) 58)) := (Below.refl _ _).alloc (Nat.le_refl _) _
  have HB0 := Lib.hid B0
  have L0 := Lib.hid (hl.later B0)
  have S0 : (w.alloc (.cells (madeCells #[Value.int IntKind.i64 0, Value.int IntKind.i64 0] 128) 58)).heap.size = w.heap.size + 1 := by simp
  have HS0 := Lib.hid S0
  clear hl hwf ow B0 S0
  go_enter Try.func24, Try.ntmps24
  go_wp2_with fail
  clear hmk
  generalize w.alloc (.cells (madeCells #[Value.int IntKind.i64 0, Value.int IntKind.i64 0] 128) 58) = W0 at *
  have hS0 := HS0.out
  refine (rweigh_any a c l W0 L0.out HWF.out).mono ?_
  rintro e w1 ⟨gW, rfl, row, b1⟩
  have R1 := Lib.hid row
  have O1 := Lib.hid (hrow_later O0.out b1)
  have HB1 := Lib.hid (HB0.out.trans (b1.mono HB0.out.size))
  have L1 := Lib.hid (L0.out.later b1)
  have hs1 := b1.size
  have gl := row.lt gW rfl
  clear b1 row
  go_wp2_with fail
  refine (rvars_any a c l w1 L1.out HWF.out).mono ?_
  rintro e w2 ⟨v, rfl, own, b2⟩
  obtain ⟨av, cv, rfl, hI⟩ := own_iC own
  have R2 := Lib.hid (own_later R1.out b2)
  have O2 := Lib.hid (hrow_later O1.out b2)
  have HB2 := Lib.hid (HB1.out.trans (b2.mono HB1.out.size))
  have hs2 := b2.size
  have I2 := Lib.hid hI
  clear own hI b2
  obtain ⟨V, hV⟩ : ∃ V, V = varsS l := ⟨_, rfl⟩
  have HN := Lib.hid (show slotsD (weighS l) V V 0 = slotsS l by rw [hV]; rfl)
  have HH := Lib.hid (show homesD (weighS l) V V (List.replicate 128 0) = homesS l by rw [hV]; rfl)
  obtain ⟨NS, hNS⟩ : ∃ n, n = slotsS l := ⟨_, rfl⟩
  rw [← hNS] at HN
  have HNS := Lib.hid hNS
  rw [← hV] at I2 VL VI ⊢
  obtain ⟨W, hW⟩ : ∃ W, W = weighS l := ⟨_, rfl⟩
  rw [← hW] at R2 GW HN HH
  obtain ⟨nv, hnv⟩ : ∃ n, n = V.length := ⟨_, rfl⟩
  have HNV := Lib.hid hnv
  rw [← hnv] at VL ⊢
  clear hV hNS hW hnv
  go_wp2_with fail
  go_loopw [5, 8] (fun sl i wr => ∃ (k n : Nat) (H : List Int), k ≤ nv ∧ n ≤ k ∧ i = .int .i64 k ∧ sl = .int .i64 n ∧ HRow wr w.heap.size w.heap.size H ∧ w2.grownBy wr (some w.heap.size) ∧ homesD W V (V.drop k) H = homesS l ∧ slotsD W V (V.drop k) n = NS) (fun _ i _ => nv - (intOf i).toNat)
  case atStart => exact ⟨0, 0, _, Nat.zero_le _, Nat.le_refl _, rfl, rfl, O2.out, World.grownBy.refl _ _, by rw [List.drop_zero]; exact HH.out, by rw [List.drop_zero]; exact HN.out⟩
  case round =>
    obtain ⟨k, n, H, hk, hnk, rfl, rfl, ho, hg, hT, hU⟩ := hrel
    have HO := Lib.hid ho
    have HG := Lib.hid hg
    have TT := Lib.hid hT
    have UU := Lib.hid hU
    have hgs := hg.size
    clear ho hg hT hU
    by_cases hlt : k < nv
    · have tl : decide ((k : Int) < (nv : Int)) = true := by simp; omega
      obtain ⟨v, hv⟩ : ∃ v, V[k]? = some v := ⟨V[k]'(by have := HNV.out; omega), List.getElem?_eq_getElem _⟩
      obtain ⟨hv0, hv1⟩ := VI.out v (List.mem_of_getElem? hv)
      have hvI : In64 v := ⟨hv0, hv1⟩
      obtain ⟨D, rfl⟩ : ∃ D : Nat, v = (D : Int) := ⟨v.toNat, by omega⟩
      have hD : D < 64 := by omega
      have DN := Lib.hid (drop_next hv)
      obtain ⟨zi0, zi1, ezi⟩ := goodW_at GW.out hvI
      rcases I2.out with hnil | ⟨G, rfl, hG1, hG2, hG3⟩
      · rw [hnil] at hv; simp at hv
      have civ := HG.out.cell (hG3 k _ hv) (by simp; omega)
      have rcw : ∀ (d : Nat) (z : Value), d < 64 → (W.map iv)[d]? = some z → wr.cell? ⟨gW, d, none⟩ = some z := by
        intro d z hd hz
        have := R2.out.cellAt d (by omega)
        rw [hz] at this
        exact HG.out.cell this (by simp; omega)
      have ciw := rcw D _ hD ezi
      have RCW := Lib.hid rcw
      obtain ⟨zi, hzi⟩ : ∃ z, z = wAt W (D : Int) := ⟨_, rfl⟩
      rw [← hzi] at ciw zi0 zi1
      have HZI := Lib.hid hzi
      have CIV := Lib.hid civ
      have CIW := Lib.hid ciw
      have G3 := Lib.hid hG3
      have HAT := Lib.hid (ahead_full (W := W) (V := V) (v := (D : Int)))
      obtain ⟨wo, rfl⟩ : ∃ wo : World, wo = wr := ⟨_, rfl⟩
      clear hv hvI hG3 ezi rcw hzi civ ciw
      go_wp2_with fail
      go_loopw [9, 10] (fun ah j wr => ∃ (j0 n0 : Nat), j0 ≤ nv ∧ n0 ≤ j0 ∧ j = .int .i64 j0 ∧ ah = .int .i64 n0 ∧ n0 = aheadW W (V.take j0) (D : Int) ∧ Below wo.heap.size wo wr) (fun _ j _ => nv - (intOf j).toNat)
      case atStart => exact ⟨0, 0, Nat.zero_le _, Nat.le_refl _, rfl, rfl, rfl, Below.refl _ _⟩
      case round =>
        obtain ⟨j, m, hj, hmj, rfl, rfl, hm, hb⟩ := hrel
        have HM := Lib.hid hm
        have HBo := Lib.hid hb
        by_cases hjl : j < nv
        · have tl2 : decide ((j : Int) < (nv : Int)) = true := by simp; omega
          obtain ⟨u, hu⟩ : ∃ v, V[j]? = some v := ⟨V[j]'(by have := HNV.out; omega), List.getElem?_eq_getElem _⟩
          obtain ⟨hu0, hu1⟩ := VI.out u (List.mem_of_getElem? hu)
          have huI : In64 u := ⟨hu0, hu1⟩
          obtain ⟨E, rfl⟩ : ∃ D : Nat, u = (D : Int) := ⟨u.toNat, by omega⟩
          have hE : E < 64 := by omega
          obtain ⟨zk0, zk1, ezk⟩ := goodW_at GW.out huI
          have ckv := (hb.cell (p := ⟨G, j, none⟩) (by simp; omega)).trans (HG.out.cell (G3.out j _ hu) (by simp; omega))
          have ckw := (hb.cell (p := ⟨gW, E, none⟩) (by simp; omega)).trans (RCW.out E _ hE ezk)
          have civ := (hb.cell (p := ⟨G, k, none⟩) (by simp; omega)).trans CIV.out
          have ciw := (hb.cell (p := ⟨gW, D, none⟩) (by simp; omega)).trans CIW.out
          obtain ⟨zk, hzk⟩ : ∃ z, z = wAt W (E : Int) := ⟨_, rfl⟩
          rw [← hzk] at ckw zk0 zk1
          have CN := count_next (W := W) (v := (D : Int)) hu
          unfold lt2W at CN
          rw [← HZI.out, ← hzk, ← hm] at CN
          have hbd : Below wo.heap.size wo wr.drew := hb.drew
          have HBD := Lib.hid hbd
          clear hu huI ezk hzk hb hbd hm
          by_cases h1 : zi < zk
          · have t1 : decide (zi < zk) = true := by simpa using h1
            rw [if_pos (by simp [*])] at CN
            have CNN := Lib.hid CN
            clear CN
            go_wp2_with fail
            go_region
            go_wp2_with fail
            refine ⟨⟨j + 1, m + 1, by omega, by omega, by simp, by simp, CNN.out.symm, HBD.out⟩, by simp [intOf]; omega⟩
          · have t1 : decide (zi < zk) = false := by simpa using h1
            by_cases h2 : zk = zi
            · have t2 : (zk == zi) = true := by simpa using h2
              by_cases h3 : E < D
              · have t3 : decide ((E : Int) < (D : Int)) = true := by simp; omega
                have H2 := Lib.hid h2
                have t4 : decide (E < D) = true := by simpa using h3
                rw [if_pos (by simp [*])] at CN
                have CNN := Lib.hid CN
                clear CN
                go_wp2_with fail
                go_region
                go_wp2_with fail
                refine ⟨⟨j + 1, m + 1, by omega, by omega, by simp, by simp, CNN.out.symm, HBD.out⟩, by simp [intOf]; omega⟩
              · have t3 : decide ((E : Int) < (D : Int)) = false := by simp; omega
                rw [if_neg (by simp [*])] at CN
                have CNN := Lib.hid CN
                clear CN
                go_wp2_with fail
                go_region
                go_wp2_with fail
                refine ⟨⟨j + 1, m, by omega, by omega, by simp, rfl, CNN.out.symm, HBD.out⟩, by simp [intOf]; omega⟩
            · have t2 : (zk == zi) = false := by simpa using h2
              rw [if_neg (by simp [*])] at CN
              have CNN := Lib.hid CN
              clear CN
              go_wp2_with fail
              go_region
              go_wp2_with fail
              refine ⟨⟨j + 1, m, by omega, by omega, by simp, rfl, CNN.out.symm, HBD.out⟩, by simp [intOf]; omega⟩
        · obtain rfl : j = nv := by omega
          have tl2 : decide ((j : Int) < (j : Int)) = false := by simp
          have hm2 : m = aheadW W V (D : Int) := by rw [hm, HNV.out, List.take_length]
          have HM2 := Lib.hid hm2
          have OB := Lib.hid (hrow_later HO.out hb)
          have GB := Lib.hid (HG.out.trans (grown_of_below hb (some w.heap.size)))
          have civ := (hb.cell (p := ⟨G, k, none⟩) (by simp; omega)).trans CIV.out
          have hbs := hb.size
          clear hm hm2 hb HM HAT
          by_cases h20 : m < 20
          · have tl3 : decide ((m : Int) < 20) = true := by simp; omega
            obtain ⟨c1, f1, gs⟩ := OB.out.at (j := D * 2) (by omega)
            have KEY := Lib.hid (OB.out.set (D * 2) (5 + (m : Int)))
            go_wp2_with fail
            refine ⟨⟨k + 1, n, H.set (D * 2) (5 + (m : Int)), by omega, by omega, by simp, rfl, KEY.out.1, GB.out.trans KEY.out.2, ?_, ?_⟩, by simp [intOf]; omega⟩
            · rw [← TT.out, DN.out, homesD, ← HM2.out]
              unfold layH
              rw [if_pos h20, Int.toNat_natCast]
            · rw [← UU.out, DN.out, slotsD, ← HM2.out, if_pos h20]
          · have tl3 : decide ((m : Int) < 20) = false := by simp; omega
            obtain ⟨c1, f1, gs⟩ := OB.out.at (j := D * 2 + 1) (by omega)
            have KEY := Lib.hid (OB.out.set (D * 2 + 1) ((m : Int) - 20))
            go_wp2_with fail
            refine ⟨⟨k + 1, n + 1, H.set (D * 2 + 1) ((m : Int) - 20), by omega, by omega, by simp, by simp, KEY.out.1, GB.out.trans KEY.out.2, ?_, ?_⟩, by simp [intOf]; omega⟩
            · rw [← TT.out, DN.out, homesD, ← HM2.out]
              unfold layH
              rw [if_neg h20, Int.toNat_natCast]
            · rw [← UU.out, DN.out, slotsD, ← HM2.out, if_neg h20]
    · obtain rfl : k = nv := by omega
      have tl : decide ((k : Int) < (k : Int)) = false := by simp
      have e := TT.out
      have e2 := UU.out
      rw [List.drop_of_length_le (by have := HNV.out; omega)] at e e2
      have e : H = homesS l := e
      have e2 : n = NS := e2
      subst e
      subst e2
      have HB7 := Lib.hid (HB2.out.grown HG.out HB2.out.size (fun j hj => by cases hj; exact Nat.le_refl _))
      clear TT UU hlt
      go_wp2_with fail
      go_ret2
      exact ⟨w.heap.size, by rw [← HNS.out]; rfl, HO.out, HB7.out⟩
end Go.Proofs.Ytolohbegdjnjnaa
