/- live.heldAt. -/
import Derived.Test.YtmifojpmomdmeaaPkM
import Derived.Deep.DeepCutAuto
import Derived.Carry
import Derived.Lib.Hide
import Derived.Handy
namespace Go.Proofs.Ytmifojpmomdmeaa
open Go Go.RowKit Go.Maps
set_option linter.unusedVariables false
set_option linter.unusedSimpArgs false
set_option maxRecDepth 100000

set_option maxHeartbeats 4000000 in
theorem held_any (l : List Lg) (hok : ∀ x ∈ l, x.okay) (at0 : Option Addr) (c : Nat) (p : Int) (w : World) (hA : LgAt w at0 l) (hl : l.length ≤ 1000000) (hc : c ≤ 9223372036854775807) :
    Calls Try.prog 30 #[.slice at0 l.length c, .int .i64 p] w fun e w' => e = .returned (.int .i64 (heldF l p)) ∧ Below w.heap.size w w' := by
  have HA := Lib.hid hA
  have HOK := Lib.hid hok
  have HFK := Lib.hid (heldF_keys l p)
  have HND := Lib.hid (allB_nodup (l.filter (heldB p)))
  have hli : (l.length : Int) ≤ 1000000 := by omega
  obtain ⟨T, hT⟩ : ∃ T, T = heldF l p := ⟨_, rfl⟩
  have HT := Lib.hid hT
  rw [← hT]
  clear hA hok hT
  have hmk := fun (W : World) => run_makeMap (P := Try.prog) 57 W
  go_enter Try.func30, Try.ntmps30
  go_upto_region 2 with fail
  have HM1 := Lib.hid (MapG.made w)
  have HB1 := Lib.hid (Below.alloc (Below.refl w.heap.size w) (Nat.le_refl _) (.map #[] 0))
  obtain ⟨b, hb⟩ : ∃ b, b = w.heap.size := ⟨_, rfl⟩
  rw [← hb] at HM1 ⊢
  have HBB := Lib.hid (show w.heap.size ≤ b by rw [hb]; exact Nat.le_refl _)
  clear hb hmk
  generalize w.alloc (.map #[] 0) = W1 at *
  go_wp2_with fail
  go_loopw [14] (fun s14 wr => ∃ k : Nat, k ≤ l.length ∧ s14 = .int .i64 k ∧ MapG wr b k (keyF p (l.take k)) (fun y => szF p y (l.take k)) ∧ Out (fun j => j = b) W1 wr) (fun s14 _ => l.length - (intOf s14).toNat)
  case atStart => exact ⟨0, Nat.zero_le _, rfl, HM1.out, Out.refl _ _⟩
  case round =>
    obtain ⟨k, hk, rfl, hmp, hO⟩ := hrel
    have HMP := Lib.hid hmp
    have HU := Lib.hid hO
    have HBr := Lib.hid (hO.below HB1.out (Nat.le_refl _) (fun j hj => by subst hj; exact HBB.out))
    clear hmp hO
    by_cases hkl : k < l.length
    · obtain ⟨x, hx⟩ : ∃ x, l[k]? = some x := ⟨_, List.getElem?_eq_getElem hkl⟩
      obtain ⟨g, off, hat, hg, c0, c1, c2, c3, c4⟩ := (HA.out.later HBr.out) k x hx
      subst hat
      have HX := Lib.hid (HOK.out x (List.mem_of_getElem? hx))
      have HTK := Lib.hid (show l.take (k + 1) = l.take k ++ [x] by rw [List.take_add_one, hx]; rfl)
      have HKL := Lib.hid hkl
      have k0 : (0 : Int) ≤ (k : Int) := by omega
      have k1 : (k : Int) < (l.length : Int) := by omega
      obtain ⟨xv, xb, xs, xf, xt⟩ := x
      have HSZ := Lib.hid (szF_in (p := p) (b := xb) (l := l.take k) (fun x hx => HOK.out x (List.mem_of_mem_take hx)))
      dsimp only at c0 c1 c2 c3 c4
      clear hx hkl hk
      go_upto_region 5 with fail
      have hal : Below wr.heap.size wr (wr.alloc (.cells #[.int .i64 xv, .int .i64 xb, .int .i64 xs, .int .i64 xf, .int .i64 xt] 38)) := Below.alloc (Below.refl _ _) (Nat.le_refl _) _
      have RA := Lib.hid (RowAt.new wr [.int .i64 xv, .int .i64 xb, .int .i64 xs, .int .i64 xf, .int .i64 xt] 38)
      have HMA := Lib.hid (HMP.out.over hal)
      have HOA := Lib.hid ((Out.of_below (fun j => j = b) hal))
      obtain ⟨A, hA⟩ : ∃ A, A = wr.heap.size := ⟨_, rfl⟩
      have HAb := Lib.hid (show ¬ A = b by have := HMP.out.lt; omega)
      rw [← hA] at RA ⊢
      obtain ⟨W, hW⟩ : ∃ W, W = wr.alloc (.cells #[.int .i64 xv, .int .i64 xb, .int .i64 xs, .int .i64 xf, .int .i64 xt] 38) := ⟨_, rfl⟩
      have hE : wr.alloc (.cells [Value.int .i64 xv, .int .i64 xb, .int .i64 xs, .int .i64 xf, .int .i64 xt].toArray 38) = W := by rw [hW]
      rw [hE] at RA
      rw [← hW] at HMA HOA ⊢
      clear hal hA hW hE c0 c1 c2 c3 c4
      have a1 := RA.out.cell 1 _ rfl
      have a2 := RA.out.cell 2 _ rfl
      have a3 := RA.out.cell 3 _ rfl
      have a4 := RA.out.cell 4 _ rfl
      have al := RA.out.lt
      have HNO := Lib.hid (fun (e : heldB p ⟨xv, xb, xs, xf, xt⟩ = false) => show MapG W b (k + 1) (keyF p (l.take (k + 1))) (fun y => szF p y (l.take (k + 1))) by
        rw [HTK.out, keyF_snoc, if_neg (by rw [e]; simp), show (fun y => szF p y (l.take k ++ [⟨xv, xb, xs, xf, xt⟩])) = fun y => szF p y (l.take k) from funext fun y => by rw [szF_snoc, e]; rfl]
        obtain ⟨D, ⟨es, clock, q1, q2, q3, q4⟩, q5⟩ := HMA.out
        exact ⟨D, ⟨es, clock, q1, q2, Nat.le_succ_of_le q3, q4⟩, q5⟩)
      by_cases h1 : xf ≤ p
      · by_cases h2 : p ≤ xt
        · have HHD := Lib.hid (show heldB p ⟨xv, xb, xs, xf, xt⟩ = true by simp [heldB, h1, h2])
          clear HNO
          obtain ⟨z, hz⟩ : ∃ z, z = szF p xb (l.take k) := ⟨_, rfl⟩
          have HLK := Lib.hid hz
          rw [← hz] at HSZ
          have HMX := Lib.hid (show In64 (max z xs) by have h1 := HSZ.out; have h2 := HX.out.2.2.1; unfold In64 at h1 h2 ⊢; dsimp only at h2; omega)
          have HYES := Lib.hid (show keyF p (l.take (k + 1)) = (if xb ∈ keyF p (l.take k) then keyF p (l.take k) else keyF p (l.take k) ++ [xb]) ∧ (fun y => szF p y (l.take (k + 1))) = fun y => if xb = y then max z xs else szF p y (l.take k) by
            rw [HTK.out, keyF_snoc, if_pos HHD.out]
            refine ⟨rfl, funext fun y => ?_⟩
            rw [szF_snoc, HHD.out]
            by_cases e : xb = y
            · subst e; rw [if_pos rfl, hz]; simp
            · rw [if_neg e]; simp [e])
          clear hz
          go_wp2_with (first
            | (at_lookup; refine look_g _ rfl _ _ 57 rfl Try.underlying57 b k _ _ rfl HMA.out xb rfl HX.out.2.1 ?_; rw [← HLK.out])
            | (at_mapUpdate; refine store_g _ rfl _ _ _ 57 rfl Try.underlying57 b k _ _ rfl HMA.out (by have := HKL.out; omega) xb (max z xs) rfl rfl HX.out.2.1 HMX.out ?_; intro w8 hm8 ho8; have HM8 := Lib.hid hm8; have HO8 := Lib.hid ho8; clear hm8 ho8))
          refine ⟨⟨k + 1, HKL.out, rfl, ?_, (HU.out.trans HOA.out).trans HO8.out⟩, by have := HKL.out; simp [intOf]; omega⟩
          rw [HYES.out.1, HYES.out.2]
          exact HM8.out
        · have HH := Lib.hid (HNO.out (by simp [heldB, h2]))
          clear HNO
          go_wp2_with fail
          exact ⟨⟨k + 1, HKL.out, rfl, HH.out, HU.out.trans HOA.out⟩, by have := HKL.out; simp [intOf]; omega⟩
      · have HH := Lib.hid (HNO.out (by simp [heldB, h1]))
        clear HNO
        go_wp2_with fail
        exact ⟨⟨k + 1, HKL.out, rfl, HH.out, HU.out.trans HOA.out⟩, by have := HKL.out; simp [intOf]; omega⟩
    · obtain rfl : k = l.length := by omega
      have kx : ¬ ((l.length : Int) < (l.length : Int)) := by omega
      have HLA := Lib.hid (show l.take l.length = l from List.take_length)
      have HM3 := Lib.hid (show MapG wr b l.length (keyF p l) (fun y => szF p y l) by have h := HMP.out; rw [HLA.out] at h; exact h)
      clear hkl hk
      obtain ⟨wo, rfl⟩ : ∃ wo : World, wo = wr := ⟨_, rfl⟩
      have HRW := Lib.hid (show w.heap.size ≤ wo.heap.size from HBr.out.size)
      go_wp2_with (at_range; refine range_g _ rfl _ 57 rfl Try.underlying57 b l.length _ _ rfl HM3.out HND.out ?_; intro w5 hr5 hb5; have HR5 := Lib.hid hr5; have HB5 := Lib.hid (below_call HBr.out hb5); clear hr5 hb5)
      go_loopw [8] (fun s8 wx => ∃ (R : List Int) (s : Int), s8 = .int .i64 s ∧ 0 ≤ s ∧ s ≤ 1099511627776 ∧ cap (s + sumG (fun y => cap (szF p y l)) R) = T ∧ RangeG wx b wo.heap.size l.length (fun y => szF p y l) R ∧ Out (fun j => j = wo.heap.size) w5 wx) (fun _ wx => wx.rangeLeft b wo.heap.size)
      case atStart => exact ⟨_, 0, rfl, Int.le_refl _, by decide, by rw [Int.zero_add, HT.out]; exact HFK.out, HR5.out, Out.refl _ _⟩
      case round =>
        obtain ⟨R, s, rfl, s0, s1, hs, hrg, hO⟩ := hrel
        have HRG := Lib.hid hrg
        have HU2 := Lib.hid hO
        have HS := Lib.hid hs
        have HBx := Lib.hid (hO.below HB5.out (Nat.le_refl _) (fun j hj => by subst hj; exact HRW.out))
        clear hrg hO hs
        go_wp2_with (at_next; go_loud (refine next_g _ rfl _ rfl b wo.heap.size l.length _ R rfl HRG.out ?_ ?_))
        · intro hR
          subst hR
          have HST := Lib.hid (show s = T by have h := HS.out; unfold cap sumG at h; omega)
          go_wp2_with fail
          go_returns
          rw [HST.out]
          exact ⟨rfl, HBx.out⟩
        · intro x w6 hx hr6 hlt6 ho6 hs6 hen
          obtain ⟨z, hz⟩ : ∃ z, z = szF p x l := ⟨_, rfl⟩
          have z0 : 0 ≤ z := by rw [hz]; exact szF_nn _ _ _
          have HIN := Lib.hid (show In64 z by rw [hz]; exact szF_in HOK.out)
          have hz1 : z ≤ 9223372036854775807 := HIN.out.2
          have HS2 := Lib.hid (show cap (s + (cap z + sumG (fun y => cap (szF p y l)) (R.erase x))) = T by rw [hz]; have h := HS.out; rw [sumG_erase (fun y => cap (szF p y l)) hx] at h; exact h)
          rw [← hz] at hen ⊢
          have HR6 := Lib.hid hr6
          have HO6 := Lib.hid ho6
          have HLT := Lib.hid hlt6
          have HNN := Lib.hid (show 0 ≤ sumG (fun y => cap (szF p y l)) (R.erase x) from sumG_nn (fun y _ => cap_nn (szF_nn _ _ _)))
          clear hr6 ho6 hlt6 hz hx
          go_wp2_with fail
          refine ⟨⟨R.erase x, _, rfl, ?_, ?_, ?_, HR6.out, HU2.out.trans HO6.out⟩, HLT.out⟩
          · omega
          · omega
          · have h := HS2.out
            have h0 := HNN.out
            generalize sumG (fun y => cap (szF p y l)) (R.erase x) = q at h h0
            rw [← h]
            unfold cap
            omega
end Go.Proofs.Ytmifojpmomdmeaa
