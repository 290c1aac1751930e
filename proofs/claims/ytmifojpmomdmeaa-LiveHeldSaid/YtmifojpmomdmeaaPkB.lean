/- live.Peak. -/
import Derived.Test.YtmifojpmomdmeaaPkA
namespace Go.Proofs.Ytmifojpmomdmeaa
open Go Go.RowKit Go.Maps
set_option linter.unusedVariables false
set_option linter.unusedSimpArgs false
set_option maxRecDepth 100000

theorem peakK_snoc (l : List Lg) (x : Lg) : ∀ (r : List Lg) (a : Int), peakK l (r ++ [x]) a = if x.f ≤ x.t then max (peakK l r a) (heldF l x.f) else peakK l r a
  | [], a => rfl
  | y :: r, a => by
    show peakK l (r ++ [x]) _ = _
    rw [peakK_snoc l x r]
    rfl
theorem peakK_in (l : List Lg) : ∀ (r : List Lg) (a : Int), 0 ≤ a → a ≤ 1099511627776 → 0 ≤ peakK l r a ∧ peakK l r a ≤ 1099511627776
  | [], a, h0, h1 => ⟨h0, h1⟩
  | y :: r, a, h0, h1 => by
    have := heldF_in l y.f
    refine peakK_in l r _ ?_ ?_ <;> split <;> omega
set_option maxHeartbeats 4000000 in
theorem peak_calls (l : List Lg) (hok : ∀ x ∈ l, x.okay) (at0 : Option Addr) (c : Nat) (w : World) (hA : LgAt w at0 l) (hl : l.length ≤ 1000000) (hc : c ≤ 9223372036854775807) :
    Calls Try.prog 13 #[.slice at0 l.length c] w fun e w' => e = .returned (.int .i64 (peakF l)) ∧ Below w.heap.size w w' := by
  have HA := Lib.hid hA
  have HH := Lib.hid (fun (p : Int) (W : World) (hW : Below w.heap.size w W) => held_any l hok at0 c p W (hA.later hW) hl hc)
  have hli : (l.length : Int) ≤ 1000000 := by omega
  obtain ⟨T, hT⟩ : ∃ T, T = peakF l := ⟨_, rfl⟩
  have HT := Lib.hid hT
  rw [← hT]
  clear hA hok hT
  go_enter Try.func13, Try.ntmps13
  go_wp2_with fail
  go_loopw [3, 8] (fun s3 s8 wr => ∃ (k : Nat) (a : Int), k ≤ l.length ∧ s8 = .int .i64 k ∧ s3 = .int .i64 a ∧ a = peakK l (l.take k) 0 ∧ Below w.heap.size w wr) (fun _ s8 _ => l.length - (intOf s8).toNat)
  case atStart => exact ⟨0, 0, Nat.zero_le _, rfl, rfl, rfl, Below.refl _ _⟩
  case round =>
    obtain ⟨k, a, hk, rfl, rfl, ha, hB⟩ := hrel
    have HB := Lib.hid hB
    have HAK := Lib.hid ha
    have ⟨a0, a1⟩ : 0 ≤ a ∧ a ≤ 1099511627776 := by rw [ha]; exact peakK_in l _ 0 (Int.le_refl _) (by decide)
    clear hB ha
    by_cases hkl : k < l.length
    · obtain ⟨x, hx⟩ : ∃ x, l[k]? = some x := ⟨_, List.getElem?_eq_getElem hkl⟩
      obtain ⟨g, off, hat, hg, c0, c1, c2, c3, c4⟩ := (HA.out.later HB.out) k x hx
      subst hat
      have HTK := Lib.hid (show l.take (k + 1) = l.take k ++ [x] by rw [List.take_add_one, hx]; rfl)
      have HKL := Lib.hid hkl
      have k0 : (0 : Int) ≤ (k : Int) := by omega
      have k1 : (k : Int) < (l.length : Int) := by omega
      obtain ⟨xv, xb, xs, xf, xt⟩ := x
      dsimp only at c0 c1 c2 c3 c4
      clear hx hkl hk
      go_upto_region 5 with fail
      have hal : Below wr.heap.size wr (wr.alloc (.cells #[.int .i64 xv, .int .i64 xb, .int .i64 xs, .int .i64 xf, .int .i64 xt] 38)) := Below.alloc (Below.refl _ _) (Nat.le_refl _) _
      have RA := Lib.hid (RowAt.new wr [.int .i64 xv, .int .i64 xb, .int .i64 xs, .int .i64 xf, .int .i64 xt] 38)
      have HOA := Lib.hid (below_call HB.out hal)
      obtain ⟨A, hA⟩ : ∃ A, A = wr.heap.size := ⟨_, rfl⟩
      rw [← hA] at RA ⊢
      obtain ⟨W, hW⟩ : ∃ W, W = wr.alloc (.cells #[.int .i64 xv, .int .i64 xb, .int .i64 xs, .int .i64 xf, .int .i64 xt] 38) := ⟨_, rfl⟩
      have hE : wr.alloc (.cells [Value.int .i64 xv, .int .i64 xb, .int .i64 xs, .int .i64 xf, .int .i64 xt].toArray 38) = W := by rw [hW]
      rw [hE] at RA
      rw [← hW] at HOA ⊢
      clear hal hA hW hE c0 c1 c2 c3 c4
      have a3 := RA.out.cell 3 _ rfl
      have a4 := RA.out.cell 4 _ rfl
      have al := RA.out.lt
      by_cases h1 : xf ≤ xt
      · obtain ⟨q, hq⟩ : ∃ q, q = heldF l xf := ⟨_, rfl⟩
        have ⟨q0, q1⟩ : 0 ≤ q ∧ q ≤ 1099511627776 := by rw [hq]; exact heldF_in l xf
        have HX := Lib.hid (HH.out xf W HOA.out)
        rw [← hq] at HX
        have HYES := Lib.hid (show peakK l (l.take (k + 1)) 0 = max a q by rw [HTK.out, peakK_snoc, if_pos h1, ← HAK.out, hq])
        clear hq
        go_wp2_with (go_at_call 30; (with_reducible refine HX.out.mono ?_); rintro e w5 ⟨rfl, hb5⟩; have HB5 := Lib.hid (below_call HOA.out hb5); clear hb5)
        refine ⟨⟨k + 1, _, HKL.out, rfl, rfl, ?_, HB5.out⟩, by have := HKL.out; simp [intOf]; omega⟩
        rw [HYES.out]
      · have HNO := Lib.hid (show peakK l (l.take (k + 1)) 0 = a by rw [HTK.out, peakK_snoc, if_neg h1, ← HAK.out])
        go_wp2_with fail
        exact ⟨⟨k + 1, a, HKL.out, rfl, rfl, HNO.out.symm, HOA.out⟩, by have := HKL.out; simp [intOf]; omega⟩
    · obtain rfl : k = l.length := by omega
      have kx : ¬ ((l.length : Int) < (l.length : Int)) := by omega
      have HE := Lib.hid (show a = T by rw [HAK.out, List.take_length, HT.out]; rfl)
      clear hkl hk
      go_wp2_with fail
      go_returns
      rw [HE.out]
      exact ⟨rfl, HB.out⟩
end Go.Proofs.Ytmifojpmomdmeaa
