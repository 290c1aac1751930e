/- The document's Has. -/
import Derived.Test.YtmifojpmomdmeaaChecked
import Derived.Test.YtmifojpmomdmeaaJP
import Derived.Deep.DeepCutAuto
namespace Go.Proofs.Ytmifojpmomdmeaa
open Go Go.RowKit
set_option linter.unusedVariables false
set_option linter.unusedSimpArgs false

/-- the letters of each operator -/
def lettersD (o : Nat) : List UInt8 := match o with
  | 1 => [87, 83] | 2 => [65, 119, 112, 97, 111, 109, 108, 87, 73, 67] | 3 => [65, 119, 112, 97, 111, 109, 108, 87, 73] | 4 => [65, 97, 111, 109, 108, 87, 73, 67] | 5 => [65, 119, 112] | 6 => [65, 119, 112] | 7 => [65, 66, 97, 98, 111, 109, 110, 108]
  | 8 => [65, 66, 97, 98, 111, 109, 108] | 9 => [65, 108] | 10 => [65, 112, 111] | 11 => [65, 83] | 12 => [65, 66] | 13 => [65] | 14 => [65, 87] | _ => []
def strD (o : Nat) : ByteArray := ⟨(lettersD o).toArray⟩
def rowD : List Value := [.string ⟨#[]⟩, .string ⟨#[87, 83]⟩, .string ⟨#[65, 119, 112, 97, 111, 109, 108, 87, 73, 67]⟩, .string ⟨#[65, 119, 112, 97, 111, 109, 108, 87, 73]⟩, .string ⟨#[65, 97, 111, 109, 108, 87, 73, 67]⟩, .string ⟨#[65, 119, 112]⟩, .string ⟨#[65, 119, 112]⟩, .string ⟨#[65, 66, 97, 98, 111, 109, 110, 108]⟩, .string ⟨#[65, 66, 97, 98, 111, 109, 108]⟩, .string ⟨#[65, 108]⟩, .string ⟨#[65, 112, 111]⟩, .string ⟨#[65, 83]⟩, .string ⟨#[65, 66]⟩, .string ⟨#[65]⟩, .string ⟨#[65, 87]⟩]
set_option maxRecDepth 100000 in
set_option maxHeartbeats 4000000 in
theorem has_walk (o : Nat) (h1 : 1 ≤ o) (h2 : o ≤ 14) (c : Int) (b : Bool) (hb : b = (lettersD o).any fun x => ((x.toNat : Int) == c)) (w : World) :
    Calls Try.prog 31 #[.int .i64 o, .int .u8 c] w fun e w' => e = .returned (.bool b) ∧ Below w.heap.size w w' := by
  have hx : decide ((o : Int) < 1) = false := by simp; omega
  have hy : decide (14 < (o : Int)) = false := by simp; omega
  have o0 : (0 : Int) ≤ (o : Int) := by omega
  have o1 : (o : Int) < 15 := by omega
  have RR := Lib.hid (RowAt.new w rowD 9)
  have hrow : rowD[o]? = some (.string (strD o)) := by
    have : o = 1 ∨ o = 2 ∨ o = 3 ∨ o = 4 ∨ o = 5 ∨ o = 6 ∨ o = 7 ∨ o = 8 ∨ o = 9 ∨ o = 10 ∨ o = 11 ∨ o = 12 ∨ o = 13 ∨ o = 14 := by omega
    rcases this with rfl | rfl | rfl | rfl | rfl | rfl | rfl | rfl | rfl | rfl | rfl | rfl | rfl | rfl <;> rfl
  have HB := Lib.hid hb
  have BB := Lib.hid (Below.alloc (Below.refl w.heap.size w) (Nat.le_refl _) (.cells rowD.toArray 9))
  obtain ⟨S, hS⟩ : ∃ S, S = strD o := ⟨_, rfl⟩
  have hsz : S.size = (lettersD o).length := by rw [hS]; simp [strD, ByteArray.size]
  have hat : ∀ (k : Nat) (x : UInt8), (lettersD o)[k]? = some x → S[k]? = some x := by
    intro k x hk
    rw [hS]
    obtain ⟨hl, he⟩ := List.getElem?_eq_some_iff.1 hk
    have hl2 : k < (strD o).size := by simp [strD, ByteArray.size]; exact hl
    have h3 : (strD o)[k]? = some ((strD o)[k]'hl2) := by simp [getElem?, decidableGetElem?, hl2]
    rw [h3, ← he]
    rfl
  rw [← hS] at hrow
  have HAT := Lib.hid hat
  have HSZ := Lib.hid hsz
  have hll : (lettersD o).length ≤ 10 := by
    have : o = 1 ∨ o = 2 ∨ o = 3 ∨ o = 4 ∨ o = 5 ∨ o = 6 ∨ o = 7 ∨ o = 8 ∨ o = 9 ∨ o = 10 ∨ o = 11 ∨ o = 12 ∨ o = 13 ∨ o = 14 := by omega
    rcases this with rfl | rfl | rfl | rfl | rfl | rfl | rfl | rfl | rfl | rfl | rfl | rfl | rfl | rfl <;> decide
  obtain ⟨L, hL⟩ : ∃ L, L = lettersD o := ⟨_, rfl⟩
  rw [← hL] at HB HAT HSZ hll
  clear hb hat hsz hS hL
  go_enter Try.func31, Try.ntmps31
  go_upto_region 1 with fail
  go_cut [5] (fun s5 wx => s5 = .slice (some ⟨w.heap.size, 0, none⟩) 15 15 ∧ wx.cell? ⟨w.heap.size, o, none⟩ = some (.string S) ∧ w.heap.size < wx.heap.size ∧ Below w.heap.size w wx)
  case first =>
    go_wp2_with fail
    go_meet
    exact ⟨rfl, RR.out.cell o _ hrow, RR.out.lt, BB.out⟩
  case rest =>
    obtain ⟨rfl, hc, hl, hbw⟩ := hcut
    have HBW := Lib.hid hbw
    have HC := Lib.hid hc
    have hlen : S.size = L.length := HSZ.out
    clear hbw hrow RR BB
    go_wp2_with fail
    go_loopw [6] (fun s6 wr => ∃ k : Nat, k ≤ L.length ∧ s6 = .int .i64 k ∧ Below wc.heap.size wc wr ∧ ∀ (j : Nat) (x : UInt8), j < k → L[j]? = some x → ((x.toNat : Int) == c) = false) (fun s6 _ => L.length - (intOf s6).toNat)
    case atStart => exact ⟨0, Nat.zero_le _, rfl, Below.refl _ _, fun j x hj _ => absurd hj (Nat.not_lt_zero _)⟩
    case round =>
      obtain ⟨k, hk, rfl, hb, hno⟩ := hrel
      have HBL := Lib.hid hb
      have HNO := Lib.hid hno
      have c1 := (hb.cell (p := ⟨w.heap.size, o, none⟩) hl).trans hc
      have l1 := Nat.lt_of_lt_of_le hl hb.size
      clear hno hb
      by_cases hkl : k < L.length
      · obtain ⟨x, hxk⟩ : ∃ x, L[k]? = some x := ⟨_, List.getElem?_eq_getElem hkl⟩
        have hS := HAT.out k x hxk
        have kl0 : (0 : Int) ≤ (k : Int) := by omega
        have kl1 : (k : Int) < (L.length : Int) := by omega
        have HK := Lib.hid hkl
        have HXK := Lib.hid hxk
        have hks : k < S.size := by rw [hlen]; exact hkl
        have hSx : S[k]'hks = x := by
          have h5 : S[k]? = some (S[k]'hks) := by simp [getElem?, decidableGetElem?, hks]
          rw [h5] at hS
          exact Option.some.inj hS
        clear hxk hkl
        cases q : ((x.toNat : Int) == c)
        · have HQ := Lib.hid q
          go_wp2_with fail
          refine ⟨⟨k + 1, HK.out, rfl, HBL.out, fun j y hj hy => ?_⟩, by have := HK.out; simp [intOf]; omega⟩
          by_cases e : j = k
          · subst e
            rw [HXK.out] at hy
            injection hy with hy
            subst hy
            exact HQ.out
          · exact HNO.out j y (by omega) hy
        · have hbt : b = true := by
            rw [HB.out]
            exact List.any_eq_true.2 ⟨x, List.mem_of_getElem? HXK.out, q⟩
          subst hbt
          go_wp2_with fail
          go_ret
          exact ⟨rfl, below_call HBW.out HBL.out⟩
      · obtain rfl : k = L.length := by omega
        have kl1 : ¬ ((L.length : Int) < (L.length : Int)) := by omega
        have hbf : b = false := by
          rw [HB.out, List.any_eq_false]
          intro x hx
          obtain ⟨j, hj⟩ := List.getElem?_of_mem hx
          have := HNO.out j x (List.getElem?_eq_some_iff.1 hj).1 hj
          simp [this]
        subst hbf
        clear hkl
        go_wp2_with fail
        go_ret
        exact ⟨rfl, below_call HBW.out HBL.out⟩
/-- the letters -/
def letD (f : Nat) : Int := match f with
  | 0 => 65 | 1 => 66 | 2 => 119 | 3 => 112 | 4 => 97 | 5 => 98 | 6 => 111 | 7 => 109 | 8 => 110 | 9 => 108 | 10 => 87 | 11 => 73 | 12 => 67 | _ => 83
/-- whether the operator has it -/
def hasD (f : Nat) (o : Int) : Bool := match f with
  | 0 => hA o | 1 => hB o | 2 => hWin o | 3 => hPad o | 4 => hZa o | 5 => hZb o | 6 => hZo o | 7 => hM o | 8 => hN o | 9 => hL o | 10 => hW o | 11 => hI o | 12 => hC o | _ => hS o
set_option maxRecDepth 100000 in
theorem hasd_tab : ((List.range 14).all fun o => (List.range 14).all fun i => ((lettersD (o + 1)).any fun x => ((x.toNat : Int) == letD i)) == hasD i ((o + 1 : Nat) : Int)) = true := by kernel_rfl
theorem has_docD (o : Int) (f : Nat) (h1 : 1 ≤ o) (h2 : o ≤ 14) (hf : f < 14) (w : World) : Calls Try.prog 31 #[.int .i64 o, .int .u8 (letD f)] w fun e w' => e = .returned (.bool (hasD f o)) ∧ Below w.heap.size w w' := by
  have h := List.all_eq_true.1 hasd_tab (o - 1).toNat (List.mem_range.2 (by omega))
  have h' := List.all_eq_true.1 h f (List.mem_range.2 hf)
  have e : (o - 1).toNat + 1 = o.toNat := by omega
  have e2 : ((o.toNat : Nat) : Int) = o := by omega
  rw [e, e2] at h'
  have := has_walk o.toNat (by omega) (by omega) (letD f) (hasD f o) (by simpa using (beq_iff_eq.1 h').symm) w
  rw [e2] at this
  exact this
abbrev HasC (o c : Int) (b : Bool) : Prop := ∀ W : World, Calls Try.prog 31 #[.int .i64 o, .int .u8 c] W fun e w' => e = .returned (.bool b) ∧ Below W.heap.size W w'
theorem hasc (o : Int) (f : Nat) (h1 : 1 ≤ o) (h2 : o ≤ 14) (hf : f < 14) : HasC o (letD f) (hasD f o) := fun W => has_docD o f h1 h2 hf W
theorem rhas_A (o : Int) (h1 : 1 ≤ o) (h2 : o ≤ 14) (w : World) : Calls Try.prog 31 #[.int .i64 o, .int .u8 65] w fun e w' => e = .returned (.bool (hA o)) ∧ Below w.heap.size w w' := has_docD o 0 h1 h2 (by decide) w
theorem rhas_B (o : Int) (h1 : 1 ≤ o) (h2 : o ≤ 14) (w : World) : Calls Try.prog 31 #[.int .i64 o, .int .u8 66] w fun e w' => e = .returned (.bool (hB o)) ∧ Below w.heap.size w w' := has_docD o 1 h1 h2 (by decide) w
theorem rhas_w (o : Int) (h1 : 1 ≤ o) (h2 : o ≤ 14) (w : World) : Calls Try.prog 31 #[.int .i64 o, .int .u8 119] w fun e w' => e = .returned (.bool (hWin o)) ∧ Below w.heap.size w w' := has_docD o 2 h1 h2 (by decide) w
theorem rhas_p (o : Int) (h1 : 1 ≤ o) (h2 : o ≤ 14) (w : World) : Calls Try.prog 31 #[.int .i64 o, .int .u8 112] w fun e w' => e = .returned (.bool (hPad o)) ∧ Below w.heap.size w w' := has_docD o 3 h1 h2 (by decide) w
theorem rhas_a (o : Int) (h1 : 1 ≤ o) (h2 : o ≤ 14) (w : World) : Calls Try.prog 31 #[.int .i64 o, .int .u8 97] w fun e w' => e = .returned (.bool (hZa o)) ∧ Below w.heap.size w w' := has_docD o 4 h1 h2 (by decide) w
theorem rhas_b (o : Int) (h1 : 1 ≤ o) (h2 : o ≤ 14) (w : World) : Calls Try.prog 31 #[.int .i64 o, .int .u8 98] w fun e w' => e = .returned (.bool (hZb o)) ∧ Below w.heap.size w w' := has_docD o 5 h1 h2 (by decide) w
theorem rhas_o (o : Int) (h1 : 1 ≤ o) (h2 : o ≤ 14) (w : World) : Calls Try.prog 31 #[.int .i64 o, .int .u8 111] w fun e w' => e = .returned (.bool (hZo o)) ∧ Below w.heap.size w w' := has_docD o 6 h1 h2 (by decide) w
theorem rhas_m (o : Int) (h1 : 1 ≤ o) (h2 : o ≤ 14) (w : World) : Calls Try.prog 31 #[.int .i64 o, .int .u8 109] w fun e w' => e = .returned (.bool (hM o)) ∧ Below w.heap.size w w' := has_docD o 7 h1 h2 (by decide) w
theorem rhas_n (o : Int) (h1 : 1 ≤ o) (h2 : o ≤ 14) (w : World) : Calls Try.prog 31 #[.int .i64 o, .int .u8 110] w fun e w' => e = .returned (.bool (hN o)) ∧ Below w.heap.size w w' := has_docD o 8 h1 h2 (by decide) w
theorem rhas_l (o : Int) (h1 : 1 ≤ o) (h2 : o ≤ 14) (w : World) : Calls Try.prog 31 #[.int .i64 o, .int .u8 108] w fun e w' => e = .returned (.bool (hL o)) ∧ Below w.heap.size w w' := has_docD o 9 h1 h2 (by decide) w
theorem rhas_WW (o : Int) (h1 : 1 ≤ o) (h2 : o ≤ 14) (w : World) : Calls Try.prog 31 #[.int .i64 o, .int .u8 87] w fun e w' => e = .returned (.bool (hW o)) ∧ Below w.heap.size w w' := has_docD o 10 h1 h2 (by decide) w
theorem rhas_II (o : Int) (h1 : 1 ≤ o) (h2 : o ≤ 14) (w : World) : Calls Try.prog 31 #[.int .i64 o, .int .u8 73] w fun e w' => e = .returned (.bool (hI o)) ∧ Below w.heap.size w w' := has_docD o 11 h1 h2 (by decide) w
theorem rhas_CC (o : Int) (h1 : 1 ≤ o) (h2 : o ≤ 14) (w : World) : Calls Try.prog 31 #[.int .i64 o, .int .u8 67] w fun e w' => e = .returned (.bool (hC o)) ∧ Below w.heap.size w w' := has_docD o 12 h1 h2 (by decide) w
theorem rhas_SS (o : Int) (h1 : 1 ≤ o) (h2 : o ≤ 14) (w : World) : Calls Try.prog 31 #[.int .i64 o, .int .u8 83] w fun e w' => e = .returned (.bool (hS o)) ∧ Below w.heap.size w w' := has_docD o 13 h1 h2 (by decide) w
set_option maxHeartbeats 2000000 in
theorem rhas_no (o c : Int) (h : o < 1 ∨ 14 < o) (w : World) : Calls Try.prog 31 #[.int .i64 o, .int .u8 c] w fun e w' => e = .returned (.bool false) ∧ Below w.heap.size w w' := by
  rcases h with h | h
  · have hx : decide (o < 1) = true := by simpa using h
    clear h
    go_enter Try.func31, Try.ntmps31
    go_wp2_with fail
    go_ret
    exact ⟨rfl, by go_grown⟩
  · have hx : decide (o < 1) = false := by (have h3 := h; simp; omega)
    have hy : decide (14 < o) = true := by simpa using h
    clear h
    go_enter Try.func31, Try.ntmps31
    go_wp2_with fail
    go_ret
    exact ⟨rfl, by go_grown⟩
theorem h_range {o : Int} (h : o < 1 ∨ 14 < o) : hB o = false := by unfold hB; simp; omega
theorem rhas_B' (o : Int) (w : World) : Calls Try.prog 31 #[.int .i64 o, .int .u8 66] w fun e w' => e = .returned (.bool (hB o)) ∧ Below w.heap.size w w' := by
  by_cases h : o < 1 ∨ 14 < o
  · rw [h_range h]; exact rhas_no o 66 h w
  · exact rhas_B o (by omega) (by omega) w
end Go.Proofs.Ytmifojpmomdmeaa
