/- relax.between, relax.lay. -/
import Derived.Test.YtipecnofjdhobaaDoorRxM
namespace Go.Proofs.YtipecnofjdhobaaDoor
open Go Go.RowKit Go.Maps
set_option linter.unusedVariables false
set_option linter.unusedSimpArgs false
set_option maxRecDepth 100000

theorem btw_mk {x y : Bool} {w : World} (h : x = y) : Ending.returned (.bool x) = Ending.returned (.bool y) ∧ w = w := ⟨by rw [h], rfl⟩
theorem between_any (d a b : Int) (w : World) :
    Calls Tryd.prog 31 #[.int .i64 d, .int .i64 a, .int .i64 b] w fun e w' => e = .returned (.bool (decide (a ≤ d) && decide (d ≤ b))) ∧ w' = w := by
  by_cases h1 : a ≤ d
  · by_cases h2 : d ≤ b
    · have C := Lib.hid (show true = (decide (a ≤ d) && decide (d ≤ b)) by simp [h1, h2])
      have t1 : decide (a ≤ d) = true := by simp [h1]
      have t2 : decide (d ≤ b) = true := by simp [h2]
      go_enter Tryd.func31, Tryd.ntmps31
      go_wp2_with fail
      go_ret
      first | exact btw_mk C.out | exact btw_mk rfl
    · have C := Lib.hid (show false = (decide (a ≤ d) && decide (d ≤ b)) by simp [h1, h2])
      have t1 : decide (a ≤ d) = true := by simp [h1]
      have t2 : decide (d ≤ b) = false := by simp; omega
      go_enter Tryd.func31, Tryd.ntmps31
      go_wp2_with fail
      go_ret
      first | exact btw_mk C.out | exact btw_mk rfl
  · have C := Lib.hid (show false = (decide (a ≤ d) && decide (d ≤ b)) by simp [h1])
    have t1 : decide (a ≤ d) = false := by simp; omega
    go_enter Tryd.func31, Tryd.ntmps31
    go_wp2_with fail
    go_ret
    first | exact btw_mk C.out | exact btw_mk rfl
theorem lay_0 (s : Nat → Int) (n : Nat) : iR n (fun j => if j ≤ 0 then plR s j else 0) = iR n fun _ => 0 := iR_eq fun j _ => by
  by_cases e : j = 0
  · subst e; rfl
  · rw [if_neg (by omega)]
theorem lay_if (s : Nat → Int) (k j : Nat) : (if j ≤ k + 1 then plR s j else 0) = if j = k + 1 then plR s k + s k else if j ≤ k then plR s j else 0 := by
  by_cases e : j = k + 1
  · subst e; rw [if_pos (Nat.le_refl _), if_pos rfl]; rfl
  · rw [if_neg e]
    by_cases h : j ≤ k
    · rw [if_pos h, if_pos (by omega)]
    · rw [if_neg h, if_neg (by omega)]
set_option maxHeartbeats 4000000 in
theorem lay_any (s : Nat → Int) (hs : ∀ i, 0 ≤ s i ∧ s i ≤ 8) (n G : Nat) (w : World) (hR : RowAt w G (iR n s)) (hn : n ≤ 4000) :
    Calls Tryd.prog 41 #[.slice (some ⟨G, 0, none⟩) n n] w fun e w' => ∃ b, e = .returned (.slice (some ⟨b, 0, none⟩) (n + 1) (n + 1)) ∧ w.heap.size ≤ b ∧ RowAt w' b (iR (n + 1) (plR s)) ∧ Below w.heap.size w w' := by
  have HS := Lib.hid hs
  have HBD := Lib.hid (plR_bd hs)
  have HRW := Lib.hid hR
  have hni : (n : Int) ≤ 4000 := by omega
  have hmk := fun W => run_make_row' (P := Tryd.prog) 31 3 (.int .i64 0) 8 Tryd.underlying31 info_intO rfl .i64 .i64 (n + 1) (by omega) (by omega) W
  push_cast at hmk
  clear hs hR
  go_enter Tryd.func41, Tryd.ntmps41
  go_upto_region 2 with fail
  have RB := Lib.hid (iR_made w (n + 1))
  have HB0 := Lib.hid (Below.alloc (Below.refl w.heap.size w) (Nat.le_refl _) (.cells (madeCells #[Value.int .i64 0] (n + 1)) 3))
  obtain ⟨B, hB⟩ : ∃ B, B = w.heap.size := ⟨_, rfl⟩
  rw [← hB] at RB ⊢
  have HBB := Lib.hid (show w.heap.size ≤ B by omega)
  have HBG := Lib.hid (show G < B by have := HRW.out.lt; omega)
  clear hmk hB
  generalize w.alloc (.cells (madeCells #[Value.int .i64 0] (n + 1)) 3) = W1 at *
  go_wp2_with fail
  go_loopw [12] (fun s12 wr => ∃ k : Nat, k ≤ n ∧ s12 = .int .i64 k ∧ RowAt wr B (iR (n + 1) (fun j => if j ≤ k then plR s j else 0)) ∧ Out (fun j => j = B) W1 wr) (fun s12 _ => n - (intOf s12).toNat)
  case atStart => exact ⟨0, Nat.zero_le _, rfl, by rw [lay_0]; exact RB.out, Out.refl _ _⟩
  case round =>
    obtain ⟨k, hk, rfl, hRr, hO⟩ := hrel
    have HR := Lib.hid hRr
    have HO := Lib.hid hO
    have HBr := Lib.hid (hO.below HB0.out (Nat.le_refl _) (fun j hj => by subst hj; exact HBB.out))
    clear hRr hO
    by_cases hkl : k < n
    · have rg := HRW.out.over HBr.out
      have c0 := rg.cell k _ (iR_at s hkl)
      have cl := rg.lt
      have d0 := HR.out.cell k _ (iR_at (n := n + 1) _ (by omega))
      rw [if_pos (Nat.le_refl k)] at d0
      have d1 := HR.out.cell (k + 1) _ (iR_at (n := n + 1) _ (by omega))
      rw [if_neg (by omega)] at d1
      have df := HR.out.fr (k + 1)
      have dl := HR.out.lt
      have k0 : (0 : Int) ≤ (k : Int) := by omega
      have k1 : (k : Int) < (n : Int) := by omega
      have HK := Lib.hid hkl
      have p0 := (HBD.out k).1
      have p1 := (HBD.out k).2
      have s0 := (HS.out k).1
      have s1 := (HS.out k).2
      obtain ⟨x, hx⟩ : ∃ x, x = plR s k := ⟨_, rfl⟩
      obtain ⟨y, hy⟩ : ∃ y, y = s k := ⟨_, rfl⟩
      have HF := Lib.hid (fun j (_ : j < n + 1) => lay_if s k j)
      rw [← hx] at d0 p0 p1 HF
      rw [← hy] at c0 s0 s1 HF
      clear rg hkl hk hx hy
      go_wp2_with fail
      exact ⟨⟨k + 1, by have := HK.out; omega, rfl, iR_row HR.out (by have := HK.out; omega) HF.out, HO.out.trans (out_setB wr B (k + 1) (.int .i64 (x + y)))⟩, by have := HK.out; simp [intOf]; omega⟩
    · obtain rfl : k = n := by omega
      have kx : ¬ ((k : Int) < (k : Int)) := by omega
      have RF := Lib.hid (show RowAt wr B (iR (k + 1) (plR s)) by
        have h := HR.out
        rw [iR_eq (g := plR s) (fun j hj => by rw [if_pos (by omega)])] at h
        exact h)
      clear hkl hk
      go_wp2_with fail
      go_ret
      exact ⟨B, rfl, HBB.out, RF.out, HBr.out⟩
end Go.Proofs.YtipecnofjdhobaaDoor
