/- Contracts of packages tensor and pintleref21: what each call answers. -/
import Derived.Test.YtedfekgacmfjkaaProg
import Derived.Test.YtedfekgacmfjkaaPlainA
import Derived.WalkSpells
import Derived.WalkSmall
import Derived.Handy
import Derived.Lib.Hide
import Derived.BigQuiet
import Derived.StillTailTactics
namespace Go.Proofs.Ytedfekgacmfjkaa
open Go Go.RowKit Pl
set_option linter.unusedVariables false

theorem ret_bool {a b : Bool} (h : a = b) : Ending.returned (.bool a) = .returned (.bool b) := by rw [h]
theorem ret_i64 {a b : Int} (h : a = b) : Ending.returned (.int .i64 a) = .returned (.int .i64 b) := by rw [h]

/-- three numbers as a value -/
def sh (x y z : Int) : Value := .agg #[.int .i64 x, .int .i64 y, .int .i64 z]
def goodB (x y z : Int) : Bool := decide (1 ≤ x ∧ x ≤ 64 ∧ 1 ≤ y ∧ y ≤ 64 ∧ 1 ≤ z ∧ z ≤ 64 ∧ x * y * z ≤ 16384)

theorem goodB_no {x y z : Int} (h : ¬ (1 ≤ x ∧ x ≤ 64 ∧ 1 ≤ y ∧ y ≤ 64 ∧ 1 ≤ z ∧ z ≤ 64 ∧ x * y * z ≤ 16384)) : goodB x y z = false := decide_eq_false h
theorem goodB_yes {x y z : Int} (h : 1 ≤ x ∧ x ≤ 64 ∧ 1 ≤ y ∧ y ≤ 64 ∧ 1 ≤ z ∧ z ≤ 64 ∧ x * y * z ≤ 16384) : goodB x y z = true := decide_eq_true h
theorem mul3 {x y z : Int} (hx : 1 ≤ x ∧ x ≤ 64) (hy : 1 ≤ y ∧ y ≤ 64) (hz : 1 ≤ z ∧ z ≤ 64) : 0 ≤ x * y ∧ x * y ≤ 4096 ∧ 0 ≤ x * y * z ∧ x * y * z ≤ 262144 := by
  have h1 := mul_bd (x := x) (y := y) (A := 64) (B := 64) (by omega) (by omega)
  have h2 := mul_bd (x := x * y) (y := z) (A := 4096) (B := 64) h1 (by omega)
  have h3 : 0 ≤ x * y := Int.mul_nonneg (by omega) (by omega)
  have h4 : 0 ≤ x * y * z := Int.mul_nonneg h3 (by omega)
  omega

theorem good_last {x y z : Int} (hx : 1 ≤ x ∧ x ≤ 64) (hy : 1 ≤ y ∧ y ≤ 64) (hz : 1 ≤ z ∧ z ≤ 64) : decide (wrap64 (wrap64 (x * y) * z) ≤ 16384) = goodB x y z := by
  obtain ⟨a, b, c, d⟩ := mul3 hx hy hz
  rw [wrap64_in' (n := x * y) (by omega), wrap64_in' (by omega)]
  unfold goodB
  rw [decide_eq_decide]
  exact ⟨fun h => ⟨hx.1, hx.2, hy.1, hy.2, hz.1, hz.2, h⟩, fun h => h.2.2.2.2.2.2⟩

set_option maxHeartbeats 400000 in
theorem good_any (x y z : Int) (w : World) :
    Calls Try.prog 15 #[.agg #[.int .i64 x, .int .i64 y, .int .i64 z]] w fun e w' => e = .returned (.bool (goodB x y z)) ∧ w' = w.alloc (.cells #[.int .i64 x, .int .i64 y, .int .i64 z] 22) := by
  have i0 : ∀ w, (Instr.index 22 (.agg #[.int .i64 x, .int .i64 y, .int .i64 z]) (.int .i64 0)).run Try.prog w = .ok (.int .i64 x) w := fun _ => by kernel_rfl
  have i1 : ∀ w, (Instr.index 22 (.agg #[.int .i64 x, .int .i64 y, .int .i64 z]) (.int .i64 1)).run Try.prog w = .ok (.int .i64 y) w := fun _ => by kernel_rfl
  have i2 : ∀ w, (Instr.index 22 (.agg #[.int .i64 x, .int .i64 y, .int .i64 z]) (.int .i64 2)).run Try.prog w = .ok (.int .i64 z) w := fun _ => by kernel_rfl
  go_enter Try.func15, Try.ntmps15
  go_wp2
  go_rounds 4
  all_goals go_ret
  all_goals first | exact ⟨ret_bool (goodB_no (by omega)).symm, rfl⟩ | exact ⟨ret_bool (good_last ⟨by omega, by omega⟩ ⟨by omega, by omega⟩ ⟨by omega, by omega⟩), rfl⟩

set_option maxHeartbeats 400000 in
theorem ref_good (x y z : Int) (w : World) :
    Calls Try.prog 16 #[.agg #[.int .i64 x, .int .i64 y, .int .i64 z]] w fun e w' => e = .returned (.bool (goodB x y z)) ∧ w' = w.alloc (.cells #[.int .i64 x, .int .i64 y, .int .i64 z] 22) := by
  have i0 : ∀ w, (Instr.index 22 (.agg #[.int .i64 x, .int .i64 y, .int .i64 z]) (.int .i64 0)).run Try.prog w = .ok (.int .i64 x) w := fun _ => by kernel_rfl
  have i1 : ∀ w, (Instr.index 22 (.agg #[.int .i64 x, .int .i64 y, .int .i64 z]) (.int .i64 1)).run Try.prog w = .ok (.int .i64 y) w := fun _ => by kernel_rfl
  have i2 : ∀ w, (Instr.index 22 (.agg #[.int .i64 x, .int .i64 y, .int .i64 z]) (.int .i64 2)).run Try.prog w = .ok (.int .i64 z) w := fun _ => by kernel_rfl
  go_enter Try.func16, Try.ntmps16
  go_wp2
  go_rounds 4
  all_goals go_ret
  all_goals first | exact ⟨ret_bool (goodB_no (by omega)).symm, rfl⟩ | exact ⟨ret_bool (good_last ⟨by omega, by omega⟩ ⟨by omega, by omega⟩ ⟨by omega, by omega⟩), rfl⟩

def sizeS (x y z : Int) : Int := if goodB x y z then x * y * z else 0
theorem goodB_out {x y z : Int} (h : goodB x y z = true) : 1 ≤ x ∧ x ≤ 64 ∧ 1 ≤ y ∧ y ≤ 64 ∧ 1 ≤ z ∧ z ≤ 64 ∧ x * y * z ≤ 16384 := of_decide_eq_true h

set_option maxHeartbeats 400000 in
theorem size_any (x y z : Int) (w : World) :
    Calls Try.prog 17 #[.agg #[.int .i64 x, .int .i64 y, .int .i64 z]] w fun e w' => e = .returned (.int .i64 (sizeS x y z)) ∧ w' = (w.alloc (.cells #[.int .i64 x, .int .i64 y, .int .i64 z] 22)).alloc (.cells #[.int .i64 x, .int .i64 y, .int .i64 z] 22) := by
  by_cases hg : goodB x y z = true
  · obtain ⟨x0, x1, y0, y1, z0, z1, _⟩ := goodB_out hg
    obtain ⟨m0, m1, m2, m3⟩ := mul3 ⟨x0, x1⟩ ⟨y0, y1⟩ ⟨z0, z1⟩
    have hs : sizeS x y z = x * y * z := by unfold sizeS; rw [if_pos hg]
    rw [hs]
    clear hs
    go_enter Try.func17, Try.ntmps17
    go_wp2_with (go_at_call 15; refine (good_any x y z _).mono ?_; rintro e w' ⟨rfl, rfl⟩)
    go_ret
    exact ⟨rfl, rfl⟩
  · have hg : goodB x y z = false := by simpa using hg
    have hs : sizeS x y z = 0 := by unfold sizeS; rw [hg]; rfl
    rw [hs]
    clear hs
    go_enter Try.func17, Try.ntmps17
    go_wp2_with (go_at_call 15; refine (good_any x y z _).mono ?_; rintro e w' ⟨rfl, rfl⟩)
    go_ret
    exact ⟨rfl, rfl⟩

set_option maxHeartbeats 400000 in
theorem ref_size (x y z : Int) (w : World) :
    Calls Try.prog 18 #[.agg #[.int .i64 x, .int .i64 y, .int .i64 z]] w fun e w' => e = .returned (.int .i64 (sizeS x y z)) ∧ w' = (w.alloc (.cells #[.int .i64 x, .int .i64 y, .int .i64 z] 22)).alloc (.cells #[.int .i64 x, .int .i64 y, .int .i64 z] 22) := by
  by_cases hg : goodB x y z = true
  · obtain ⟨x0, x1, y0, y1, z0, z1, _⟩ := goodB_out hg
    obtain ⟨m0, m1, m2, m3⟩ := mul3 ⟨x0, x1⟩ ⟨y0, y1⟩ ⟨z0, z1⟩
    have hs : sizeS x y z = x * y * z := by unfold sizeS; rw [if_pos hg]
    rw [hs]
    clear hs
    go_enter Try.func18, Try.ntmps18
    go_wp2_with (go_at_call 16; refine (ref_good x y z _).mono ?_; rintro e w' ⟨rfl, rfl⟩)
    go_ret
    exact ⟨rfl, rfl⟩
  · have hg : goodB x y z = false := by simpa using hg
    have hs : sizeS x y z = 0 := by unfold sizeS; rw [hg]; rfl
    rw [hs]
    clear hs
    go_enter Try.func18, Try.ntmps18
    go_wp2_with (go_at_call 16; refine (ref_good x y z _).mono ?_; rintro e w' ⟨rfl, rfl⟩)
    go_ret
    exact ⟨rfl, rfl⟩

/-- an element of a shape -/
def inS (x y z a b c : Int) : Prop := 0 ≤ a ∧ a < x ∧ 0 ≤ b ∧ b < y ∧ 0 ≤ c ∧ c < z
theorem prods {x y z a b c : Int} (hx : 1 ≤ x ∧ x ≤ 64) (hy : 1 ≤ y ∧ y ≤ 64) (hz : 1 ≤ z ∧ z ≤ 64) (h : inS x y z a b c) :
    0 ≤ a * y ∧ a * y ≤ 4096 ∧ 0 ≤ b * z ∧ b * z ≤ 4096 ∧ 0 ≤ a * y * z ∧ a * y * z ≤ 262144 ∧ 0 ≤ (a * y + b) * z ∧ (a * y + b) * z ≤ 266240 ∧ a * y * z + b * z = (a * y + b) * z := by
  obtain ⟨a0, a1, b0, b1, c0, c1⟩ := h
  have h1 := mul_bd (x := a) (y := y) (A := 64) (B := 64) (by omega) (by omega)
  have h2 := mul_bd (x := b) (y := z) (A := 64) (B := 64) (by omega) (by omega)
  have h3 := mul_bd (x := a * y) (y := z) (A := 4096) (B := 64) h1 (by omega)
  have p1 : 0 ≤ a * y := Int.mul_nonneg a0 (by omega)
  have p2 : 0 ≤ b * z := Int.mul_nonneg b0 (by omega)
  have p3 : 0 ≤ a * y * z := Int.mul_nonneg p1 (by omega)
  have e : (a * y + b) * z = a * y * z + b * z := Int.add_mul _ _ _
  omega

set_option maxHeartbeats 400000 in
theorem below_any (n m : Int) (w : World) :
    Calls Try.prog 47 #[.int .i64 n, .int .i64 m] w fun e w' => e = .returned (.bool (decide (0 ≤ n ∧ n < m))) ∧ w = w' := by
  by_cases h : 0 ≤ n
  · by_cases g : n < m
    · go_enter Try.func47, Try.ntmps47
      go_wp2
      go_ret
      exact ⟨ret_bool (by simp; omega), rfl⟩
    · go_enter Try.func47, Try.ntmps47
      go_wp2
      go_ret
      exact ⟨ret_bool (by simp; omega), rfl⟩
  · go_enter Try.func47, Try.ntmps47
    go_wp2
    go_ret
    exact ⟨ret_bool (by simp; omega), rfl⟩
theorem below_yes (n m : Int) (w : World) (h : 0 ≤ n) (g : n < m) :
    Calls Try.prog 47 #[.int .i64 n, .int .i64 m] w fun e w' => e = .returned (.bool true) ∧ w = w' := by
  have := below_any n m w
  rw [decide_eq_true ⟨h, g⟩] at this
  exact this
theorem below_no (n m : Int) (w : World) (h : ¬ (0 ≤ n ∧ n < m)) :
    Calls Try.prog 47 #[.int .i64 n, .int .i64 m] w fun e w' => e = .returned (.bool false) ∧ w = w' := by
  have := below_any n m w
  rw [decide_eq_false h] at this
  exact this

set_option maxHeartbeats 400000 in
theorem at_yes (x y z a b c : Int) (w : World) (hg : goodB x y z = true) (hi : inS x y z a b c) :
    Calls Try.prog 20 #[.agg #[.int .i64 x, .int .i64 y, .int .i64 z], .int .i64 a, .int .i64 b, .int .i64 c] w fun e w' => e = .returned (.tuple #[.int .i64 ((a * y + b) * z + c), .bool true]) ∧ Below w.heap.size w w' := by
  obtain ⟨x0, x1, y0, y1, z0, z1, _⟩ := goodB_out hg
  obtain ⟨p0, p1, p2, p3, p4, p5, p6, p7, _⟩ := prods ⟨x0, x1⟩ ⟨y0, y1⟩ ⟨z0, z1⟩ hi
  obtain ⟨a0, a1, b0, b1, c0, c1⟩ := hi
  go_enter Try.func20, Try.ntmps20
  go_wp2_with (first | (go_at_call 15; refine (good_any x y z _).mono ?_; rintro e w' ⟨rfl, rfl⟩) | (go_at_call 47; refine (below_yes _ _ _ (by assumption) (by assumption)).mono ?_; rintro e w' ⟨rfl, rfl⟩))
  go_ret2
  exact ⟨rfl, ((Below.refl _ _).alloc (Nat.le_refl _) _).alloc (by simp) _⟩

set_option maxHeartbeats 400000 in
theorem at_no (x y z a b c : Int) (w : World) (h : ¬ (goodB x y z = true ∧ inS x y z a b c)) :
    Calls Try.prog 20 #[.agg #[.int .i64 x, .int .i64 y, .int .i64 z], .int .i64 a, .int .i64 b, .int .i64 c] w fun e w' => e = .returned (.tuple #[.int .i64 0, .bool false]) ∧ Below w.heap.size w w' := by
  by_cases hg : goodB x y z = true
  · obtain ⟨x0, x1, y0, y1, z0, z1, _⟩ := goodB_out hg
    have hn : ¬ inS x y z a b c := fun i => h ⟨hg, i⟩
    clear h
    unfold inS at hn
    by_cases h1 : 0 ≤ a ∧ a < x
    · obtain ⟨a0, a1⟩ := h1
      by_cases h2 : 0 ≤ b ∧ b < y
      · obtain ⟨b0, b1⟩ := h2
        have h3 : ¬ (0 ≤ c ∧ c < z) := by omega
        have H3 := Lib.hid h3
        clear h3 hn
        go_enter Try.func20, Try.ntmps20
        go_wp2_with (first | (go_at_call 15; refine (good_any x y z _).mono ?_; rintro e w' ⟨rfl, rfl⟩) | (go_at_call 47; first | ((with_reducible refine (below_yes a x _ (by assumption) (by assumption)).mono ?_); rintro e w' ⟨rfl, rfl⟩) | ((with_reducible refine (below_yes b y _ (by assumption) (by assumption)).mono ?_); rintro e w' ⟨rfl, rfl⟩) | ((with_reducible refine (below_no c z _ H3.out).mono ?_); rintro e w' ⟨rfl, rfl⟩)))
        go_ret2
        exact ⟨rfl, ((Below.refl _ _).alloc (Nat.le_refl _) _).alloc (by simp) _⟩
      · have H2 := Lib.hid h2
        clear h2 hn
        go_enter Try.func20, Try.ntmps20
        go_wp2_with (first | (go_at_call 15; refine (good_any x y z _).mono ?_; rintro e w' ⟨rfl, rfl⟩) | (go_at_call 47; first | ((with_reducible refine (below_yes a x _ (by assumption) (by assumption)).mono ?_); rintro e w' ⟨rfl, rfl⟩) | ((with_reducible refine (below_no b y _ H2.out).mono ?_); rintro e w' ⟨rfl, rfl⟩)))
        go_ret2
        exact ⟨rfl, ((Below.refl _ _).alloc (Nat.le_refl _) _).alloc (by simp) _⟩
    · have H1 := Lib.hid h1
      clear h1 hn
      go_enter Try.func20, Try.ntmps20
      go_wp2_with (first | (go_at_call 15; refine (good_any x y z _).mono ?_; rintro e w' ⟨rfl, rfl⟩) | (go_at_call 47; ((with_reducible refine (below_no a x _ H1.out).mono ?_); rintro e w' ⟨rfl, rfl⟩)))
      go_ret2
      exact ⟨rfl, ((Below.refl _ _).alloc (Nat.le_refl _) _).alloc (by simp) _⟩
  · have hg : goodB x y z = false := by simpa using hg
    clear h
    go_enter Try.func20, Try.ntmps20
    go_wp2_with (first | (go_at_call 15; refine (good_any x y z _).mono ?_; rintro e w' ⟨rfl, rfl⟩))
    go_ret2
    exact ⟨rfl, ((Below.refl _ _).alloc (Nat.le_refl _) _).alloc (by simp) _⟩

set_option maxHeartbeats 400000 in
theorem ref_at_yes (x y z a b c : Int) (w : World) (hg : goodB x y z = true) (hi : inS x y z a b c) :
    Calls Try.prog 21 #[.agg #[.int .i64 x, .int .i64 y, .int .i64 z], .int .i64 a, .int .i64 b, .int .i64 c] w fun e w' => e = .returned (.int .i64 ((a * y + b) * z + c)) ∧ Below w.heap.size w w' := by
  obtain ⟨x0, x1, y0, y1, z0, z1, _⟩ := goodB_out hg
  obtain ⟨p0, p1, p2, p3, p4, p5, p6, p7, pe⟩ := prods ⟨x0, x1⟩ ⟨y0, y1⟩ ⟨z0, z1⟩ hi
  obtain ⟨a0, a1, b0, b1, c0, c1⟩ := hi
  have PE := Lib.hid pe
  clear pe
  go_enter Try.func21, Try.ntmps21
  go_wp2_with (go_at_call 16; refine (ref_good x y z _).mono ?_; rintro e w' ⟨rfl, rfl⟩)
  go_ret
  exact ⟨ret_i64 (by rw [← PE.out]), ((Below.refl _ _).alloc (Nat.le_refl _) _).alloc (by simp) _⟩

set_option maxHeartbeats 400000 in
theorem ref_at_no (x y z a b c : Int) (w : World) (h : ¬ (goodB x y z = true ∧ inS x y z a b c)) :
    Calls Try.prog 21 #[.agg #[.int .i64 x, .int .i64 y, .int .i64 z], .int .i64 a, .int .i64 b, .int .i64 c] w fun e w' => e = .returned (.int .i64 (-1)) ∧ Below w.heap.size w w' := by
  by_cases hg : goodB x y z = true
  · have hn : ¬ inS x y z a b c := fun i => h ⟨hg, i⟩
    unfold inS at hn
    have HN := Lib.hid hn
    clear h hn
    go_enter Try.func21, Try.ntmps21
    go_wp2_with (go_at_call 16; refine (ref_good x y z _).mono ?_; rintro e w' ⟨rfl, rfl⟩)
    all_goals go_ret
    all_goals first | exact ⟨rfl, ((Below.refl _ _).alloc (Nat.le_refl _) _).alloc (by simp) _⟩ | (exfalso; have := HN.out; omega)
  · have hg : goodB x y z = false := by simpa using hg
    clear h
    go_enter Try.func21, Try.ntmps21
    go_wp2_with (go_at_call 16; refine (ref_good x y z _).mono ?_; rintro e w' ⟨rfl, rfl⟩)
    all_goals go_ret
    all_goals exact ⟨rfl, ((Below.refl _ _).alloc (Nat.le_refl _) _).alloc (by simp) _⟩

end Go.Proofs.Ytedfekgacmfjkaa
