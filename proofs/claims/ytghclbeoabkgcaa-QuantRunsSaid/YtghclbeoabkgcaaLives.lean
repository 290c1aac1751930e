/- The law's own 'lives' of layer 20. -/
import Derived.Test.YtghclbeoabkgcaaQuantf
import Derived.Test.YtghclbeoabkgcaaOpen
import Derived.OwnWalk
import Derived.Laws.Bits128
import Derived.Deep.RegionHeld3
namespace Go.Proofs.Ytghclbeoabkgcaa
open Go Go.RowKit Go.ChangeShapes Go.WideShapes Go.ChangeAt Pl
set_option linter.unusedVariables false

/-- a slice of some elements -/
def SomeSlice (w : World) (e : Ending) (w' : World) : Prop := ∃ (a : Addr) (n c : Nat), e = .returned (.slice (some a) n c) ∧ 1 ≤ n ∧ Below w.heap.size w w'

set_option maxHeartbeats 400000 in
theorem apart0 (w : World) : Calls Try.prog 37 #[.int .i64 0, .int .i64 2] w fun e w' => e = .returned (.bool true) ∧ w = w' := by
  go_enter Try.func37, Try.ntmps37
  go_wp2
  go_ret
  exact ⟨rfl, rfl⟩
set_option maxHeartbeats 400000 in
theorem apart1 (w : World) : Calls Try.prog 37 #[.int .i64 1, .int .i64 2] w fun e w' => e = .returned (.bool true) ∧ w = w' := by
  go_enter Try.func37, Try.ntmps37
  go_wp2
  go_ret
  exact ⟨rfl, rfl⟩
set_option maxHeartbeats 400000 in
theorem shift4 (w : World) : Calls Try.prog 36 #[.int .i64 4] w fun e w' => e = .returned (.bool true) ∧ w = w' := by
  go_enter Try.func36, Try.ntmps36
  go_wp2
  go_ret
  exact ⟨rfl, rfl⟩

def lops8 : Array Value := #[Value.int .i64 1, Value.int .i64 2, Value.int .i64 0, Value.int .i64 0, Value.int .i32 3, Value.int .i64 6, Value.int .i64 3, Value.int .i64 1, Value.int .i64 2, Value.int .i32 0, Value.int .i64 5, Value.int .i64 2, Value.int .i64 1, Value.int .i64 2, Value.int .i32 0, Value.int .i64 15, Value.int .i64 2, Value.int .i64 2, Value.int .i64 0, Value.int .i32 30, Value.int .i64 13, Value.int .i64 2, Value.int .i64 2, Value.int .i64 0, Value.int .i32 1, Value.int .i64 15, Value.int .i64 2, Value.int .i64 2, Value.int .i64 0, Value.int .i32 1, Value.int .i64 14, Value.int .i64 3, Value.int .i64 3, Value.int .i64 0, Value.int .i32 1, Value.int .i64 3, Value.int .i64 0, Value.int .i64 3, Value.int .i64 2, Value.int .i32 0]
def lops2 : Array Value := #[Value.int .i64 13, Value.int .i64 0, Value.int .i64 0, Value.int .i64 0, Value.int .i32 8, Value.int .i64 16, Value.int .i64 0, Value.int .i64 0, Value.int .i64 0, Value.int .i32 4]
theorem info_lop : (Try.prog.info? 29).map (fun i => (i.zero, i.size, i.bytes)) = some (some (.agg #[.int .i64 0, .int .i64 0, .int .i64 0, .int .i64 0, .int .i32 0]), 5, 40) := by kernel_rfl
theorem lops2_one : ∀ u ∈ lops2.toList, u.oneCell' = true := by decide
theorem below_grown_trans {w a b : World} (h : Below w.heap.size w a) (k : Below a.heap.size a b) : Below w.heap.size w b := h.trans (k.mono h.size)
theorem below_grown {w w1 w' : World} {v : Value} (h : Below w.heap.size w w1) (hg : w1.grownBy w' v.ownBlock) (hv : ∀ k, v.ownBlock = some k → w.heap.size ≤ k) : Below w.heap.size w w' :=
  h.grown hg h.size hv

set_option maxRecDepth 100000 in
set_option maxHeartbeats 1000000 in
theorem steps_len (w : World) : Calls Try.prog 14 #[.int .i64 0, .int .i64 1, .int .i64 2, .int .i32 3, .int .i64 4] w (SomeSlice w) := by
  obtain ⟨i0, hi, hz0, hz1, hz2⟩ := info_parts info_lop
  have OWN := Lib.hid ((World.ownsRow_lit (base := w.heap.size) (size := 5) (e := 29) w lops8 8 (Nat.le_refl _) (by decide) (by decide)).alloc (.cells lops2 29))
  have NW := Lib.hid (show ∀ j u, lops2.toList[j]? = some u → ((w.alloc (.cells lops8 29)).alloc (.cells lops2 29)).cell? ((⟨w.heap.size + 1, 0, none⟩ : Addr).add j) = some u from fun j u h => by
    have e1 : (⟨w.heap.size + 1, 0, none⟩ : Addr).add j = ⟨(w.alloc (.cells lops8 29)).heap.size, j, none⟩ := by unfold Addr.add; split <;> simp_all
    rw [e1, World.cell?_alloc_new]
    simpa using h)
  have BL := Lib.hid (show Below w.heap.size w ((w.alloc (.cells lops8 29)).alloc (.cells lops2 29)) by go_grown)
  go_enter Try.func14, Try.ntmps14
  go_wp2_with (first | (go_at_call 36; refine (shift4 _).mono ?_; rintro e w' ⟨rfl, rfl⟩) | (go_at_call 37; first | ((with_reducible refine (apart0 _).mono ?_); rintro e w' ⟨rfl, rfl⟩) | ((with_reducible refine (apart1 _).mono ?_); rintro e w' ⟨rfl, rfl⟩)) | (at_builtin; go_loud (refine wpList_append_own ((w.alloc (.cells lops8 29)).alloc (.cells lops2 29)) rfl (.tmp 60) (.tmp 72) 27 rfl w.heap.size 29 i0 (.agg #[.int .i64 0, .int .i64 0, .int .i64 0, .int .i64 0, .int .i32 0]) 5 40 Try.underlying27 hi hz0 hz1 hz2 rfl (by decide) (.slice (some ⟨w.heap.size, 0, none⟩) 8 8) 8 lops8.toList rfl OWN.out ⟨w.heap.size + 1, 0, none⟩ 2 2 lops2.toList rfl rfl NW.out lops2_one (by decide) (by decide) BL.out.size ?_); intro v1 w1 hown hg hn))
  go_ret
  have b1 := below_grown BL.out hg (fun k hk => by cases hk; exact Nat.le_refl _)
  obtain ⟨_, ⟨h1, h2⟩ | ⟨g, cap, cur, rfl, _⟩⟩ := hown
  · cases h2
  · exact ⟨_, 10, cap, rfl, by omega, b1⟩

set_option maxHeartbeats 1000000 in
theorem law20_lives (w : World) : Calls Try.prog 13 #[] w fun e w' => e = .returned (.bool true) ∧ Below w.heap.size w w' := by
  go_enter Try.func13, Try.ntmps13
  go_wp2_with fail
  refine (quant_scale 101 1073741824 0 _ (by omega) (by omega)).mono ?_
  rw [show scaleS 101 1073741824 0 = 51 by rw [scale_zero, sc1, wrap32]; rfl]
  rintro e w' ⟨rfl, rfl⟩
  go_wp2_with fail
  refine (quant_clamp 7 0 6 _).mono ?_
  rw [show clampS 7 0 6 = 6 by decide]
  rintro e w' ⟨rfl, rfl⟩
  go_wp2_with fail
  refine (steps_len _).mono ?_
  rintro e w1 ⟨b, n, c, rfl, hn, hb⟩
  have h0 : decide (0 < n) = true := decide_eq_true (by omega)
  go_wp2_with fail
  go_ret
  exact ⟨rfl, hb⟩
end Go.Proofs.Ytghclbeoabkgcaa
