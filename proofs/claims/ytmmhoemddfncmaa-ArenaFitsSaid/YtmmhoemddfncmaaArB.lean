/- Contracts of arena: the order in which blocks are laid. -/
import Derived.Test.YtmmhoemddfncmaaArA
import Derived.Test.YtmmhoemddfncmaaArS
import Derived.Test.YtmmhoemddfncmaaStE
namespace Go.Proofs.Ytmmhoemddfncmaa
open Go Go.RowKit
set_option linter.unusedVariables false

/-- numbers of a row made anew -/
theorem made_own (w : World) (n : Nat) (hn : n ≤ 4096) : SRow (w.alloc (.cells (madeCells #[Value.int .i64 0] n) 3)) w.heap.size w.heap.size n n (List.replicate n 0) := by
  refine ⟨by simp, ?_⟩
  have e : (List.replicate n (0 : Int)).map iv = (madeCells #[Value.int .i64 0] n).toList := by
    rw [toList_madeCells_one, List.map_replicate]
    rfl
  rw [e]
  exact World.ownsRow_lit (base := w.heap.size) (size := 1) (e := 3) w (madeCells #[Value.int .i64 0] n) n (Nat.le_refl _) (by simp only [maxLen]; omega) (by rw [size_madeCells]; omega)
theorem make_ints (n : Nat) (hn : n ≤ 4096) (W : World) :
    (Instr.makeSlice 24 (.int .i64 n) (.int .i64 n)).run Try.prog W = .ok (.slice (some ⟨W.heap.size, 0, none⟩) n n) (W.alloc (.cells (madeCells #[Value.int .i64 0] n) 3)) :=
  run_make_row' (P := Try.prog) 24 3 (.int .i64 0) 8 Try.underlying24 info_int rfl .i64 .i64 n (by omega) (by omega) W
theorem SRow.set {w : World} {base G c n : Nat} {xs : List Int} (h : SRow w base G c n xs) (k : Nat) (v : Int) : SRow (w.setCell ⟨G, k, none⟩ (.int .i64 v)) base G c n (xs.set k v) ∧ w.grownBy (w.setCell ⟨G, k, none⟩ (.int .i64 v)) (some G) := by
  obtain ⟨o1, g1⟩ := h.2.stored k (iv v)
  refine ⟨⟨by simp [h.1], ?_⟩, g1⟩
  rw [List.map_set]
  exact o1

/-! ### the comparison -/
theorem compareI_any (x y : Int) (w : World) : Calls Try.prog 28 #[.int .i64 x, .int .i64 y] w fun e w' => e = .returned (.int .i64 (cmpI x y)) ∧ w' = w := compare_any x y w
set_option maxHeartbeats 1000000 in
theorem or_any (r1 r2 : Int) (H : Nat) (w : World) (c1 : w.cell? ⟨H, 0, none⟩ = some (.int .i64 r1)) (c2 : w.cell? ⟨H, 1, none⟩ = some (.int .i64 r2)) :
    Calls Try.prog 27 #[.slice (some ⟨H, 0, none⟩) 2 2] w fun e w' => e = .returned (.int .i64 (if r1 ≠ 0 then r1 else r2)) ∧ w' = w := by
  by_cases h1 : r1 = 0
  · subst h1
    rw [if_neg (by simp)]
    by_cases h2 : r2 = 0
    · subst h2
      go_enter Try.func27, Try.ntmps27
      go_wp2_with fail
      go_rounds 3
      go_ret
      exact ⟨rfl, rfl⟩
    · have t : (r2 != 0) = true := by simpa using h2
      clear h2
      go_enter Try.func27, Try.ntmps27
      go_wp2_with fail
      go_rounds 3
      go_ret
      exact ⟨rfl, rfl⟩
  · have t : (r1 != 0) = true := by simpa using h1
    rw [if_pos h1]
    clear h1
    go_enter Try.func27, Try.ntmps27
    go_wp2_with fail
    go_rounds 3
    go_ret
    exact ⟨rfl, rfl⟩
def InL (l : List Q3) (x : Int) : Prop := 0 ≤ x ∧ x < l.length
theorem b3_at {w : World} {a : Option Addr} {l : List Q3} (h : B3 w a l) {x : Int} (hx : InL l x) : ∃ (k b off : Nat), x = (k : Int) ∧ k < l.length ∧ a = some ⟨b, off, none⟩ ∧ b < w.heap.size ∧
    w.cell? ⟨b, off + k * 3, none⟩ = some (.int .i64 (qAt l x).s) ∧ w.cell? ⟨b, off + k * 3 + 1, none⟩ = some (.int .i64 (qAt l x).f) ∧ w.cell? ⟨b, off + k * 3 + 2, none⟩ = some (.int .i64 (qAt l x).t) := by
  obtain ⟨h0, h1⟩ := hx
  obtain ⟨_, rfl | ⟨b, off, rfl, hb, hc⟩⟩ := h
  · simp at h1; omega
  · have hk : x.toNat < l.length := by omega
    obtain ⟨c0, c1, c2⟩ := hc x.toNat (qAt l x) (by unfold qAt; rw [List.getD_eq_getElem?_getD, List.getElem?_eq_getElem hk]; rfl)
    exact ⟨x.toNat, b, off, by omega, hk, rfl, hb, c0, c1, c2⟩

set_option maxRecDepth 100000 in
set_option maxHeartbeats 2000000 in
theorem cmpO_any (a : Option Addr) (c : Nat) (l : List Q3) (B G : Nat) (w : World) (hl : B3 w a l) (hB : B < w.heap.size) (hb : w.cell? ⟨B, 0, none⟩ = some (.slice a l.length c)) (hBG : B ≠ G) (hG : ∀ b off, a = some ⟨b, off, none⟩ → b ≠ G) :
    CmpAt (fC l) (InL l) G (.pointer (some ⟨B, 0, none⟩)) w := by
  intro W x y hW hx hy
  have hlen := hl.1
  obtain ⟨nx, b, off, ex, hnx, rfl, hbl, x0, x1, x2⟩ := b3_at hl hx
  obtain ⟨ny, b', off', ey, hny, e', _, y0, y1, y2⟩ := b3_at hl hy
  obtain ⟨rfl, rfl⟩ : b = b' ∧ off = off' := by simpa using e'
  have hb3 := hG b off rfl
  have vb := hW.cell hb (by simp; omega)
  have vx0 := hW.cell x0 (by simp; omega)
  have vx1 := hW.cell x1 (by simp; omega)
  have vy0 := hW.cell y0 (by simp; omega)
  have vy1 := hW.cell y1 (by simp; omega)
  have hWs := hW.size
  have hBW : B < W.heap.size := by omega
  have hbW : b < W.heap.size := by omega
  obtain ⟨sx, hsx⟩ : ∃ z, z = (qAt l x).s := ⟨_, rfl⟩
  obtain ⟨fx, hfx⟩ : ∃ z, z = (qAt l x).f := ⟨_, rfl⟩
  obtain ⟨sy, hsy⟩ : ∃ z, z = (qAt l y).s := ⟨_, rfl⟩
  obtain ⟨fy, hfy⟩ : ∃ z, z = (qAt l y).f := ⟨_, rfl⟩
  have hf : fC l x y = if cmpI sy sx ≠ 0 then cmpI sy sx else cmpI fx fy := by unfold fC; rw [hsx, hfx, hsy, hfy]
  rw [hf]
  rw [← hsx] at vx0
  rw [← hfx] at vx1
  rw [← hsy] at vy0
  rw [← hfy] at vy1
  obtain ⟨r1, hr1⟩ : ∃ r, r = cmpI sy sx := ⟨_, rfl⟩
  obtain ⟨r2, hr2⟩ : ∃ r, r = cmpI fx fy := ⟨_, rfl⟩
  have C1 := Lib.hid (fun W => compareI_any sy sx W)
  have C2 := Lib.hid (fun W => compareI_any fx fy W)
  rw [← hr1] at C1 ⊢
  rw [← hr2] at C2 ⊢
  have OR := Lib.hid (fun (H : Nat) (W : World) (c1 : W.cell? ⟨H, 0, none⟩ = some (.int .i64 r1)) (c2 : W.cell? ⟨H, 1, none⟩ = some (.int .i64 r2)) => or_any r1 r2 H W c1 c2)
  generalize (if r1 ≠ 0 then r1 else r2) = r at OR ⊢
  clear hr1 hr2 hf hsx hfx hsy hfy x0 x1 x2 y0 y1 y2 hb hW hl hx hy hB hbl hBG hG hb3 hWs
  subst ex ey
  have q0 : (0 : Int) ≤ (nx : Int) := by omega
  have q1 : (nx : Int) < (l.length : Int) := by omega
  have q2 : (0 : Int) ≤ (ny : Int) := by omega
  have q3 : (ny : Int) < (l.length : Int) := by omega
  have PS := Lib.hid (show ∀ w', Below W.heap.size W w' → w'.cell? ⟨B, 0, none⟩ = some (.slice (some ⟨b, off, none⟩) l.length c) ∧ w'.cell? ⟨b, off + nx * 3, none⟩ = some (.int .i64 sx) ∧ w'.cell? ⟨b, off + nx * 3 + 1, none⟩ = some (.int .i64 fx) ∧ w'.cell? ⟨b, off + ny * 3, none⟩ = some (.int .i64 sy) ∧ w'.cell? ⟨b, off + ny * 3 + 1, none⟩ = some (.int .i64 fy) ∧ Below W.heap.size W w' from fun w' h =>
    ⟨(h.cell hBW).trans vb, (h.cell hbW).trans vx0, (h.cell hbW).trans vx1, (h.cell hbW).trans vy0, (h.cell hbW).trans vy1, h⟩)
  go_enter Try.func26, Try.ntmps26
  go_wp2_with fail
  go_region_held3 (fun w' => w'.cell? ⟨B, 0, none⟩ = some (.slice (some ⟨b, off, none⟩) l.length c) ∧ w'.cell? ⟨b, off + nx * 3, none⟩ = some (.int .i64 sx) ∧ w'.cell? ⟨b, off + nx * 3 + 1, none⟩ = some (.int .i64 fx) ∧ w'.cell? ⟨b, off + ny * 3, none⟩ = some (.int .i64 sy) ∧ w'.cell? ⟨b, off + ny * 3 + 1, none⟩ = some (.int .i64 fy) ∧ Below W.heap.size W w')
    (first | (with_reducible assumption) | (refine PS.out _ ?_; go_grown))
    (first
    | (go_at_call 28; (with_reducible refine (C1.out _).mono ?_); rintro e w8 ⟨rfl, rfl⟩)
    | (go_at_call 28; (with_reducible refine (C2.out _).mono ?_); rintro e w8 ⟨rfl, rfl⟩)
    | (go_at_call 27; (with_reducible refine (OR.out _ _ (by simp) (by simp)).mono ?_); rintro e w8 ⟨rfl, rfl⟩))
  all_goals go_wp2_with fail
  all_goals go_ret
  all_goals exact ⟨rfl, by go_grown⟩
end Go.Proofs.Ytmmhoemddfncmaa
