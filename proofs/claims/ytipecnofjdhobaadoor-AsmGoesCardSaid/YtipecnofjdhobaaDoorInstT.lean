/- Contract of pintleref03.Decode. -/
import Derived.Test.YtipecnofjdhobaaDoorInstS
namespace Go.Proofs.YtipecnofjdhobaaDoor
open Go Go.RowKit Pl
set_option linter.unusedVariables false

theorem combos {o : Int} (h : 1 ≤ o ∧ o ≤ 46) : (rD o = true ∧ rA o = true ∧ rB o = true ∧ formI o = 0) ∨ (rD o = true ∧ rA o = true ∧ rB o = false ∧ (1 ≤ formI o ∧ formI o ≤ 5)) ∨
    (rD o = true ∧ rA o = true ∧ rB o = false ∧ formI o = 6) ∨ (rD o = false ∧ rA o = true ∧ rB o = true ∧ (1 ≤ formI o ∧ formI o ≤ 5)) ∨ (rD o = true ∧ rA o = false ∧ rB o = false ∧ (1 ≤ formI o ∧ formI o ≤ 5)) ∨
    (rD o = false ∧ rA o = false ∧ rB o = false ∧ (1 ≤ formI o ∧ formI o ≤ 5)) := by
  have cs : (1 ≤ o ∧ o ≤ 18) ∨ (19 ≤ o ∧ o ≤ 24) ∨ (25 ≤ o ∧ o ≤ 27) ∨ (28 ≤ o ∧ o ≤ 32) ∨ (33 ≤ o ∧ o ≤ 35) ∨ (36 ≤ o ∧ o ≤ 41) ∨ (o = 42) ∨ (o = 43) ∨ (o = 44) ∨ (o = 45) ∨ (o = 46) := by omega
  rcases cs with c | c | c | c | c | c | c | c | c | c | c
  · left; obtain ⟨a, b, d, f, _⟩ := cls_0 c; exact ⟨a, b, d, f⟩
  · right; left; obtain ⟨a, b, d, f, _⟩ := cls_1 c; exact ⟨a, b, d, by omega⟩
  · right; right; left; obtain ⟨a, b, d, f, _⟩ := cls_2 c; exact ⟨a, b, d, f⟩
  · right; left; obtain ⟨a, b, d, f, _⟩ := cls_3 c; exact ⟨a, b, d, by omega⟩
  · right; right; right; left; obtain ⟨a, b, d, f, _⟩ := cls_4 c; exact ⟨a, b, d, by omega⟩
  · right; right; right; left; obtain ⟨a, b, d, f, _⟩ := cls_5 c; exact ⟨a, b, d, by omega⟩
  · right; right; right; right; left; obtain ⟨a, b, d, f, _⟩ := cls_6 c; exact ⟨a, b, d, by omega⟩
  · right; right; right; right; left; obtain ⟨a, b, d, f, _⟩ := cls_7 c; exact ⟨a, b, d, by omega⟩
  · right; right; right; right; left; obtain ⟨a, b, d, f, _⟩ := cls_8 c; exact ⟨a, b, d, by omega⟩
  · right; left; obtain ⟨a, b, d, f, _⟩ := cls_9 c; exact ⟨a, b, d, by omega⟩
  · right; right; right; right; right; obtain ⟨a, b, d, f, _⟩ := cls_10 c; exact ⟨a, b, d, by omega⟩
theorem low_of {o w : Int} (ho : 1 ≤ o ∧ o ≤ 46) (h : condI o w) : w % 128 = lowI o := by
  unfold condI at h
  have cs : (1 ≤ o ∧ o ≤ 18) ∨ (19 ≤ o ∧ o ≤ 24) ∨ (25 ≤ o ∧ o ≤ 27) ∨ (28 ≤ o ∧ o ≤ 41) ∨ (42 ≤ o ∧ o ≤ 44) ∨ (o = 45) ∨ (o = 46) := by omega
  rcases cs with c | c | c | c | c | c | c
  · rw [if_pos (by omega)] at h; rw [(cls_0 c).2.2.2.2]; exact h.1
  · rw [if_neg (by omega), if_pos (by omega)] at h; rw [(cls_1 c).2.2.2.2.1]; exact h.1
  · rw [if_neg (by omega), if_neg (by omega), if_pos (by omega)] at h; rw [(cls_2 c).2.2.2.2]; exact h.1
  · rw [if_neg (by omega), if_neg (by omega), if_neg (by omega), if_pos (by omega)] at h; exact h.1
  · rw [if_neg (by omega), if_neg (by omega), if_neg (by omega), if_neg (by omega), if_pos (by omega)] at h; exact h
  · rw [if_neg (by omega), if_neg (by omega), if_neg (by omega), if_neg (by omega), if_neg (by omega), if_pos (by omega)] at h; subst c; exact h.1
  · rw [if_neg (by omega), if_neg (by omega), if_neg (by omega), if_neg (by omega), if_neg (by omega), if_neg (by omega), if_pos (by omega)] at h; subst c; show _ = 15; omega
theorem op_low {o w : Int} (h0 : 0 ≤ w) (h1 : w < 4294967296) (ho : 1 ≤ o ∧ o ≤ 46) (h : w % 128 ≠ lowI o) : opI w ≠ o := fun e => h (low_of ho (op_cond h0 h1 (by omega) e))
theorem enc_rec {o w : Int} (h0 : 0 ≤ w) (h1 : w < 4294967296) (ho : 1 ≤ o ∧ o ≤ 48) : encI (recI o w) = wordI (recI o w) ∧ canI (recI o w) = true := by
  have := can_rec h0 h1 ho
  exact ⟨by unfold encI; rw [this]; rfl, this⟩
theorem rec_not {o w : Int} (h0 : 0 ≤ w) (h1 : w < 4294967296) (ho : 1 ≤ o ∧ o ≤ 48) (h : wordI (recI o w) ≠ w) : opI w ≠ o := fun e => h ((fit_op h0 h1 ho).2 e).2
theorem rec_yes {o w : Int} (h0 : 0 ≤ w) (h1 : w < 4294967296) (ho : 1 ≤ o ∧ o ≤ 48) (h : wordI (recI o w) = w) : decI w = recI o w ∧ okI w = true := by
  have e := (fit_op h0 h1 ho).1 ⟨can_rec h0 h1 ho, h⟩
  unfold decI okI
  rw [e, if_neg (by omega)]
  exact ⟨rfl, by simp; omega⟩
def RDecP (w : Int) (W : World) (e : Ending) (W' : World) : Prop := e = .returned (.tuple #[agg5 (decI w), .bool (okI w)]) ∧ Below W.heap.size W W'
theorem rdec_mk {w o d a b i : Int} {W W' : World} (h : decI w = ⟨o, d, a, b, i⟩) (g : okI w = true) (hb : Below W.heap.size W W') : RDecP w W (.returned (.tuple #[.agg #[.int .i64 o, .int .i64 d, .int .i64 a, .int .i64 b, .int .i32 i], .bool true])) W' := by
  refine ⟨?_, hb⟩; rw [h, g]; rfl
theorem rdec_none {w : Int} {W W' : World} (h : opI w = 0) (hb : Below W.heap.size W W') : RDecP w W (.returned (.tuple #[.agg #[.int .i64 0, .int .i64 0, .int .i64 0, .int .i64 0, .int .i32 0], .bool false])) W' := by
  refine ⟨?_, hb⟩
  have h1 : decI w = ⟨0, 0, 0, 0, 0⟩ := by unfold decI; rw [if_pos h]
  have h2 : okI w = false := by unfold okI; simp [h]
  rw [h1, h2]; rfl
theorem renc_at' (x : Q5) (o d a b i E : Int) (w : World) (i0 : -2147483648 ≤ i) (i1 : i ≤ 2147483647) (e : x = ⟨o, d, a, b, i⟩) (h1 : encI x = E) (h2 : canI x = true) :
    Calls Tryd.prog 18 #[.agg #[.int .i64 o, .int .i64 d, .int .i64 a, .int .i64 b, .int .i32 i]] w fun e w' => e = .returned (.tuple #[.int .u32 E, .bool true]) ∧ Below w.heap.size w w' := by
  subst e h1
  have := renc_any o d a b i w i0 i1
  unfold EncP at this
  rw [h2] at this
  exact this
/-- the result's block: five cells of nought -/
structure Res (B : Nat) (w : World) : Prop where
  c0 : w.cell? ⟨B, 0, none⟩ = some (.int .i64 0)
  c1 : w.cell? ⟨B, 1, none⟩ = some (.int .i64 0)
  c2 : w.cell? ⟨B, 2, none⟩ = some (.int .i64 0)
  c3 : w.cell? ⟨B, 3, none⟩ = some (.int .i64 0)
  c4 : w.cell? ⟨B, 4, none⟩ = some (.int .i32 0)
  fz : ∀ o, w.frozen? ⟨B, o, none⟩ = false
  lt : B < w.heap.size
theorem Res.later {B : Nat} {w w' : World} (h : Res B w) (hb : Below w.heap.size w w') : Res B w' :=
  ⟨(hb.cell h.lt).trans h.c0, (hb.cell h.lt).trans h.c1, (hb.cell h.lt).trans h.c2, (hb.cell h.lt).trans h.c3, (hb.cell h.lt).trans h.c4, fun o => (hb.frozen (p := ⟨B, o, none⟩) h.lt).trans (h.fz o), Nat.lt_of_lt_of_le h.lt hb.size⟩
theorem res_new (w : World) (t : TypeId) : Res w.heap.size (w.alloc (.cells #[.int .i64 0, .int .i64 0, .int .i64 0, .int .i64 0, .int .i32 0] t)) := by
  refine ⟨?_, ?_, ?_, ?_, ?_, ?_, by simp⟩
  · rw [World.cell?_alloc_new]; rfl
  · rw [World.cell?_alloc_new]; rfl
  · rw [World.cell?_alloc_new]; rfl
  · rw [World.cell?_alloc_new]; rfl
  · rw [World.cell?_alloc_new]; rfl
  · intro o; simp
def oneV (o d a b i : Int) : Array Value := #[.int .i64 o, .int .i64 d, .int .i64 a, .int .i64 b, .int .i32 i]
set_option maxRecDepth 100000 in
set_option maxHeartbeats 8000000 in
theorem rdec_any (w : Int) (W : World) (h0 : 0 ≤ w) (h1 : w < 4294967296) : Calls Tryd.prog 9 #[.int .u32 w] W (RDecP w W) := by
  have RS := Lib.hid (res_new W 36)
  have HW := Lib.hid (show Below W.heap.size W (W.alloc (.cells #[.int .i64 0, .int .i64 0, .int .i64 0, .int .i64 0, .int .i32 0] 36)) by go_grown)
  have OB := Lib.hid (opI_bd w h0 h1)
  go_enter Tryd.func9, Tryd.ntmps9
  go_wp2_with fail
  go_loopw [4] (fun v wr => ∃ j : Nat, 1 ≤ j ∧ j ≤ 49 ∧ v = .int .i64 (j : Int) ∧ (opI w = 0 ∨ (j : Int) ≤ opI w) ∧ Below (W.alloc (.cells #[.int .i64 0, .int .i64 0, .int .i64 0, .int .i64 0, .int .i32 0] 36)).heap.size (W.alloc (.cells #[.int .i64 0, .int .i64 0, .int .i64 0, .int .i64 0, .int .i32 0] 36)) wr) (fun v _ => 60 - (intOf v).toNat)
  case atStart => exact ⟨1, by omega, by omega, rfl, by have := OB.out; omega, Below.refl _ _⟩
  case round =>
    obtain ⟨j, hj, hk, rfl, hop, hb⟩ := hrel
    have RJ := Lib.hid (RS.out.later hb)
    have HB := Lib.hid (below_trans HW.out hb)
    have HR := Lib.hid hb
    have OP := Lib.hid hop
    clear hb hop
    by_cases hlt : j ≤ 48
    · have ER := enc_rec (o := (j : Int)) h0 h1 (by omega)
      obtain ⟨E, hE⟩ : ∃ E, wordI (recI (j : Int) w) = E := ⟨_, rfl⟩
      have EE := Lib.hid (ER.1.trans hE)
      have CC := Lib.hid ER.2
      have EW := Lib.hid hE
      have GET := Lib.hid (ref2_get (formI (j : Int)) w · h0 h1)
      have t1 : decide (j ≤ 48) = true := by simp; omega
      clear ER hE
      by_cases hs : j ≤ 46
      · have OF := Lib.hid (of_any (j : Int) · (by omega))
        rcases combos (o := (j : Int)) (by omega) with ⟨r1, r2, r3, ff⟩ | ⟨r1, r2, r3, ff⟩ | ⟨r1, r2, r3, ff⟩ | ⟨r1, r2, r3, ff⟩ | ⟨r1, r2, r3, ff⟩ | ⟨r1, r2, r3, ff⟩
        · have RC := Lib.hid (show recI (j : Int) w = ⟨(j : Int), w / 128 % 32, w / 32768 % 32, w / 1048576 % 32, 0⟩ by unfold recI; rw [r1, r2, r3]; simp only [if_true]; rw [if_pos ff])
          have t5 : decide (0 < formI (j : Int)) = false := by simp; omega
          have t6 : decide (formI (j : Int) < 6) = true := by simp; omega
          have t7 : (formI (j : Int) == 6) = false := by simp; omega
          have R1 := Lib.hid r1
          have R2 := Lib.hid r2
          have R3 := Lib.hid r3
          have FF := Lib.hid ff
          clear r1 r2 r3 ff
          go_wp2_with fail
          refine (OF.out _).mono ?_
          unfold OfP sortV
          rw [R1.out, R2.out, R3.out]
          rintro e w1 ⟨rfl, b1⟩
          have K1 := Lib.hid b1
          have z1 := b1.size
          clear b1
          by_cases hl : w % 128 = lowI (j : Int)
          · have tl : (w % 128 != lowI (j : Int)) = false := by simpa using hl
            clear hl
            have RNC := Lib.hid (renc_at' (recI (j : Int) w) (j : Int) (w / 128 % 32) (w / 32768 % 32) (w / 1048576 % 32) (0) E · (by omega) (by omega) RC.out EE.out CC.out)
            go_wp2_with fail
            refine (RNC.out _).mono ?_
            rintro e w3 ⟨rfl, b3⟩
            obtain ⟨hbox, z2, z3, _⟩ := box5 b3
            have g0 : w3.cell? ⟨w1.heap.size + 1, 0, none⟩ = some (.int .i64 ((j : Int))) := by have := hbox 0 _ rfl; simpa using this
            have g1 : w3.cell? ⟨w1.heap.size + 1, 1, none⟩ = some (.int .i64 (w / 128 % 32)) := by have := hbox 1 _ rfl; simpa using this
            have g2 : w3.cell? ⟨w1.heap.size + 1, 2, none⟩ = some (.int .i64 (w / 32768 % 32)) := by have := hbox 2 _ rfl; simpa using this
            have g3 : w3.cell? ⟨w1.heap.size + 1, 3, none⟩ = some (.int .i64 (w / 1048576 % 32)) := by have := hbox 3 _ rfl; simpa using this
            have g4 : w3.cell? ⟨w1.heap.size + 1, 4, none⟩ = some (.int .i32 (0)) := by have := hbox 4 _ rfl; simpa using this
            have K5 := Lib.hid (below_trans K1.out (below_trans (show Below w1.heap.size w1 ((w1.alloc (.cells #[.int .u32 (lowI (j : Int)), .int .u32 (threeI (j : Int)), .int .u32 (sevenI (j : Int)), .int .i64 (formI (j : Int)), .bool true, .bool true, .bool true] 54)).alloc (.cells #[.int .i64 (j : Int), .int .i64 (w / 128 % 32), .int .i64 (w / 32768 % 32), .int .i64 (w / 1048576 % 32), .int .i32 (0)] 36)) by go_grown) b3))
            clear hbox b3 z2 z3
            by_cases he : E = w
            · have te : (E == w) = true := by simpa using he
              have YES := Lib.hid (rec_yes h0 h1 (by omega) (EW.out.trans he))
              obtain ⟨c0, c1, c2, c3, c4, fz, lt⟩ := RJ.out.later K5.out
              have f0 := fz 0
              have f1 := fz 1
              have f2 := fz 2
              have f3 := fz 3
              have f4 := fz 4
              clear fz he
              go_wp2_with fail
              exact bodyPost_ret (v := .tuple #[.agg #[.int .i64 (j : Int), .int .i64 (w / 128 % 32), .int .i64 (w / 32768 % 32), .int .i64 (w / 1048576 % 32), .int .i32 (0)], .bool true]) (by simp [results, Tryd.results9, go_sem, c0, c1, c2, c3, c4]) rfl (rdec_mk (YES.out.1.trans RC.out) YES.out.2 (by have := below_trans HB.out K5.out; go_grown))
            · have te : (E == w) = false := by simpa using he
              have NOT := Lib.hid (rec_not h0 h1 (o := (j : Int)) (by omega) (fun h => he (EW.out.symm.trans h)))
              clear he
              go_wp2_with fail
              refine ⟨⟨j + 1, by omega, by omega, by go_num, by have := NOT.out; have := OP.out; omega, HR.out.trans (K5.out.mono HR.out.size)⟩, by simp [intOf]; omega⟩
          · have tl : (w % 128 != lowI (j : Int)) = true := by simpa using hl
            have NOT := Lib.hid (op_low h0 h1 (o := (j : Int)) (by omega) hl)
            clear hl
            go_wp2_with fail
            refine ⟨⟨j + 1, by omega, by omega, by go_num, by have := NOT.out; have := OP.out; omega, HR.out.trans ((below_trans K1.out (by go_grown)).mono HR.out.size)⟩, by simp [intOf]; omega⟩
        · have RC := Lib.hid (show recI (j : Int) w = ⟨(j : Int), w / 128 % 32, w / 32768 % 32, 0, getS (formI (j : Int)) w⟩ by unfold recI; rw [r1, r2, r3]; simp only [Bool.false_eq_true, if_true, if_false]; rw [if_neg (by omega), if_neg (by omega)])
          have t5 : decide (0 < formI (j : Int)) = true := by simp; omega
          have t6 : decide (formI (j : Int) < 6) = true := by simp; omega
          have t7 : (formI (j : Int) == 6) = false := by simp; omega
          have R1 := Lib.hid r1
          have R2 := Lib.hid r2
          have R3 := Lib.hid r3
          clear r1 r2 r3 ff
          go_wp2_with fail
          refine (OF.out _).mono ?_
          unfold OfP sortV
          rw [R1.out, R2.out, R3.out]
          rintro e w1 ⟨rfl, b1⟩
          have K1 := Lib.hid b1
          have z1 := b1.size
          clear b1
          by_cases hl : w % 128 = lowI (j : Int)
          · have tl : (w % 128 != lowI (j : Int)) = false := by simpa using hl
            clear hl
            have RNC := Lib.hid (renc_at' (recI (j : Int) w) (j : Int) (w / 128 % 32) (w / 32768 % 32) (0) (getS (formI (j : Int)) w) E · (by exact (get_bd _ h0 h1).1) (by exact (get_bd _ h0 h1).2) RC.out EE.out CC.out)
            go_wp2_with fail
            refine (GET.out _).mono ?_
            rintro e w2 ⟨rfl, b2⟩
            obtain ⟨hbox, z2, z3, _⟩ := box5 b2
            have d0 : w2.cell? ⟨w1.heap.size + 1, 0, none⟩ = some (.int .i64 ((j : Int))) := by have := hbox 0 _ rfl; simpa using this
            have d1 : w2.cell? ⟨w1.heap.size + 1, 1, none⟩ = some (.int .i64 (w / 128 % 32)) := by have := hbox 1 _ rfl; simpa using this
            have d2 : w2.cell? ⟨w1.heap.size + 1, 2, none⟩ = some (.int .i64 (w / 32768 % 32)) := by have := hbox 2 _ rfl; simpa using this
            have d3 : w2.cell? ⟨w1.heap.size + 1, 3, none⟩ = some (.int .i64 (0)) := by have := hbox 3 _ rfl; simpa using this
            have d4 : w2.cell? ⟨w1.heap.size + 1, 4, none⟩ = some (.int .i32 (0)) := by have := hbox 4 _ rfl; simpa using this
            have e3 : w2.cell? ⟨w1.heap.size, 3, none⟩ = some (.int .i64 (formI (j : Int))) := (b2.cell (p := ⟨w1.heap.size, 3, none⟩) (by simp; omega)).trans ((World.cell?_alloc_past _ _ _ (by simp)).trans (by rw [World.cell?_alloc_new]; rfl))
            have fz2 : w2.frozen? ⟨w1.heap.size + 1, 4, none⟩ = false := (b2.frozen (p := ⟨w1.heap.size + 1, 4, none⟩) (by simp)).trans (by simp)
            have K3 := Lib.hid (below_trans K1.out (below_trans (show Below w1.heap.size w1 ((w1.alloc (.cells #[.int .u32 (lowI (j : Int)), .int .u32 (threeI (j : Int)), .int .u32 (sevenI (j : Int)), .int .i64 (formI (j : Int)), .bool true, .bool true, .bool false] 54)).alloc (.cells #[.int .i64 (j : Int), .int .i64 (w / 128 % 32), .int .i64 (w / 32768 % 32), .int .i64 (0), .int .i32 0] 36)) by go_grown) b2))
            have z4 : w1.heap.size + 1 < w2.heap.size := by simpa using z2
            clear b2 hbox z2 z3
            go_wp2_with fail
            refine (RNC.out _).mono ?_
            rintro e w3 ⟨rfl, b3⟩
            have s0 : (w2.setCell ⟨w1.heap.size + 1, 4, none⟩ (.int .i32 (getS (formI (j : Int)) w))).heap.size = w2.heap.size := by simp
            have g0 : w3.cell? ⟨w1.heap.size + 1, 0, none⟩ = some (.int .i64 ((j : Int))) := (b3.cell (p := ⟨w1.heap.size + 1, 0, none⟩) (by rw [s0]; exact z4)).trans ((World.cell?_setCell_other _ _ _ _ (by intro h; cases h)).trans d0)
            have g1 : w3.cell? ⟨w1.heap.size + 1, 1, none⟩ = some (.int .i64 (w / 128 % 32)) := (b3.cell (p := ⟨w1.heap.size + 1, 1, none⟩) (by rw [s0]; exact z4)).trans ((World.cell?_setCell_other _ _ _ _ (by intro h; cases h)).trans d1)
            have g2 : w3.cell? ⟨w1.heap.size + 1, 2, none⟩ = some (.int .i64 (w / 32768 % 32)) := (b3.cell (p := ⟨w1.heap.size + 1, 2, none⟩) (by rw [s0]; exact z4)).trans ((World.cell?_setCell_other _ _ _ _ (by intro h; cases h)).trans d2)
            have g3 : w3.cell? ⟨w1.heap.size + 1, 3, none⟩ = some (.int .i64 (0)) := (b3.cell (p := ⟨w1.heap.size + 1, 3, none⟩) (by rw [s0]; exact z4)).trans ((World.cell?_setCell_other _ _ _ _ (by intro h; cases h)).trans d3)
            have g4 : w3.cell? ⟨w1.heap.size + 1, 4, none⟩ = some (.int .i32 (getS (formI (j : Int)) w)) := (b3.cell (p := ⟨w1.heap.size + 1, 4, none⟩) (by rw [s0]; exact z4)).trans (World.cell?_setCell_same _ _ _ d4)
            have K5 := Lib.hid (below_trans (K3.out.setCell (by show wr.heap.size ≤ w1.heap.size + 1; omega) _) b3)
            clear d0 d1 d2 d3 d4 e3 fz2 b3 s0
            by_cases he : E = w
            · have te : (E == w) = true := by simpa using he
              have YES := Lib.hid (rec_yes h0 h1 (by omega) (EW.out.trans he))
              obtain ⟨c0, c1, c2, c3, c4, fz, lt⟩ := RJ.out.later K5.out
              have f0 := fz 0
              have f1 := fz 1
              have f2 := fz 2
              have f3 := fz 3
              have f4 := fz 4
              clear fz he
              go_wp2_with fail
              exact bodyPost_ret (v := .tuple #[.agg #[.int .i64 (j : Int), .int .i64 (w / 128 % 32), .int .i64 (w / 32768 % 32), .int .i64 (0), .int .i32 (getS (formI (j : Int)) w)], .bool true]) (by simp [results, Tryd.results9, go_sem, c0, c1, c2, c3, c4]) rfl (rdec_mk (YES.out.1.trans RC.out) YES.out.2 (by have := below_trans HB.out K5.out; go_grown))
            · have te : (E == w) = false := by simpa using he
              have NOT := Lib.hid (rec_not h0 h1 (o := (j : Int)) (by omega) (fun h => he (EW.out.symm.trans h)))
              clear he
              go_wp2_with fail
              refine ⟨⟨j + 1, by omega, by omega, by go_num, by have := NOT.out; have := OP.out; omega, HR.out.trans (K5.out.mono HR.out.size)⟩, by simp [intOf]; omega⟩
          · have tl : (w % 128 != lowI (j : Int)) = true := by simpa using hl
            have NOT := Lib.hid (op_low h0 h1 (o := (j : Int)) (by omega) hl)
            clear hl
            go_wp2_with fail
            refine ⟨⟨j + 1, by omega, by omega, by go_num, by have := NOT.out; have := OP.out; omega, HR.out.trans ((below_trans K1.out (by go_grown)).mono HR.out.size)⟩, by simp [intOf]; omega⟩
        · have RC := Lib.hid (show recI (j : Int) w = ⟨(j : Int), w / 128 % 32, w / 32768 % 32, 0, w / 1048576 % 32⟩ by unfold recI; rw [r1, r2, r3]; simp only [Bool.false_eq_true, if_true, if_false]; rw [if_neg (by omega), if_pos ff])
          have t5 : decide (0 < formI (j : Int)) = true := by simp; omega
          have t6 : decide (formI (j : Int) < 6) = false := by simp; omega
          have t7 : (formI (j : Int) == 6) = true := by simp; omega
          have R1 := Lib.hid r1
          have R2 := Lib.hid r2
          have R3 := Lib.hid r3
          have FF := Lib.hid ff
          clear r1 r2 r3 ff
          go_wp2_with fail
          refine (OF.out _).mono ?_
          unfold OfP sortV
          rw [R1.out, R2.out, R3.out]
          rintro e w1 ⟨rfl, b1⟩
          have K1 := Lib.hid b1
          have z1 := b1.size
          clear b1
          by_cases hl : w % 128 = lowI (j : Int)
          · have tl : (w % 128 != lowI (j : Int)) = false := by simpa using hl
            clear hl
            have RNC := Lib.hid (renc_at' (recI (j : Int) w) (j : Int) (w / 128 % 32) (w / 32768 % 32) (0) (w / 1048576 % 32) E · (by omega) (by omega) RC.out EE.out CC.out)
            go_wp2_with fail
            refine (RNC.out _).mono ?_
            rintro e w3 ⟨rfl, b3⟩
            obtain ⟨hbox, z2, z3, _⟩ := box5 b3
            have g0 : w3.cell? ⟨w1.heap.size + 1, 0, none⟩ = some (.int .i64 ((j : Int))) := by have := hbox 0 _ rfl; simpa using this
            have g1 : w3.cell? ⟨w1.heap.size + 1, 1, none⟩ = some (.int .i64 (w / 128 % 32)) := by have := hbox 1 _ rfl; simpa using this
            have g2 : w3.cell? ⟨w1.heap.size + 1, 2, none⟩ = some (.int .i64 (w / 32768 % 32)) := by have := hbox 2 _ rfl; simpa using this
            have g3 : w3.cell? ⟨w1.heap.size + 1, 3, none⟩ = some (.int .i64 (0)) := by have := hbox 3 _ rfl; simpa using this
            have g4 : w3.cell? ⟨w1.heap.size + 1, 4, none⟩ = some (.int .i32 (w / 1048576 % 32)) := by have := hbox 4 _ rfl; simpa using this
            have K5 := Lib.hid (below_trans K1.out (below_trans (show Below w1.heap.size w1 ((w1.alloc (.cells #[.int .u32 (lowI (j : Int)), .int .u32 (threeI (j : Int)), .int .u32 (sevenI (j : Int)), .int .i64 (formI (j : Int)), .bool true, .bool true, .bool false] 54)).alloc (.cells #[.int .i64 (j : Int), .int .i64 (w / 128 % 32), .int .i64 (w / 32768 % 32), .int .i64 (0), .int .i32 (w / 1048576 % 32)] 36)) by go_grown) b3))
            clear hbox b3 z2 z3
            by_cases he : E = w
            · have te : (E == w) = true := by simpa using he
              have YES := Lib.hid (rec_yes h0 h1 (by omega) (EW.out.trans he))
              obtain ⟨c0, c1, c2, c3, c4, fz, lt⟩ := RJ.out.later K5.out
              have f0 := fz 0
              have f1 := fz 1
              have f2 := fz 2
              have f3 := fz 3
              have f4 := fz 4
              clear fz he
              go_wp2_with fail
              exact bodyPost_ret (v := .tuple #[.agg #[.int .i64 (j : Int), .int .i64 (w / 128 % 32), .int .i64 (w / 32768 % 32), .int .i64 (0), .int .i32 (w / 1048576 % 32)], .bool true]) (by simp [results, Tryd.results9, go_sem, c0, c1, c2, c3, c4]) rfl (rdec_mk (YES.out.1.trans RC.out) YES.out.2 (by have := below_trans HB.out K5.out; go_grown))
            · have te : (E == w) = false := by simpa using he
              have NOT := Lib.hid (rec_not h0 h1 (o := (j : Int)) (by omega) (fun h => he (EW.out.symm.trans h)))
              clear he
              go_wp2_with fail
              refine ⟨⟨j + 1, by omega, by omega, by go_num, by have := NOT.out; have := OP.out; omega, HR.out.trans (K5.out.mono HR.out.size)⟩, by simp [intOf]; omega⟩
          · have tl : (w % 128 != lowI (j : Int)) = true := by simpa using hl
            have NOT := Lib.hid (op_low h0 h1 (o := (j : Int)) (by omega) hl)
            clear hl
            go_wp2_with fail
            refine ⟨⟨j + 1, by omega, by omega, by go_num, by have := NOT.out; have := OP.out; omega, HR.out.trans ((below_trans K1.out (by go_grown)).mono HR.out.size)⟩, by simp [intOf]; omega⟩
        · have RC := Lib.hid (show recI (j : Int) w = ⟨(j : Int), 0, w / 32768 % 32, w / 1048576 % 32, getS (formI (j : Int)) w⟩ by unfold recI; rw [r1, r2, r3]; simp only [Bool.false_eq_true, if_true, if_false]; rw [if_neg (by omega), if_neg (by omega)])
          have t5 : decide (0 < formI (j : Int)) = true := by simp; omega
          have t6 : decide (formI (j : Int) < 6) = true := by simp; omega
          have t7 : (formI (j : Int) == 6) = false := by simp; omega
          have R1 := Lib.hid r1
          have R2 := Lib.hid r2
          have R3 := Lib.hid r3
          clear r1 r2 r3 ff
          go_wp2_with fail
          refine (OF.out _).mono ?_
          unfold OfP sortV
          rw [R1.out, R2.out, R3.out]
          rintro e w1 ⟨rfl, b1⟩
          have K1 := Lib.hid b1
          have z1 := b1.size
          clear b1
          by_cases hl : w % 128 = lowI (j : Int)
          · have tl : (w % 128 != lowI (j : Int)) = false := by simpa using hl
            clear hl
            have RNC := Lib.hid (renc_at' (recI (j : Int) w) (j : Int) (0) (w / 32768 % 32) (w / 1048576 % 32) (getS (formI (j : Int)) w) E · (by exact (get_bd _ h0 h1).1) (by exact (get_bd _ h0 h1).2) RC.out EE.out CC.out)
            go_wp2_with fail
            refine (GET.out _).mono ?_
            rintro e w2 ⟨rfl, b2⟩
            obtain ⟨hbox, z2, z3, _⟩ := box5 b2
            have d0 : w2.cell? ⟨w1.heap.size + 1, 0, none⟩ = some (.int .i64 ((j : Int))) := by have := hbox 0 _ rfl; simpa using this
            have d1 : w2.cell? ⟨w1.heap.size + 1, 1, none⟩ = some (.int .i64 (0)) := by have := hbox 1 _ rfl; simpa using this
            have d2 : w2.cell? ⟨w1.heap.size + 1, 2, none⟩ = some (.int .i64 (w / 32768 % 32)) := by have := hbox 2 _ rfl; simpa using this
            have d3 : w2.cell? ⟨w1.heap.size + 1, 3, none⟩ = some (.int .i64 (w / 1048576 % 32)) := by have := hbox 3 _ rfl; simpa using this
            have d4 : w2.cell? ⟨w1.heap.size + 1, 4, none⟩ = some (.int .i32 (0)) := by have := hbox 4 _ rfl; simpa using this
            have e3 : w2.cell? ⟨w1.heap.size, 3, none⟩ = some (.int .i64 (formI (j : Int))) := (b2.cell (p := ⟨w1.heap.size, 3, none⟩) (by simp; omega)).trans ((World.cell?_alloc_past _ _ _ (by simp)).trans (by rw [World.cell?_alloc_new]; rfl))
            have fz2 : w2.frozen? ⟨w1.heap.size + 1, 4, none⟩ = false := (b2.frozen (p := ⟨w1.heap.size + 1, 4, none⟩) (by simp)).trans (by simp)
            have K3 := Lib.hid (below_trans K1.out (below_trans (show Below w1.heap.size w1 ((w1.alloc (.cells #[.int .u32 (lowI (j : Int)), .int .u32 (threeI (j : Int)), .int .u32 (sevenI (j : Int)), .int .i64 (formI (j : Int)), .bool false, .bool true, .bool true] 54)).alloc (.cells #[.int .i64 (j : Int), .int .i64 (0), .int .i64 (w / 32768 % 32), .int .i64 (w / 1048576 % 32), .int .i32 0] 36)) by go_grown) b2))
            have z4 : w1.heap.size + 1 < w2.heap.size := by simpa using z2
            clear b2 hbox z2 z3
            go_wp2_with fail
            refine (RNC.out _).mono ?_
            rintro e w3 ⟨rfl, b3⟩
            have s0 : (w2.setCell ⟨w1.heap.size + 1, 4, none⟩ (.int .i32 (getS (formI (j : Int)) w))).heap.size = w2.heap.size := by simp
            have g0 : w3.cell? ⟨w1.heap.size + 1, 0, none⟩ = some (.int .i64 ((j : Int))) := (b3.cell (p := ⟨w1.heap.size + 1, 0, none⟩) (by rw [s0]; exact z4)).trans ((World.cell?_setCell_other _ _ _ _ (by intro h; cases h)).trans d0)
            have g1 : w3.cell? ⟨w1.heap.size + 1, 1, none⟩ = some (.int .i64 (0)) := (b3.cell (p := ⟨w1.heap.size + 1, 1, none⟩) (by rw [s0]; exact z4)).trans ((World.cell?_setCell_other _ _ _ _ (by intro h; cases h)).trans d1)
            have g2 : w3.cell? ⟨w1.heap.size + 1, 2, none⟩ = some (.int .i64 (w / 32768 % 32)) := (b3.cell (p := ⟨w1.heap.size + 1, 2, none⟩) (by rw [s0]; exact z4)).trans ((World.cell?_setCell_other _ _ _ _ (by intro h; cases h)).trans d2)
            have g3 : w3.cell? ⟨w1.heap.size + 1, 3, none⟩ = some (.int .i64 (w / 1048576 % 32)) := (b3.cell (p := ⟨w1.heap.size + 1, 3, none⟩) (by rw [s0]; exact z4)).trans ((World.cell?_setCell_other _ _ _ _ (by intro h; cases h)).trans d3)
            have g4 : w3.cell? ⟨w1.heap.size + 1, 4, none⟩ = some (.int .i32 (getS (formI (j : Int)) w)) := (b3.cell (p := ⟨w1.heap.size + 1, 4, none⟩) (by rw [s0]; exact z4)).trans (World.cell?_setCell_same _ _ _ d4)
            have K5 := Lib.hid (below_trans (K3.out.setCell (by show wr.heap.size ≤ w1.heap.size + 1; omega) _) b3)
            clear d0 d1 d2 d3 d4 e3 fz2 b3 s0
            by_cases he : E = w
            · have te : (E == w) = true := by simpa using he
              have YES := Lib.hid (rec_yes h0 h1 (by omega) (EW.out.trans he))
              obtain ⟨c0, c1, c2, c3, c4, fz, lt⟩ := RJ.out.later K5.out
              have f0 := fz 0
              have f1 := fz 1
              have f2 := fz 2
              have f3 := fz 3
              have f4 := fz 4
              clear fz he
              go_wp2_with fail
              exact bodyPost_ret (v := .tuple #[.agg #[.int .i64 (j : Int), .int .i64 (0), .int .i64 (w / 32768 % 32), .int .i64 (w / 1048576 % 32), .int .i32 (getS (formI (j : Int)) w)], .bool true]) (by simp [results, Tryd.results9, go_sem, c0, c1, c2, c3, c4]) rfl (rdec_mk (YES.out.1.trans RC.out) YES.out.2 (by have := below_trans HB.out K5.out; go_grown))
            · have te : (E == w) = false := by simpa using he
              have NOT := Lib.hid (rec_not h0 h1 (o := (j : Int)) (by omega) (fun h => he (EW.out.symm.trans h)))
              clear he
              go_wp2_with fail
              refine ⟨⟨j + 1, by omega, by omega, by go_num, by have := NOT.out; have := OP.out; omega, HR.out.trans (K5.out.mono HR.out.size)⟩, by simp [intOf]; omega⟩
          · have tl : (w % 128 != lowI (j : Int)) = true := by simpa using hl
            have NOT := Lib.hid (op_low h0 h1 (o := (j : Int)) (by omega) hl)
            clear hl
            go_wp2_with fail
            refine ⟨⟨j + 1, by omega, by omega, by go_num, by have := NOT.out; have := OP.out; omega, HR.out.trans ((below_trans K1.out (by go_grown)).mono HR.out.size)⟩, by simp [intOf]; omega⟩
        · have RC := Lib.hid (show recI (j : Int) w = ⟨(j : Int), w / 128 % 32, 0, 0, getS (formI (j : Int)) w⟩ by unfold recI; rw [r1, r2, r3]; simp only [Bool.false_eq_true, if_true, if_false]; rw [if_neg (by omega), if_neg (by omega)])
          have t5 : decide (0 < formI (j : Int)) = true := by simp; omega
          have t6 : decide (formI (j : Int) < 6) = true := by simp; omega
          have t7 : (formI (j : Int) == 6) = false := by simp; omega
          have R1 := Lib.hid r1
          have R2 := Lib.hid r2
          have R3 := Lib.hid r3
          clear r1 r2 r3 ff
          go_wp2_with fail
          refine (OF.out _).mono ?_
          unfold OfP sortV
          rw [R1.out, R2.out, R3.out]
          rintro e w1 ⟨rfl, b1⟩
          have K1 := Lib.hid b1
          have z1 := b1.size
          clear b1
          by_cases hl : w % 128 = lowI (j : Int)
          · have tl : (w % 128 != lowI (j : Int)) = false := by simpa using hl
            clear hl
            have RNC := Lib.hid (renc_at' (recI (j : Int) w) (j : Int) (w / 128 % 32) (0) (0) (getS (formI (j : Int)) w) E · (by exact (get_bd _ h0 h1).1) (by exact (get_bd _ h0 h1).2) RC.out EE.out CC.out)
            go_wp2_with fail
            refine (GET.out _).mono ?_
            rintro e w2 ⟨rfl, b2⟩
            obtain ⟨hbox, z2, z3, _⟩ := box5 b2
            have d0 : w2.cell? ⟨w1.heap.size + 1, 0, none⟩ = some (.int .i64 ((j : Int))) := by have := hbox 0 _ rfl; simpa using this
            have d1 : w2.cell? ⟨w1.heap.size + 1, 1, none⟩ = some (.int .i64 (w / 128 % 32)) := by have := hbox 1 _ rfl; simpa using this
            have d2 : w2.cell? ⟨w1.heap.size + 1, 2, none⟩ = some (.int .i64 (0)) := by have := hbox 2 _ rfl; simpa using this
            have d3 : w2.cell? ⟨w1.heap.size + 1, 3, none⟩ = some (.int .i64 (0)) := by have := hbox 3 _ rfl; simpa using this
            have d4 : w2.cell? ⟨w1.heap.size + 1, 4, none⟩ = some (.int .i32 (0)) := by have := hbox 4 _ rfl; simpa using this
            have e3 : w2.cell? ⟨w1.heap.size, 3, none⟩ = some (.int .i64 (formI (j : Int))) := (b2.cell (p := ⟨w1.heap.size, 3, none⟩) (by simp; omega)).trans ((World.cell?_alloc_past _ _ _ (by simp)).trans (by rw [World.cell?_alloc_new]; rfl))
            have fz2 : w2.frozen? ⟨w1.heap.size + 1, 4, none⟩ = false := (b2.frozen (p := ⟨w1.heap.size + 1, 4, none⟩) (by simp)).trans (by simp)
            have K3 := Lib.hid (below_trans K1.out (below_trans (show Below w1.heap.size w1 ((w1.alloc (.cells #[.int .u32 (lowI (j : Int)), .int .u32 (threeI (j : Int)), .int .u32 (sevenI (j : Int)), .int .i64 (formI (j : Int)), .bool true, .bool false, .bool false] 54)).alloc (.cells #[.int .i64 (j : Int), .int .i64 (w / 128 % 32), .int .i64 (0), .int .i64 (0), .int .i32 0] 36)) by go_grown) b2))
            have z4 : w1.heap.size + 1 < w2.heap.size := by simpa using z2
            clear b2 hbox z2 z3
            go_wp2_with fail
            refine (RNC.out _).mono ?_
            rintro e w3 ⟨rfl, b3⟩
            have s0 : (w2.setCell ⟨w1.heap.size + 1, 4, none⟩ (.int .i32 (getS (formI (j : Int)) w))).heap.size = w2.heap.size := by simp
            have g0 : w3.cell? ⟨w1.heap.size + 1, 0, none⟩ = some (.int .i64 ((j : Int))) := (b3.cell (p := ⟨w1.heap.size + 1, 0, none⟩) (by rw [s0]; exact z4)).trans ((World.cell?_setCell_other _ _ _ _ (by intro h; cases h)).trans d0)
            have g1 : w3.cell? ⟨w1.heap.size + 1, 1, none⟩ = some (.int .i64 (w / 128 % 32)) := (b3.cell (p := ⟨w1.heap.size + 1, 1, none⟩) (by rw [s0]; exact z4)).trans ((World.cell?_setCell_other _ _ _ _ (by intro h; cases h)).trans d1)
            have g2 : w3.cell? ⟨w1.heap.size + 1, 2, none⟩ = some (.int .i64 (0)) := (b3.cell (p := ⟨w1.heap.size + 1, 2, none⟩) (by rw [s0]; exact z4)).trans ((World.cell?_setCell_other _ _ _ _ (by intro h; cases h)).trans d2)
            have g3 : w3.cell? ⟨w1.heap.size + 1, 3, none⟩ = some (.int .i64 (0)) := (b3.cell (p := ⟨w1.heap.size + 1, 3, none⟩) (by rw [s0]; exact z4)).trans ((World.cell?_setCell_other _ _ _ _ (by intro h; cases h)).trans d3)
            have g4 : w3.cell? ⟨w1.heap.size + 1, 4, none⟩ = some (.int .i32 (getS (formI (j : Int)) w)) := (b3.cell (p := ⟨w1.heap.size + 1, 4, none⟩) (by rw [s0]; exact z4)).trans (World.cell?_setCell_same _ _ _ d4)
            have K5 := Lib.hid (below_trans (K3.out.setCell (by show wr.heap.size ≤ w1.heap.size + 1; omega) _) b3)
            clear d0 d1 d2 d3 d4 e3 fz2 b3 s0
            by_cases he : E = w
            · have te : (E == w) = true := by simpa using he
              have YES := Lib.hid (rec_yes h0 h1 (by omega) (EW.out.trans he))
              obtain ⟨c0, c1, c2, c3, c4, fz, lt⟩ := RJ.out.later K5.out
              have f0 := fz 0
              have f1 := fz 1
              have f2 := fz 2
              have f3 := fz 3
              have f4 := fz 4
              clear fz he
              go_wp2_with fail
              exact bodyPost_ret (v := .tuple #[.agg #[.int .i64 (j : Int), .int .i64 (w / 128 % 32), .int .i64 (0), .int .i64 (0), .int .i32 (getS (formI (j : Int)) w)], .bool true]) (by simp [results, Tryd.results9, go_sem, c0, c1, c2, c3, c4]) rfl (rdec_mk (YES.out.1.trans RC.out) YES.out.2 (by have := below_trans HB.out K5.out; go_grown))
            · have te : (E == w) = false := by simpa using he
              have NOT := Lib.hid (rec_not h0 h1 (o := (j : Int)) (by omega) (fun h => he (EW.out.symm.trans h)))
              clear he
              go_wp2_with fail
              refine ⟨⟨j + 1, by omega, by omega, by go_num, by have := NOT.out; have := OP.out; omega, HR.out.trans (K5.out.mono HR.out.size)⟩, by simp [intOf]; omega⟩
          · have tl : (w % 128 != lowI (j : Int)) = true := by simpa using hl
            have NOT := Lib.hid (op_low h0 h1 (o := (j : Int)) (by omega) hl)
            clear hl
            go_wp2_with fail
            refine ⟨⟨j + 1, by omega, by omega, by go_num, by have := NOT.out; have := OP.out; omega, HR.out.trans ((below_trans K1.out (by go_grown)).mono HR.out.size)⟩, by simp [intOf]; omega⟩
        · have RC := Lib.hid (show recI (j : Int) w = ⟨(j : Int), 0, 0, 0, getS (formI (j : Int)) w⟩ by unfold recI; rw [r1, r2, r3]; simp only [Bool.false_eq_true, if_false]; rw [if_neg (by omega), if_neg (by omega)])
          have t5 : decide (0 < formI (j : Int)) = true := by simp; omega
          have t6 : decide (formI (j : Int) < 6) = true := by simp; omega
          have t7 : (formI (j : Int) == 6) = false := by simp; omega
          have R1 := Lib.hid r1
          have R2 := Lib.hid r2
          have R3 := Lib.hid r3
          clear r1 r2 r3 ff
          go_wp2_with fail
          refine (OF.out _).mono ?_
          unfold OfP sortV
          rw [R1.out, R2.out, R3.out]
          rintro e w1 ⟨rfl, b1⟩
          have K1 := Lib.hid b1
          have z1 := b1.size
          clear b1
          by_cases hl : w % 128 = lowI (j : Int)
          · have tl : (w % 128 != lowI (j : Int)) = false := by simpa using hl
            clear hl
            have RNC := Lib.hid (renc_at' (recI (j : Int) w) (j : Int) (0) (0) (0) (getS (formI (j : Int)) w) E · (by exact (get_bd _ h0 h1).1) (by exact (get_bd _ h0 h1).2) RC.out EE.out CC.out)
            go_wp2_with fail
            refine (GET.out _).mono ?_
            rintro e w2 ⟨rfl, b2⟩
            obtain ⟨hbox, z2, z3, _⟩ := box5 b2
            have d0 : w2.cell? ⟨w1.heap.size + 1, 0, none⟩ = some (.int .i64 ((j : Int))) := by have := hbox 0 _ rfl; simpa using this
            have d1 : w2.cell? ⟨w1.heap.size + 1, 1, none⟩ = some (.int .i64 (0)) := by have := hbox 1 _ rfl; simpa using this
            have d2 : w2.cell? ⟨w1.heap.size + 1, 2, none⟩ = some (.int .i64 (0)) := by have := hbox 2 _ rfl; simpa using this
            have d3 : w2.cell? ⟨w1.heap.size + 1, 3, none⟩ = some (.int .i64 (0)) := by have := hbox 3 _ rfl; simpa using this
            have d4 : w2.cell? ⟨w1.heap.size + 1, 4, none⟩ = some (.int .i32 (0)) := by have := hbox 4 _ rfl; simpa using this
            have e3 : w2.cell? ⟨w1.heap.size, 3, none⟩ = some (.int .i64 (formI (j : Int))) := (b2.cell (p := ⟨w1.heap.size, 3, none⟩) (by simp; omega)).trans ((World.cell?_alloc_past _ _ _ (by simp)).trans (by rw [World.cell?_alloc_new]; rfl))
            have fz2 : w2.frozen? ⟨w1.heap.size + 1, 4, none⟩ = false := (b2.frozen (p := ⟨w1.heap.size + 1, 4, none⟩) (by simp)).trans (by simp)
            have K3 := Lib.hid (below_trans K1.out (below_trans (show Below w1.heap.size w1 ((w1.alloc (.cells #[.int .u32 (lowI (j : Int)), .int .u32 (threeI (j : Int)), .int .u32 (sevenI (j : Int)), .int .i64 (formI (j : Int)), .bool false, .bool false, .bool false] 54)).alloc (.cells #[.int .i64 (j : Int), .int .i64 (0), .int .i64 (0), .int .i64 (0), .int .i32 0] 36)) by go_grown) b2))
            have z4 : w1.heap.size + 1 < w2.heap.size := by simpa using z2
            clear b2 hbox z2 z3
            go_wp2_with fail
            refine (RNC.out _).mono ?_
            rintro e w3 ⟨rfl, b3⟩
            have s0 : (w2.setCell ⟨w1.heap.size + 1, 4, none⟩ (.int .i32 (getS (formI (j : Int)) w))).heap.size = w2.heap.size := by simp
            have g0 : w3.cell? ⟨w1.heap.size + 1, 0, none⟩ = some (.int .i64 ((j : Int))) := (b3.cell (p := ⟨w1.heap.size + 1, 0, none⟩) (by rw [s0]; exact z4)).trans ((World.cell?_setCell_other _ _ _ _ (by intro h; cases h)).trans d0)
            have g1 : w3.cell? ⟨w1.heap.size + 1, 1, none⟩ = some (.int .i64 (0)) := (b3.cell (p := ⟨w1.heap.size + 1, 1, none⟩) (by rw [s0]; exact z4)).trans ((World.cell?_setCell_other _ _ _ _ (by intro h; cases h)).trans d1)
            have g2 : w3.cell? ⟨w1.heap.size + 1, 2, none⟩ = some (.int .i64 (0)) := (b3.cell (p := ⟨w1.heap.size + 1, 2, none⟩) (by rw [s0]; exact z4)).trans ((World.cell?_setCell_other _ _ _ _ (by intro h; cases h)).trans d2)
            have g3 : w3.cell? ⟨w1.heap.size + 1, 3, none⟩ = some (.int .i64 (0)) := (b3.cell (p := ⟨w1.heap.size + 1, 3, none⟩) (by rw [s0]; exact z4)).trans ((World.cell?_setCell_other _ _ _ _ (by intro h; cases h)).trans d3)
            have g4 : w3.cell? ⟨w1.heap.size + 1, 4, none⟩ = some (.int .i32 (getS (formI (j : Int)) w)) := (b3.cell (p := ⟨w1.heap.size + 1, 4, none⟩) (by rw [s0]; exact z4)).trans (World.cell?_setCell_same _ _ _ d4)
            have K5 := Lib.hid (below_trans (K3.out.setCell (by show wr.heap.size ≤ w1.heap.size + 1; omega) _) b3)
            clear d0 d1 d2 d3 d4 e3 fz2 b3 s0
            by_cases he : E = w
            · have te : (E == w) = true := by simpa using he
              have YES := Lib.hid (rec_yes h0 h1 (by omega) (EW.out.trans he))
              obtain ⟨c0, c1, c2, c3, c4, fz, lt⟩ := RJ.out.later K5.out
              have f0 := fz 0
              have f1 := fz 1
              have f2 := fz 2
              have f3 := fz 3
              have f4 := fz 4
              clear fz he
              go_wp2_with fail
              exact bodyPost_ret (v := .tuple #[.agg #[.int .i64 (j : Int), .int .i64 (0), .int .i64 (0), .int .i64 (0), .int .i32 (getS (formI (j : Int)) w)], .bool true]) (by simp [results, Tryd.results9, go_sem, c0, c1, c2, c3, c4]) rfl (rdec_mk (YES.out.1.trans RC.out) YES.out.2 (by have := below_trans HB.out K5.out; go_grown))
            · have te : (E == w) = false := by simpa using he
              have NOT := Lib.hid (rec_not h0 h1 (o := (j : Int)) (by omega) (fun h => he (EW.out.symm.trans h)))
              clear he
              go_wp2_with fail
              refine ⟨⟨j + 1, by omega, by omega, by go_num, by have := NOT.out; have := OP.out; omega, HR.out.trans (K5.out.mono HR.out.size)⟩, by simp [intOf]; omega⟩
          · have tl : (w % 128 != lowI (j : Int)) = true := by simpa using hl
            have NOT := Lib.hid (op_low h0 h1 (o := (j : Int)) (by omega) hl)
            clear hl
            go_wp2_with fail
            refine ⟨⟨j + 1, by omega, by omega, by go_num, by have := NOT.out; have := OP.out; omega, HR.out.trans ((below_trans K1.out (by go_grown)).mono HR.out.size)⟩, by simp [intOf]; omega⟩
      · have ON := Lib.hid (of_none (j : Int) · (by omega))
        have hj2 : j = 47 ∨ j = 48 := by omega
        have RC := Lib.hid (show recI (j : Int) w = ⟨(j : Int), 0, 0, 0, 0⟩ by rcases hj2 with rfl | rfl <;> rfl)
        have RNC := Lib.hid (renc_at' (recI (j : Int) w) (j : Int) 0 0 0 0 E · (by omega) (by omega) RC.out EE.out CC.out)
        clear hj2
        go_wp2_with fail
        refine (ON.out _).mono ?_
        unfold OfN zeroV
        rintro e w1 ⟨rfl, b1⟩
        have K1 := Lib.hid b1
        have z1 := b1.size
        clear b1
        go_wp2_with fail
        refine (RNC.out _).mono ?_
        rintro e w3 ⟨rfl, b3⟩
        obtain ⟨hbox, z2, z3, _⟩ := box5 b3
        have g0 : w3.cell? ⟨w1.heap.size + 1, 0, none⟩ = some (.int .i64 ((j : Int))) := by have := hbox 0 _ rfl; simpa using this
        have g1 : w3.cell? ⟨w1.heap.size + 1, 1, none⟩ = some (.int .i64 (0)) := by have := hbox 1 _ rfl; simpa using this
        have g2 : w3.cell? ⟨w1.heap.size + 1, 2, none⟩ = some (.int .i64 (0)) := by have := hbox 2 _ rfl; simpa using this
        have g3 : w3.cell? ⟨w1.heap.size + 1, 3, none⟩ = some (.int .i64 (0)) := by have := hbox 3 _ rfl; simpa using this
        have g4 : w3.cell? ⟨w1.heap.size + 1, 4, none⟩ = some (.int .i32 (0)) := by have := hbox 4 _ rfl; simpa using this
        have K5 := Lib.hid (below_trans K1.out (below_trans (show Below w1.heap.size w1 ((w1.alloc (.cells #[.int .u32 0, .int .u32 0, .int .u32 0, .int .i64 0, .bool false, .bool false, .bool false] 54)).alloc (.cells #[.int .i64 (j : Int), .int .i64 0, .int .i64 0, .int .i64 0, .int .i32 0] 36)) by go_grown) b3))
        clear hbox b3 z2 z3
        by_cases he : E = w
        · have te : (E == w) = true := by simpa using he
          have YES := Lib.hid (rec_yes h0 h1 (by omega) (EW.out.trans he))
          obtain ⟨c0, c1, c2, c3, c4, fz, lt⟩ := RJ.out.later K5.out
          have f0 := fz 0
          have f1 := fz 1
          have f2 := fz 2
          have f3 := fz 3
          have f4 := fz 4
          clear fz he
          go_wp2_with fail
          exact bodyPost_ret (v := .tuple #[.agg #[.int .i64 (j : Int), .int .i64 0, .int .i64 0, .int .i64 0, .int .i32 0], .bool true]) (by simp [results, Tryd.results9, go_sem, c0, c1, c2, c3, c4]) rfl (rdec_mk (YES.out.1.trans RC.out) YES.out.2 (by have := below_trans HB.out K5.out; go_grown))
        · have te : (E == w) = false := by simpa using he
          have NOT := Lib.hid (rec_not h0 h1 (o := (j : Int)) (by omega) (fun h => he (EW.out.symm.trans h)))
          clear he
          go_wp2_with fail
          refine ⟨⟨j + 1, by omega, by omega, by go_num, by have := NOT.out; have := OP.out; omega, HR.out.trans (K5.out.mono HR.out.size)⟩, by simp [intOf]; omega⟩
    · obtain ⟨c0, c1, c2, c3, c4, fz, lt⟩ := RJ.out
      have hj49 : ((j : Nat) : Int) = 49 := by omega
      have Z := Lib.hid (show opI w = 0 by have := OP.out; have := OB.out; omega)
      have t1 : decide (j ≤ 48) = false := by simp; omega
      have f0 := fz 0
      have f1 := fz 1
      have f2 := fz 2
      have f3 := fz 3
      have f4 := fz 4
      clear fz hj49
      go_wp2_with fail
      exact bodyPost_ret (v := .tuple #[.agg #[.int .i64 0, .int .i64 0, .int .i64 0, .int .i64 0, .int .i32 0], .bool false]) (by simp [results, Tryd.results9, go_sem, c0, c1, c2, c3, c4]) rfl (rdec_none Z.out (by have := HB.out; go_grown))
end Go.Proofs.YtipecnofjdhobaaDoor
