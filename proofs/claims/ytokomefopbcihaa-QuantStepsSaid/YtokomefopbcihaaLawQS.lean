/- The statement QuantSteps of layer 20 (numbers brought to a byte): it returns true for all inputs. -/
import Derived.Test.YtokomefopbcihaaRows
import Derived.Test.YtokomefopbcihaaSteps
import Derived.Test.YtokomefopbcihaaMach
import Derived.Test.YtokomefopbcihaaPlainO
import Derived.Test.YtokomefopbcihaaPlainY
namespace Go.Proofs.Ytokomefopbcihaa
open Pl Go Go.RowKit Go.ChangeShapes Go.WideShapes Go.ChangeAt
set_option linter.unusedVariables false


/-- an array of 64 words in its block -/
structure Row64 (B : Nat) (f : Nat → Int) (w : World) : Prop where
  v : ∀ k, k < 64 → w.cell? ⟨B, k, none⟩ = some (.int .u32 (f k))
  fz : ∀ k, k < 64 → w.frozen? ⟨B, k, none⟩ = false
  lt : B < w.heap.size
theorem Row64.grown {B : Nat} {f : Nat → Int} {w w' : World} (h : Row64 B f w) (hb : Below w.heap.size w w') : Row64 B f w' :=
  ⟨fun k hk => (hb.cell (by exact h.lt)).trans (h.v k hk), fun k hk => (hb.frozen (by exact h.lt)).trans (h.fz k hk), Nat.lt_of_lt_of_le h.lt hb.size⟩
theorem row64_set {B D : Nat} {f : Nat → Int} {x : Int} {w : World} (h : Row64 B f w) (hD : D < 64) : Row64 B (upd f D x) (w.setCell ⟨B, D, none⟩ (.int .u32 x)) := by
  refine ⟨fun k hk => ?_, fun k hk => ?_, ?_⟩
  · unfold upd
    by_cases g : k = D
    · subst g; rw [if_pos rfl]; exact World.cell?_setCell_same _ _ _ (h.v k hk)
    · rw [if_neg g, World.cell?_setCell_other (h := fun e => g (by cases e; rfl))]; exact h.v k hk
  · rw [frozen_set]; exact h.fz k hk
  · rw [World.size_setCell]; exact h.lt
theorem row64_range {B : Nat} {f : Nat → Int} {w : World} (h : Row64 B f w) : w.rangeAt B 0 (cellsF f) := fun j v hj => by
  obtain ⟨hjl, _⟩ := List.getElem?_eq_some_iff.1 hj
  rw [cellsF_len] at hjl
  rw [cellsF_at _ hjl] at hj
  cases hj
  rw [Nat.zero_add]
  exact h.v j hjl
theorem row64_zero (w : World) (t : TypeId) (zs : Array Value) (hz : ∀ k, k < 64 → zs[k]? = some (.int .u32 0)) : Row64 w.heap.size (fun _ => 0) (w.alloc (.cells zs t)) := by
  refine ⟨fun k hk => ?_, fun k hk => by simp, by simp⟩
  rw [World.cell?_alloc_new]; exact hz k hk
/-- 64 noughts -/
def zs64 : Array Value := Array.replicate 64 (.int .u32 0)
theorem zs64_one : zs64.all (·.oneCell') = true := by kernel_rfl
theorem row64_setRow {W : World} {g : Nat} {old : Array Value} {t : TypeId} (hg : W.heap[g]? = some (.cells old t (0, 0))) : Row64 g (fun _ => 0) (W.setRow g zs64) := by
  have h := setRow_heap W g old zs64 t (0, 0) hg
  refine ⟨fun k hk => ?_, fun k hk => ?_, ?_⟩
  · rw [cell_of_row _ _ _ _ _ _ h]
    unfold zs64
    rw [Array.getElem?_replicate, if_pos hk]
  · simp [World.frozen?, h]
  · exact (Array.getElem?_eq_some_iff.1 h).1
theorem below_setRow {m : Nat} {w W : World} {g : Nat} {cs : Array Value} (h : Below m w W) (hm : m ≤ g) : Below m w (W.setRow g cs) :=
  ⟨h.os, h.tape, h.output, by have := h.size; simp [World.setRow]; omega, fun i hi => (setRow_other _ _ _ _ (by omega)).trans (h.block i hi)⟩
theorem range_later {B o : Nat} {cs : List Value} {w w' : World} (h : w.rangeAt B o cs) (hb : Below w.heap.size w w') (hl : B < w.heap.size) : w'.rangeAt B o cs :=
  fun j v hj => (hb.cell (p := ⟨B, o + j, none⟩) hl).trans (h j v hj)
/-- a struct of three numbers in its block -/
structure X3 (B : Nat) (d a t : Int) (w : World) : Prop where
  c0 : w.cell? ⟨B, 0, none⟩ = some (.int .i64 d)
  c1 : w.cell? ⟨B, 1, none⟩ = some (.int .i64 a)
  c2 : w.cell? ⟨B, 2, none⟩ = some (.int .i64 t)
  lt : B < w.heap.size
theorem X3.grown {B : Nat} {d a t : Int} {w w' : World} (h : X3 B d a t w) (hb : Below w.heap.size w w') : X3 B d a t w' :=
  ⟨(hb.cell (by exact h.lt)).trans h.c0, (hb.cell (by exact h.lt)).trans h.c1, (hb.cell (by exact h.lt)).trans h.c2, Nat.lt_of_lt_of_le h.lt hb.size⟩
theorem x3_new (w : World) (d a t : Int) (ty : TypeId) (w' : World) (hb : Below (w.alloc (.cells #[.int .i64 d, .int .i64 a, .int .i64 t] ty)).heap.size (w.alloc (.cells #[.int .i64 d, .int .i64 a, .int .i64 t] ty)) w') : X3 w.heap.size d a t w' := by
  have h : X3 w.heap.size d a t (w.alloc (.cells #[.int .i64 d, .int .i64 a, .int .i64 t] ty)) := ⟨by rw [World.cell?_alloc_new]; rfl, by rw [World.cell?_alloc_new]; rfl, by rw [World.cell?_alloc_new]; rfl, by simp⟩
  exact h.grown hb
theorem Row64.congr {B : Nat} {f g : Nat → Int} {w : World} (h : Row64 B f w) (e : ∀ k, k < 64 → f k = g k) : Row64 B g w :=
  ⟨fun k hk => by rw [← e k hk]; exact h.v k hk, h.fz, h.lt⟩
/-- what the law's first array is -/
def firstF (n : Int) (k : Nat) : Int := (n + (k : Int) * 1000003) % 4294967296
theorem first_upd (n : Int) (k j : Nat) : upd (fun j => if j < k then firstF n j else 0) k (firstF n k) j = if j < k + 1 then firstF n j else 0 := by
  unfold upd
  by_cases h : j = k
  · subst h; rw [if_pos rfl, if_pos (by omega)]
  · rw [if_neg h]
    show (if j < k then firstF n j else 0) = _
    by_cases g : j < k
    · rw [if_pos g, if_pos (by omega)]
    · rw [if_neg g, if_neg (by omega)]
theorem cellsF_one (f : Nat → Int) : (cellsF f).toArray.all (·.oneCell') = true := all_oneCell_toArray (fun v hv => by
  unfold cellsF at hv
  obtain ⟨k, _, rfl⟩ := List.mem_map.1 hv
  rfl)
theorem row64_setRowF {f : Nat → Int} {W : World} {g : Nat} {old : Array Value} {t : TypeId} (hg : W.heap[g]? = some (.cells old t (0, 0))) : Row64 g f (W.setRow g (cellsF f).toArray) := by
  have h := setRow_heap W g old (cellsF f).toArray t (0, 0) hg
  refine ⟨fun k hk => ?_, fun k hk => ?_, ?_⟩
  · rw [cell_of_row _ _ _ _ _ _ h]
    simpa using cellsF_at f hk
  · simp [World.frozen?, h]
  · exact (Array.getElem?_eq_some_iff.1 h).1

theorem canq_nat {d a t s : Int} (h : canqS d a t s = true) : (0 ≤ d ∧ d < 64) ∧ (0 ≤ a ∧ a < 64) ∧ (0 ≤ t ∧ t < 63) ∧ d ≠ t ∧ d ≠ t + 1 ∧ a ≠ t ∧ a ≠ t + 1 ∧ 0 ≤ s ∧ s ≤ 31 := by
  unfold canqS varsS at h
  simp at h
  omega
theorem words_firstA (n : Int) (A : Nat) : WordsF (upd (firstF n) A (n % 4294967296)) := by
  refine wordsF_upd (fun k => ?_) A (by omega)
  unfold firstF
  omega
theorem steps_mem {D A T : Nat} {m s : Int} {x : Q5} (hx : x ∈ stepsQ D A T m s) : x ∈ stepsQ8 D A T m ∨ (¬ s = 0 ∧ (x = ⟨13, D, D, 0, 2 ^ (s - 1).toNat⟩ ∨ x = ⟨16, D, D, 0, s⟩)) := by
  unfold stepsQ stepsQ2 at hx
  rcases List.mem_append.1 hx with h | h
  · exact Or.inl h
  · by_cases hs : s = 0
    · rw [if_pos hs] at h; cases h
    · rw [if_neg hs] at h
      exact Or.inr ⟨hs, by simpa using h⟩
theorem stepsQ_len (D A T : Nat) (m s : Int) : (stepsQ D A T m s).length ≤ 100 := by
  unfold stepsQ stepsQ2
  rw [List.length_append, steps8_len]
  split <;> simp
theorem steps_other {D A T k : Nat} {m s : Int} {f : Nat → Int} (h1 : k ≠ D) (h2 : k ≠ T) (h3 : k ≠ T + 1) : runF (stepsQ D A T m s) f k = f k := by
  refine run_other _ _ (fun x hx => ?_)
  rcases steps_mem hx with h | ⟨_, rfl | rfl⟩
  · simp only [stepsQ8, List.mem_cons, List.not_mem_nil, or_false] at h
    rcases h with rfl | rfl | rfl | rfl | rfl | rfl | rfl | rfl <;> simp <;> omega
  · simp; omega
  · simp; omega
theorem steps_ok {D A T : Nat} {m s : Int} (hD : D < 64) (hA : A < 64) (hT : T < 63) (hm : -2147483648 ≤ m ∧ m ≤ 2147483647) (hs : 0 ≤ s ∧ s ≤ 31) : ∀ x ∈ stepsQ D A T m s, OkF x ∧ (canS x = true ∧ x.o ≤ 16 ∧ -2147483648 ≤ x.i ∧ x.i ≤ 2147483647) := by
  intro x hx
  rcases steps_mem hx with h | ⟨h0, rfl | rfl⟩
  · simp only [stepsQ8, List.mem_cons, List.not_mem_nil, or_false] at h
    rcases h with rfl | rfl | rfl | rfl | rfl | rfl | rfl | rfl
    all_goals
      refine ⟨⟨by simp, by simp <;> omega, by simp <;> omega, by simp <;> omega⟩, ?_, by simp, by simp <;> omega⟩
      simp [canS, isOp, hasD, hasA, hasB, fitsS, leastS, mostS]
      try omega
  · have PB := pow_bd30 (y := (s - 1).toNat) (by omega)
    generalize (2 : Int) ^ (s - 1).toNat = P at *
    refine ⟨⟨by simp, by simp <;> omega, by simp <;> omega, by simp <;> omega⟩, ?_, by simp, by simp only; omega⟩
    simp [canS, isOp, hasD, hasA, hasB, fitsS, leastS, mostS]
    omega
  · refine ⟨⟨by simp, by simp <;> omega, by simp <;> omega, by simp <;> omega⟩, ?_, by simp, by simp only; omega⟩
    simp [canS, isOp, hasD, hasA, hasB, fitsS, leastS, mostS]
    omega

set_option maxRecDepth 100000 in
set_option maxHeartbeats 4000000 in
theorem qsteps_yes (D A T : Nat) (n m s : Int) (w : World) (h : canqS D A T s = true) (hn : -2147483648 ≤ n ∧ n ≤ 2147483647) (hm : -2147483648 ≤ m ∧ m ≤ 2147483647) :
    Calls Try.prog 11 #[.agg #[.int .i64 D, .int .i64 A, .int .i64 T], .int .i32 n, .agg #[.int .i32 m, .int .i64 s]] w fun e w' => e = .returned (.bool true) ∧ Below w.heap.size w w' := by
  have CS := Lib.hid (fun w => steps_some D A T m s w h)
  have BN := canq_nat h
  have TT : -9223372036854775808 ≤ (T : Int) ∧ (T : Int) ≤ 9223372036854775807 := by omega
  have RBD := Lib.hid (fun w => canq_any D A T s w TT)
  have HH := Lib.hid h
  have SZZ := Lib.hid (show (Try.prog.info? 75).map (·.size) = some zs64.size by kernel_rfl)
  have ONEZ := Lib.hid zs64_one
  have BNH := Lib.hid BN
  have HAT := Lib.hid (show A ≠ T ∧ A ≠ T + 1 by have := BN; omega)
  clear h BN
  go_enter Try.func11, Try.ntmps11
  go_wp2_with fail
  go_region
  go_wp2_with fail
  refine (CS.out _).mono ?_
  rintro e w1 ⟨b, c, rfl, hl5, hge, hlt, b1⟩
  have X0 := Lib.hid (x3_new w D A T 69 w1 ((show Below (w.alloc (.cells #[.int .i64 D, .int .i64 A, .int .i64 T] 69)).heap.size (w.alloc (.cells #[.int .i64 D, .int .i64 A, .int .i64 T] 69)) _ from ((Below.refl _ _).alloc (Nat.le_refl _) _).drew).trans (b1.mono (by simp))))
  have B1 := Lib.hid ((show Below w.heap.size w _ from (((Below.refl _ _).alloc (Nat.le_refl _) _).alloc (by simp) _).drew).trans (b1.mono (by simp <;> omega)))
  have L1 := Lib.hid hl5
  have LB := Lib.hid hlt
  clear b1 hl5 hge hlt
  obtain ⟨c0, c1, c2, zx⟩ := X0.out
  go_wp2_with fail
  refine (RBD.out _).mono ?_
  rw [HH.out]
  rintro e w9 ⟨rfl, rfl⟩
  go_wp2_with ((refine wpList_store_row rfl 75 (.tmp 10) (.tmp 41) rfl w1.heap.size zs64 rfl rfl 75 _ (heap_alloc_new _ _) SZZ.out rfl ONEZ.out ?_; generalize hWZ : World.setRow _ _ zs64 = WZ; have RZ := Lib.hid (show Row64 w1.heap.size (fun _ => 0) WZ by rw [← hWZ]; exact row64_setRow (heap_alloc_new _ _)); have BZ := Lib.hid (show Below w1.heap.size w1 WZ by rw [← hWZ]; exact below_setRow ((Below.refl _ _).alloc (Nat.le_refl _) _) (Nat.le_refl _)); clear hWZ))
  go_loopw [11] (fun i wr => ∃ k : Nat, k ≤ 64 ∧ i = .int .i64 k ∧ Row64 w1.heap.size (fun j => if j < k then firstF n j else 0) wr ∧ Below w1.heap.size w1 wr) (fun i _ => 64 - (intOf i).toNat)
  case atStart => exact ⟨0, by omega, rfl, by simpa using RZ.out, BZ.out⟩
  case round =>
    obtain ⟨k, hk, rfl, hr, hb⟩ := hrel
    by_cases hlt : k < 64
    · have d0 := hr.v k hlt
      have dz := hr.fz k hlt
      have t3 : decide ((k : Int) < 64) = true := by simp; omega
      have u1 := IntWalk.i64_in ((k : Int) + 1) (by omega)
      have g0 : (0 : Int) ≤ (k : Int) := by omega
      have g1 : (k : Int) < 64 := by omega
      have HR := Lib.hid hr
      have HB := Lib.hid hb
      clear hr hb
      go_wp2_with fail
      refine ⟨⟨k + 1, by omega, rfl, (row64_set HR.out hlt).congr (fun j hj => ?_), HB.out.setCell (Nat.le_refl _) _⟩, by simp [intOf]; omega⟩
      exact first_upd n k j
    · obtain rfl : k = 64 := by omega
      have t3 : decide (((64 : Nat) : Int) < 64) = false := by simp
      have hr2 : Row64 w1.heap.size (firstF n) wr := hr.congr (fun j hj => by rw [if_pos hj])
      have hD : D < 64 := by have := BNH.out; omega
      have hA : A < 64 := by have := BNH.out; omega
      have dD := hr2.v A hA
      have dz := hr2.fz A hA
      have gA0 : (0 : Int) ≤ (A : Int) := by omega
      have gA1 : (A : Int) < 64 := by omega
      have gD0 : (0 : Int) ≤ (D : Int) := by omega
      have gD1 : (D : Int) < 64 := by omega
      have HR := Lib.hid (row64_set (x := n % 4294967296) hr2 hA)
      have HB := Lib.hid (hb.setCell (p := ⟨w1.heap.size, A, none⟩) (Nat.le_refl _) (.int .u32 (n % 4294967296)))
      obtain ⟨c0, c1, c2, zx⟩ := X0.out.grown hb
      have RG := Lib.hid (row64_range HR.out)
      have SZC := Lib.hid (show (Try.prog.info? 75).map (·.size) = some (cellsF (upd (firstF n) A (n % 4294967296))).length by rw [cellsF_len]; kernel_rfl)
      clear hr hr2 hb
      have CV := Lib.hid (steps_val (f := upd (firstF n) A (n % 4294967296)) (D := D) (A := A) (T := T) (n := n) (m := m) (s := s) HAT.out.1 HAT.out.2 hn hm BNH.out.2.2.2.2.2.2.2 (by unfold upd; rw [if_pos rfl]))
      have OC := Lib.hid (steps_ok (D := D) (A := A) (T := T) (m := m) (s := s) (by have := BNH.out; omega) (by have := BNH.out; omega) (by have := BNH.out; omega) hm BNH.out.2.2.2.2.2.2.2)
      have WFF := Lib.hid (words_firstA n A)
      have OT := Lib.hid (fun k (h1 : k ≠ D) (h2 : k ≠ T) (h3 : k ≠ T + 1) => steps_other (A := A) (m := m) (s := s) (f := upd (firstF n) A (n % 4294967296)) h1 h2 h3)
      obtain ⟨F, hF⟩ : ∃ F, upd (firstF n) A (n % 4294967296) = F := ⟨_, rfl⟩
      rw [hF] at HR RG SZC CV WFF OT
      clear hF
      obtain ⟨G, hG⟩ : ∃ G, runF (stepsQ D A T m s) F = G := ⟨_, rfl⟩
      rw [hG] at CV OT
      have DL := Lib.hid (fun w hl hlt => does_law F b 0 c (stepsQ D A T m s) w hl (stepsQ_len D A T m s) hlt (fun x hx => (OC.out x hx).1) WFF.out)
      rw [hG] at DL
      clear hG
      have PLY := Lib.hid (fun w hl hlt => plain_yes b 0 c (stepsQ D A T m s) w hl hlt (stepsQ_len D A T m s) (fun x hx => (OC.out x hx).2))
      go_wp2_with ((refine wpList_load_mid rfl 75 (.tmp 10) rfl w1.heap.size 0 rfl (cellsF F) _ RG.out Try.underlying75 rfl SZC.out ?_))
      refine (DL.out _ (L1.out.later HB.out) (Nat.lt_of_lt_of_le LB.out HB.out.size)).mono ?_
      rintro e w2 ⟨rfl, b2⟩
      have HR2 := Lib.hid (HR.out.grown b2)
      have HB2 := Lib.hid (HB.out.trans (b2.mono HB.out.size))
      have SZG := Lib.hid (show (Try.prog.info? 75).map (·.size) = some (cellsF G).toArray.size by simp only [List.size_toArray, cellsF_len]; kernel_rfl)
      have E64 := Lib.hid (show 64 = (cellsF G).toArray.size by simp [cellsF_len])
      have ONEG := Lib.hid (cellsF_one G)
      clear b2 c0 c1 c2 zx dD dz
      go_wp2_with ((refine wpList_store_row rfl 75 (.tmp 12) (.tmp 61) rfl w2.heap.size (cellsF G).toArray rfl rfl 75 _ (heap_alloc_new _ _) SZG.out E64.out ONEG.out ?_; generalize hWY : World.setRow _ _ (cellsF G).toArray = WY; have RY := Lib.hid (show Row64 w2.heap.size G WY by rw [← hWY]; exact row64_setRowF (heap_alloc_new _ _)); have BY := Lib.hid (show Below w2.heap.size w2 WY by rw [← hWY]; exact below_setRow ((Below.refl _ _).alloc (Nat.le_refl _) _) (Nat.le_refl _)); clear hWY))
      have HR3 := Lib.hid (HR2.out.grown BY.out)
      have HB3 := Lib.hid (HB2.out.trans (BY.out.mono HB2.out.size))
      have L3 := Lib.hid (L1.out.later HB3.out)
      have LB3 := Lib.hid (Nat.lt_of_lt_of_le LB.out HB3.out.size)
      have PL := Lib.hid (fun w' (hb : Below WY.heap.size WY w') => PLY.out w' (L3.out.later hb) (Nat.lt_of_lt_of_le LB3.out hb.size))
      have OY := Lib.hid (fun w => others_yes F G D T w (by have := BNH.out; omega) (fun k _ h1 h2 h3 => (OT.out k h1 h2 h3).symm))
      have hS : WY.cell? ⟨w.heap.size, 0, none⟩ = some (.int .i64 D) ∧ WY.cell? ⟨w.heap.size, 2, none⟩ = some (.int .i64 T) ∧ WY.cell? ⟨w2.heap.size, D, none⟩ = some (.int .u32 (G D)) ∧ WY.rangeAt w1.heap.size 0 (cellsF F) ∧ WY.rangeAt w2.heap.size 0 (cellsF G) ∧ w.heap.size < WY.heap.size ∧ w1.heap.size < WY.heap.size ∧ w2.heap.size < WY.heap.size ∧ Below WY.heap.size WY WY := by
        have x3 := X0.out.grown HB3.out
        exact ⟨x3.c0, x3.c2, RY.out.v D hD, row64_range HR3.out, row64_range RY.out, x3.lt, HR3.out.lt, RY.out.lt, Below.refl _ _⟩
      have HEQ : (G D == scaleS n m s % 4294967296) = true := by rw [CV.out]; simp
      have HEW : (G D == IntKind.u32.wrap (scaleS n m s)) = true := by rw [IntKind.wrap_u32]; exact HEQ
      have hu75 := Try.underlying75
      have hi1 := SZC.out
      have hi2 := show (Try.prog.info? 75).map (·.size) = some (cellsF G).length by rw [cellsF_len]; kernel_rfl
      refine wp_region_held_drew (S := (fun w' => w'.cell? ⟨w.heap.size, 0, none⟩ = some (.int .i64 D) ∧ w'.cell? ⟨w.heap.size, 2, none⟩ = some (.int .i64 T) ∧ w'.cell? ⟨w2.heap.size, D, none⟩ = some (.int .u32 (G D)) ∧ w'.rangeAt w1.heap.size 0 (cellsF F) ∧ w'.rangeAt w2.heap.size 0 (cellsF G) ∧ w.heap.size < w'.heap.size ∧ w1.heap.size < w'.heap.size ∧ w2.heap.size < w'.heap.size ∧ Below WY.heap.size WY w')) (by kernel_rfl) (by obtain ⟨v0, v1, v2, v3, v4, v5, v6, v7, v8⟩ := hS; exact ⟨v0, v1, v2, v3, v4, v5, v6, v7, v8.drew⟩) (fun hHeld => ?_)
      refine wpAnyH_take (i := 0) (oi := _) (v := ?v0) rfl (by kernel_rfl) (by kernel_rfl) (by kernel_rfl) (fun _ _ _ h => h) (Or.inl ⟨by rfl, ?y0⟩) hHeld ?r0
      case y0 => (intro wq hSw; (try dsimp only at hSw); go_simp; try with_reducible rfl)
      try simp only [Act.put, List.getElem_toArray, List.getElem_cons_zero, List.setIfInBounds_toArray, List.set_cons_zero, List.set_cons_succ]
      refine wpAnyH_ready (rs := [1]) (by kernel_rfl) (by simp) ?_
      refine AllReadyH.cons (o := _) rfl (fun K hK => ?_) AllReadyH.nil
      go_simp
      refine (PL.out _ hHeld.2.2.2.2.2.2.2.2).mono ?_; rintro e w9 ⟨rfl, hbl⟩
      refine hK.out _ _ (by obtain ⟨v0, v1, v2, v3, v4, v5, v6, v7, v8⟩ := hHeld; exact ⟨(hbl.cell (by show w.heap.size < _; omega)).trans v0, (hbl.cell (by show w.heap.size < _; omega)).trans v1, (hbl.cell (by show w2.heap.size < _; omega)).trans v2, range_later v3 hbl v6, range_later v4 hbl v7, Nat.lt_of_lt_of_le v5 hbl.size, Nat.lt_of_lt_of_le v6 hbl.size, Nat.lt_of_lt_of_le v7 hbl.size, v8.trans (hbl.mono v8.size)⟩) (fun hHeld2 => ?_)
      clear hK K hHeld
      have hHeld := hHeld2
      clear hHeld2
      try simp only [Act.put, List.getElem_toArray, List.getElem_cons_zero, List.getElem_cons_succ, List.setIfInBounds_toArray, List.set_cons_zero, List.set_cons_succ]
      refine wpAnyH_take (i := 2) (oi := _) (v := ?v2) rfl (by kernel_rfl) (by kernel_rfl) (by kernel_rfl) (fun _ _ _ h => h) (Or.inl ⟨by rfl, ?y2⟩) hHeld ?r2
      case y2 => (intro wq hSw; (try dsimp only at hSw); go_simp; try with_reducible rfl)
      try simp only [Act.put, List.getElem_toArray, List.getElem_cons_zero, List.getElem_cons_succ, List.setIfInBounds_toArray, List.set_cons_zero, List.set_cons_succ]
      refine wpAnyH_take (i := 3) (oi := _) (v := ?v3) rfl (by kernel_rfl) (by kernel_rfl) (by kernel_rfl) (fun _ _ _ h => h) (Or.inl ⟨by rfl, ?y3⟩) hHeld ?r3
      case y3 => (intro wq hSw; (try dsimp only at hSw); go_simp; try with_reducible rfl)
      try simp only [Act.put, List.getElem_toArray, List.getElem_cons_zero, List.getElem_cons_succ, List.setIfInBounds_toArray, List.set_cons_zero, List.set_cons_succ]
      refine wpAnyH_take (i := 4) (oi := _) (v := ?v4) rfl (by kernel_rfl) (by kernel_rfl) (by kernel_rfl) (fun _ _ _ h => h) (Or.inl ⟨by rfl, ?y4⟩) hHeld ?r4
      case y4 => (intro wq hSw; (try dsimp only at hSw); go_simp; try with_reducible rfl)
      try simp only [Act.put, List.getElem_toArray, List.getElem_cons_zero, List.getElem_cons_succ, List.setIfInBounds_toArray, List.set_cons_zero, List.set_cons_succ]
      refine wpAnyH_take (i := 5) (oi := _) (v := ?v5) rfl (by kernel_rfl) (by kernel_rfl) (by kernel_rfl) (fun _ _ _ h => h) (Or.inl ⟨by rfl, ?y5⟩) hHeld ?r5
      case y5 => (intro wq hSw; (try dsimp only at hSw); go_simp; try with_reducible rfl)
      try simp only [Act.put, List.getElem_toArray, List.getElem_cons_zero, List.getElem_cons_succ, List.setIfInBounds_toArray, List.set_cons_zero, List.set_cons_succ]
      refine wpAnyH_take (i := 6) (oi := _) (v := ?v6) rfl (by kernel_rfl) (by kernel_rfl) (by kernel_rfl) (fun _ _ _ h => h) (Or.inl ⟨by rfl, ?y6⟩) hHeld ?r6
      case y6 => (intro wq hSw; (try dsimp only at hSw); go_simp; try with_reducible rfl)
      try simp only [Act.put, List.getElem_toArray, List.getElem_cons_zero, List.getElem_cons_succ, List.setIfInBounds_toArray, List.set_cons_zero, List.set_cons_succ]
      refine wpAnyH_take (i := 7) (oi := _) (v := ?v7) rfl (by kernel_rfl) (by kernel_rfl) (by kernel_rfl) (fun _ _ _ h => h) (Or.inl ⟨by rfl, ?y7⟩) hHeld ?r7
      case y7 => (intro wq hSw; (try dsimp only at hSw); go_simp; try with_reducible rfl)
      try simp only [Act.put, List.getElem_toArray, List.getElem_cons_zero, List.getElem_cons_succ, List.setIfInBounds_toArray, List.set_cons_zero, List.set_cons_succ]
      refine wpAnyH_take (i := 8) (oi := _) (v := ?v8) rfl (by kernel_rfl) (by kernel_rfl) (by kernel_rfl) (fun _ _ _ h => h) (Or.inl ⟨by rfl, ?y8⟩) hHeld ?r8
      case y8 => (intro wq hSw; (try dsimp only at hSw); go_simp; try with_reducible rfl)
      try simp only [Act.put, List.getElem_toArray, List.getElem_cons_zero, List.getElem_cons_succ, List.setIfInBounds_toArray, List.set_cons_zero, List.set_cons_succ]
      refine wpAnyH_take (i := 9) (oi := _) (v := ?v9) rfl (by kernel_rfl) (by kernel_rfl) (by kernel_rfl) (fun _ _ _ h => h) (Or.inl ⟨by rfl, ?y9⟩) hHeld ?r9
      case y9 => (intro wq hSw; (try dsimp only at hSw); go_simp; try with_reducible rfl)
      try simp only [Act.put, List.getElem_toArray, List.getElem_cons_zero, List.getElem_cons_succ, List.setIfInBounds_toArray, List.set_cons_zero, List.set_cons_succ]
      refine wpAnyH_ready (rs := [10]) (by kernel_rfl) (by simp) ?_
      refine AllReadyH.cons (o := _) rfl (fun K hK => ?_) AllReadyH.nil
      go_simp
      refine (ref20_scale _ _ _ _ hn hm).mono ?_; rintro e w9 ⟨rfl, rfl⟩
      refine hK.out _ _ hHeld (fun hHeld2 => ?_)
      clear hK K hHeld
      have hHeld := hHeld2
      clear hHeld2
      try simp only [Act.put, List.getElem_toArray, List.getElem_cons_zero, List.getElem_cons_succ, List.setIfInBounds_toArray, List.set_cons_zero, List.set_cons_succ]
      refine wpAnyH_take (i := 11) (oi := _) (v := ?v11) rfl (by kernel_rfl) (by kernel_rfl) (by kernel_rfl) (fun _ _ _ h => h) (Or.inl ⟨by rfl, ?y11⟩) hHeld ?r11
      case y11 => (intro wq hSw; (try dsimp only at hSw); go_simp; try with_reducible rfl)
      try simp only [Act.put, List.getElem_toArray, List.getElem_cons_zero, List.getElem_cons_succ, List.setIfInBounds_toArray, List.set_cons_zero, List.set_cons_succ]
      refine wpAnyH_take (i := 12) (oi := _) (v := ?v12) rfl (by kernel_rfl) (by kernel_rfl) (by kernel_rfl) (fun _ _ _ h => h) (Or.inl ⟨by rfl, ?y12⟩) hHeld ?r12
      case y12 => (intro wq hSw; (try dsimp only at hSw); go_simp; try with_reducible rfl)
      try simp only [Act.put, List.getElem_toArray, List.getElem_cons_zero, List.getElem_cons_succ, List.setIfInBounds_toArray, List.set_cons_zero, List.set_cons_succ]
      refine wpAnyH_take (i := 13) (oi := _) (v := ?v13) rfl (by kernel_rfl) (by kernel_rfl) (by kernel_rfl) (fun _ _ _ h => h) (Or.inl ⟨by rfl, ?y13⟩) hHeld ?r13
      case y13 => (intro wq hSw; (try dsimp only at hSw); go_simp; try with_reducible rfl)
      try simp only [Act.put, List.getElem_toArray, List.getElem_cons_zero, List.getElem_cons_succ, List.setIfInBounds_toArray, List.set_cons_zero, List.set_cons_succ]
      refine wpAnyH_take (i := 14) (oi := _) (v := ?v14) rfl (by kernel_rfl) (by kernel_rfl) (by kernel_rfl) (fun _ _ _ h => h) (Or.inl ⟨by rfl, ?y14⟩) hHeld ?r14
      case y14 => (intro wq hSw; (try dsimp only at hSw); go_simp; try with_reducible rfl)
      try simp only [Act.put, List.getElem_toArray, List.getElem_cons_zero, List.getElem_cons_succ, List.setIfInBounds_toArray, List.set_cons_zero, List.set_cons_succ]
      refine wpAnyH_take (i := 15) (oi := _) (v := .agg (cellsF F).toArray) rfl (by kernel_rfl) (by kernel_rfl) (by kernel_rfl) (fun _ _ _ h => h) (yieldsIf_load_mid (by rfl) _ _ rfl _ _ rfl _ _ (fun wq h => h.2.2.2.1) hu75 rfl hi1) hHeld ?_
      try simp only [Act.put, List.getElem_toArray, List.getElem_cons_zero, List.getElem_cons_succ, List.setIfInBounds_toArray, List.set_cons_zero, List.set_cons_succ]
      refine wpAnyH_take (i := 16) (oi := _) (v := .agg (cellsF G).toArray) rfl (by kernel_rfl) (by kernel_rfl) (by kernel_rfl) (fun _ _ _ h => h) (yieldsIf_load_mid (by rfl) _ _ rfl _ _ rfl _ _ (fun wq h => h.2.2.2.2.1) hu75 rfl hi2) hHeld ?_
      try simp only [Act.put, List.getElem_toArray, List.getElem_cons_zero, List.getElem_cons_succ, List.setIfInBounds_toArray, List.set_cons_zero, List.set_cons_succ]
      refine wpAnyH_take (i := 17) (oi := _) (v := ?v17) rfl (by kernel_rfl) (by kernel_rfl) (by kernel_rfl) (fun _ _ _ h => h) (Or.inl ⟨by rfl, ?y17⟩) hHeld ?r17
      case y17 => (intro wq hSw; (try dsimp only at hSw); go_simp; try with_reducible rfl)
      try simp only [Act.put, List.getElem_toArray, List.getElem_cons_zero, List.getElem_cons_succ, List.setIfInBounds_toArray, List.set_cons_zero, List.set_cons_succ]
      refine wpAnyH_take (i := 18) (oi := _) (v := ?v18) rfl (by kernel_rfl) (by kernel_rfl) (by kernel_rfl) (fun _ _ _ h => h) (Or.inl ⟨by rfl, ?y18⟩) hHeld ?r18
      case y18 => (intro wq hSw; (try dsimp only at hSw); go_simp; try with_reducible rfl)
      try simp only [Act.put, List.getElem_toArray, List.getElem_cons_zero, List.getElem_cons_succ, List.setIfInBounds_toArray, List.set_cons_zero, List.set_cons_succ]
      refine wpAnyH_take (i := 19) (oi := _) (v := ?v19) rfl (by kernel_rfl) (by kernel_rfl) (by kernel_rfl) (fun _ _ _ h => h) (Or.inl ⟨by rfl, ?y19⟩) hHeld ?r19
      case y19 => (intro wq hSw; (try dsimp only at hSw); go_simp; try with_reducible rfl)
      try simp only [Act.put, List.getElem_toArray, List.getElem_cons_zero, List.getElem_cons_succ, List.setIfInBounds_toArray, List.set_cons_zero, List.set_cons_succ]
      refine wpAnyH_take (i := 20) (oi := _) (v := ?v20) rfl (by kernel_rfl) (by kernel_rfl) (by kernel_rfl) (fun _ _ _ h => h) (Or.inl ⟨by rfl, ?y20⟩) hHeld ?r20
      case y20 => (intro wq hSw; (try dsimp only at hSw); go_simp; try with_reducible rfl)
      try simp only [Act.put, List.getElem_toArray, List.getElem_cons_zero, List.getElem_cons_succ, List.setIfInBounds_toArray, List.set_cons_zero, List.set_cons_succ]
      refine wpAnyH_ready (rs := [21]) (by kernel_rfl) (by simp) ?_
      refine AllReadyH.cons (o := _) rfl (fun K hK => ?_) AllReadyH.nil
      go_simp
      refine (OY.out _).mono ?_; rintro e w9 ⟨rfl, hbl⟩
      refine hK.out _ _ (by obtain ⟨v0, v1, v2, v3, v4, v5, v6, v7, v8⟩ := hHeld; exact ⟨(hbl.cell (by show w.heap.size < _; omega)).trans v0, (hbl.cell (by show w.heap.size < _; omega)).trans v1, (hbl.cell (by show w2.heap.size < _; omega)).trans v2, range_later v3 hbl v6, range_later v4 hbl v7, Nat.lt_of_lt_of_le v5 hbl.size, Nat.lt_of_lt_of_le v6 hbl.size, Nat.lt_of_lt_of_le v7 hbl.size, v8.trans (hbl.mono v8.size)⟩) (fun hHeld2 => ?_)
      clear hK K hHeld
      have hHeld := hHeld2
      clear hHeld2
      try simp only [Act.put, List.getElem_toArray, List.getElem_cons_zero, List.getElem_cons_succ, List.setIfInBounds_toArray, List.set_cons_zero, List.set_cons_succ]
      refine wpAnyH_take (i := 22) (oi := _) (v := ?v22) rfl (by kernel_rfl) (by kernel_rfl) (by kernel_rfl) (fun _ _ _ h => h) (Or.inl ⟨by rfl, ?y22⟩) hHeld ?r22
      case y22 => (intro wq hSw; (try dsimp only at hSw); go_simp; try with_reducible rfl)
      try simp only [Act.put, List.getElem_toArray, List.getElem_cons_zero, List.getElem_cons_succ, List.setIfInBounds_toArray, List.set_cons_zero, List.set_cons_succ]
      refine wpAnyH_take (i := 23) (oi := _) (v := ?v23) rfl (by kernel_rfl) (by kernel_rfl) (by kernel_rfl) (fun _ _ _ h => h) (Or.inl ⟨by rfl, ?y23⟩) hHeld ?r23
      case y23 => (intro wq hSw; (try dsimp only at hSw); go_simp; try with_reducible rfl)
      try simp only [Act.put, List.getElem_toArray, List.getElem_cons_zero, List.getElem_cons_succ, List.setIfInBounds_toArray, List.set_cons_zero, List.set_cons_succ]
      refine wpAnyH_ready (rs := [24]) (by kernel_rfl) (by simp) ?_
      refine AllReadyH.cons (o := _) rfl (fun K hK => ?_) AllReadyH.nil
      go_simp
      refine (law20_lives _).mono ?_; rintro e w9 ⟨rfl, hbl⟩
      refine hK.out _ _ (by obtain ⟨v0, v1, v2, v3, v4, v5, v6, v7, v8⟩ := hHeld; exact ⟨(hbl.cell (by show w.heap.size < _; omega)).trans v0, (hbl.cell (by show w.heap.size < _; omega)).trans v1, (hbl.cell (by show w2.heap.size < _; omega)).trans v2, range_later v3 hbl v6, range_later v4 hbl v7, Nat.lt_of_lt_of_le v5 hbl.size, Nat.lt_of_lt_of_le v6 hbl.size, Nat.lt_of_lt_of_le v7 hbl.size, v8.trans (hbl.mono v8.size)⟩) (fun hHeld2 => ?_)
      clear hK K hHeld
      have hHeld := hHeld2
      clear hHeld2
      try simp only [Act.put, List.getElem_toArray, List.getElem_cons_zero, List.getElem_cons_succ, List.setIfInBounds_toArray, List.set_cons_zero, List.set_cons_succ]
      refine wpAnyH_take (i := 25) (oi := _) (v := ?v25) rfl (by kernel_rfl) (by kernel_rfl) (by kernel_rfl) (fun _ _ _ h => h) (Or.inl ⟨by rfl, ?y25⟩) hHeld ?r25
      case y25 => (intro wq hSw; (try dsimp only at hSw); go_simp; try with_reducible rfl)
      try simp only [Act.put, List.getElem_toArray, List.getElem_cons_zero, List.getElem_cons_succ, List.setIfInBounds_toArray, List.set_cons_zero, List.set_cons_succ]
      refine wpAnyH_take (i := 26) (oi := _) (v := ?v26) rfl (by kernel_rfl) (by kernel_rfl) (by kernel_rfl) (fun _ _ _ h => h) (Or.inl ⟨by rfl, ?y26⟩) hHeld ?r26
      case y26 => (intro wq hSw; (try dsimp only at hSw); go_simp; try with_reducible rfl)
      try simp only [Act.put, List.getElem_toArray, List.getElem_cons_zero, List.getElem_cons_succ, List.setIfInBounds_toArray, List.set_cons_zero, List.set_cons_succ]
      refine wpAnyH_done (by kernel_rfl) ?_ _
      obtain ⟨v0, v1, v2, v3, v4, v5, v6, v7, v8⟩ := hHeld
      have FIN := Lib.hid (show Below w.heap.size w _ from B1.out.trans ((HB3.out.trans (v8.mono HB3.out.size)).mono B1.out.size))
      go_wp2_with fail
      go_ret
      exact ⟨rfl, FIN.out⟩

set_option maxHeartbeats 1000000 in
theorem qsteps_no (d a t n m s : Int) (w : World) (ht : -9223372036854775808 ≤ t ∧ t ≤ 9223372036854775807) (h : canqS d a t s = false) :
    Calls Try.prog 11 #[.agg #[.int .i64 d, .int .i64 a, .int .i64 t], .int .i32 n, .agg #[.int .i32 m, .int .i64 s]] w fun e w' => e = .returned (.bool true) ∧ Below w.heap.size w w' := by
  have CS := Lib.hid (fun w => steps_none d a t m s w h)
  have RBD := Lib.hid (fun w => canq_any d a t s w ht)
  have HH := Lib.hid h
  clear h ht
  go_enter Try.func11, Try.ntmps11
  go_wp2_with fail
  go_region
  go_wp2_with fail
  refine (CS.out _).mono ?_
  rintro e w9 ⟨rfl, rfl⟩
  go_wp2_with fail
  refine (RBD.out _).mono ?_
  rw [HH.out]
  rintro e w9 ⟨rfl, rfl⟩
  go_wp2_with fail
  refine (law20_lives _).mono ?_
  rintro e w1 ⟨rfl, b1⟩
  have B1 := Lib.hid ((show Below w.heap.size w _ from (((Below.refl _ _).alloc (Nat.le_refl _) _).alloc (by simp) _).drew).trans (b1.mono (by simp <;> omega)))
  clear b1
  go_wp2_with fail
  go_ret
  exact ⟨rfl, B1.out⟩
theorem walk_QuantSteps (d a t n m s : Int) (w0 : (Lit.int .i64 d).wf = true) (w1 : (Lit.int .i64 a).wf = true) (w2 : (Lit.int .i64 t).wf = true) (w3 : (Lit.int .i32 n).wf = true) (w4 : (Lit.int .i32 m).wf = true) (w5 : (Lit.int .i64 s).wf = true) (w : World) :
    Calls Try.prog 11 #[.agg #[.int .i64 d, .int .i64 a, .int .i64 t], .int .i32 n, .agg #[.int .i32 m, .int .i64 s]] w fun e w' => e = .returned (.bool true) ∧ Below w.heap.size w w' := by
  have ht : -9223372036854775808 ≤ t ∧ t ≤ 9223372036854775807 := by simpa [Lit.wf, IntKind.min, IntKind.max, IntKind.signed, IntKind.bits] using w2
  have hn : -2147483648 ≤ n ∧ n ≤ 2147483647 := by simpa [Lit.wf, IntKind.min, IntKind.max, IntKind.signed, IntKind.bits] using w3
  have hm : -2147483648 ≤ m ∧ m ≤ 2147483647 := by simpa [Lit.wf, IntKind.min, IntKind.max, IntKind.signed, IntKind.bits] using w4
  cases h : canqS d a t s
  · exact qsteps_no d a t n m s w ht h
  · have hb := canq_nat h
    obtain ⟨D, rfl⟩ : ∃ D : Nat, d = D := ⟨d.toNat, by omega⟩
    obtain ⟨A, rfl⟩ : ∃ A : Nat, a = A := ⟨a.toNat, by omega⟩
    obtain ⟨T, rfl⟩ : ∃ T : Nat, t = T := ⟨t.toNat, by omega⟩
    exact qsteps_yes D A T n m s w h hn hm

theorem own : ownKnob Try.prog.godebug = none := by kernel_rfl
theorem laidOut : laidOutB Try.prog = true := by kernel_rfl
set_option maxRecDepth 100000 in
theorem lifted_QuantSteps (os : Os) (started : os.Started) (H : Type) (enc : TypeId × Value → H) :
    ReturnsInHanded {} Try.checked os 11 .any (Rows.quantStepsSpec.pre6 enc Try.prog Try.f11 Rows.quantStepsRow.domain false) (Rows.quantStepsSpec.post enc Try.prog Try.f11 false true false false) := by
  refine returnsInHanded_of_change (C := Try.checked) own started (by kernel_rfl) Try.func11
    (ChangeSpec.witness6 (enc := enc) (C := Try.checked) false ⟨#[], #[.agg #[.int .i64 0, .int .i64 0, .int .i64 0], .int .i32 0, .agg #[.int .i32 0, .int .i64 0]], []⟩ 8 (by kernel_rfl) (by kernel_rfl) (by kernel_rfl) (by kernel_rfl)) ?_
  intro W base args ds gs before hval0 hW hcnd _
  have hval : ∀ (j : Nat) t v, Try.f11.params[j]? = some t → args[j]? = some v → Value.okWide Try.prog W .any base t v := hval0
  have hW' := hW
  obtain ⟨p, q, hA0, hV, rfl, hfz, hnd⟩ := hW
  have hA : DataW.TrodAll enc Try.prog W 0 (fun _ => true) true Try.f11.params.toList args.toList ds p := hA0
  rw [Try.params11] at hA hval
  obtain ⟨v0, vs0, d0, ds0, p0, q0, hargs, rfl, rfl, h0, r0⟩ := trodAll_cons hA
  obtain ⟨v1, vs1, d1, ds1, p1, q1, rfl, rfl, rfl, h1, r1⟩ := trodAll_cons r0
  obtain ⟨v2, vs2, d2, ds2, p2, q2, rfl, rfl, rfl, h2, r2⟩ := trodAll_cons r1
  obtain ⟨rfl, rfl, rfl⟩ := trodAll_nil r2
  obtain rfl : args = #[v0, v1, v2] := by cases args; simp_all
  obtain ⟨rfl, rfl⟩ := trodVars_none hV
  have k0 := h0
  have lt0 : ∀ x ∈ p0, x.block < W.heap.size := by obtain ⟨m, hm⟩ := k0; exact DataW.trod_lt m _ _ _ hm
  obtain ⟨zs0, zl0, rfl, zw0⟩ := flat_ints [.i64, .i64, .i64] (ts := [3, 3, 3]) (Or.inl ⟨_, Try.underlying69⟩) (by kernel_rfl) (by kernel_rfl) (by kernel_rfl) (hval 0 69 v0 rfl rfl)
  obtain ⟨a0_0, a0_1, a0_2, rfl⟩ := len3 zl0
  obtain ⟨a1, rfl, rfl, rfl, w1⟩ := open_int Try.underlying21 (hval 1 21 v1 rfl rfl) h1
  have k2 := h2
  have lt2 : ∀ x ∈ p2, x.block < W.heap.size := by obtain ⟨m, hm⟩ := k2; exact DataW.trod_lt m _ _ _ hm
  obtain ⟨zs2, zl2, rfl, zw2⟩ := flat_ints [.i32, .i64] (ts := [21, 3]) (Or.inl ⟨_, Try.underlying71⟩) (by kernel_rfl) (by kernel_rfl) (by kernel_rfl) (hval 2 71 v2 rfl rfl)
  obtain ⟨a2_0, a2_1, rfl⟩ := len2 zl2
  clear hA0 hval0
  refine (walk_QuantSteps a0_0 a0_1 a0_2 a1 a2_0 a2_1 (zw0 0 .i64 _ rfl rfl) (zw0 1 .i64 _ rfl rfl) (zw0 2 .i64 _ rfl rfl) w1 (zw2 0 .i32 _ rfl rfl) (zw2 1 .i64 _ rfl rfl) W).mono fun e W' ⟨he, bel⟩ => ?_
  subst he
  exact ⟨_, rfl, _, _, _, [], _, [], hW', trodAll_mk1 (shut_bool Try.underlying4 _), (trodAll_cons_mk (Below.trod laidOut (by kernel_rfl) (of_decide_eq_true (by kernel_rfl)) k0 bel lt0) (trodAll_cons_mk (shut_int Try.underlying21 w1) (trodAll_cons_mk (Below.trod laidOut (by kernel_rfl) (of_decide_eq_true (by kernel_rfl)) k2 bel lt2) trodAll_mk0))), rfl, bel.frame _, fun h => by cases h⟩

theorem holds_QuantSteps : Rows.QuantStepsSaid :=
  OpenClaim.holds_of_wide 11 Try.f11 rfl rfl rfl rfl rfl rfl rfl ⟨rfl, rfl, rfl, rfl, rfl⟩ rfl rfl rfl rfl rfl (by kernel_rfl) Try.func11 (by kernel_rfl)
    (of_decide_eq_true (by kernel_rfl)) (by unfold Func.isWrapper; first | (rw [if_pos (by decide +kernel)]; kernel_rfl) | (rw [if_neg (by decide +kernel)]; exact ⟨rfl, rfl⟩))
    (fun os started H enc _ => lifted_QuantSteps os started H enc)

end Go.Proofs.Ytokomefopbcihaa
