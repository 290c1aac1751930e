/- The statement of layer 6 on what a step leaves as it is: it returns true for all inputs, over the table of three bits. -/
import Derived.Test.YtnkfdpkcnfefeaaDoorRows
import Derived.Test.YtnkfdpkcnfefeaaDoorCards
import Derived.Test.YtnkfdpkcnfefeaaDoorTie
import Derived.Test.YtnkfdpkcnfefeaaDoorGW
import Derived.Test.YtnkfdpkcnfefeaaDoorGX
import Derived.BigRegion
import Derived.Test.YtnkfdpkcnfefeaaDoorGV
import Derived.Test.YtnkfdpkcnfefeaaDoorOpen
import Derived.ProofKit
import Derived.OpenShut
import Derived.LaidMore
import Derived.Lib.LaidTab
import Derived.Stop.Joined
import Derived.SevenTiedAt
namespace Go.Proofs.YtnkfdpkcnfefeaaDoor
open Go Go.RowKit Go.ChangeShapes Go.WideShapes Go.ChangeAt Pl
set_option linter.unusedVariables false

/-- words in a block -/
structure RowW (n B : Nat) (l : List Nat) (W : World) : Prop where
  len : l.length = n
  c : ∀ k, k < n → W.cell? ⟨B, k, none⟩ = some (.int .u32 (l.getD k 0 : Nat))
  fz : ∀ k, k < n → W.frozen? ⟨B, k, none⟩ = false
  lt : B < W.heap.size
theorem RowW.set {n B : Nat} {l : List Nat} {W : World} (h : RowW n B l W) (j x : Nat) (hj : j < n) : RowW n B (l.set j x) (W.setCell ⟨B, j, none⟩ (.int .u32 (x : Nat))) :=
  { len := by rw [List.length_set]; exact h.len
    c := fun k hk => by
      by_cases e : j = k
      · subst e
        have g : (l.set j x).getD j 0 = x := by simp [List.getD, h.len, hj]
        rw [g]
        exact World.cell?_setCell_same _ _ _ (h.c j hj)
      · rw [World.cell?_setCell_other (h := fun g => e (by cases g; rfl))]
        have g : (l.set j x).getD k 0 = l.getD k 0 := by simp [List.getD, List.getElem?_set_ne e]
        rw [g]
        exact h.c k hk
    fz := fun k hk => by rw [World.frozen?_setCell]; exact h.fz k hk
    lt := by rw [World.size_setCell]; exact h.lt }
theorem RowW.out {n B : Nat} {l : List Nat} {S : Nat → Prop} {W W' : World} (h : RowW n B l W) (ho : Out S W W') (hB : ¬ S B) : RowW n B l W' :=
  { len := h.len, c := fun k hk => (ho.cell (p := ⟨B, k, none⟩) h.lt hB).trans (h.c k hk), fz := fun k hk => (World.frozen?_of_block (a := ⟨B, k, none⟩) (ho.block B h.lt hB)).trans (h.fz k hk), lt := Nat.lt_of_lt_of_le h.lt ho.size }
theorem words_one' (W : World) (x : Nat) (hx : x < 4294967296) : WordsIn (W.alloc (.cells #[.int .u32 (x : Nat)] 24)) (some ⟨W.heap.size, 0, none⟩) [x] :=
  ⟨fun y hy => by (obtain rfl : y = x := by simpa using hy); exact hx, by simp, .inr ⟨W.heap.size, 0, rfl, by simp, fun k hk => by
    obtain rfl : k = 0 := by simpa using hk
    rw [cell_of_row _ W.heap.size 0 _ _ _ (heap_alloc_new W _)]
    rfl⟩⟩
def zs32 : Array Value := Array.replicate 32 (.int .u32 0)
theorem zs32_one : zs32.all (·.oneCell') = true := by kernel_rfl
theorem zs32_info : (Tryd.prog.info? 39).map (·.size) = some zs32.size := by kernel_rfl
theorem row32_set {W : World} {g : Nat} {old : Array Value} {t : TypeId} (hg : W.heap[g]? = some (.cells old t (0, 0))) : RowW 32 g (noughts 32) (W.setRow g zs32) := by
  have h := setRow_heap W g old zs32 t (0, 0) hg
  exact { len := noughts_len _
          c := fun k hk => by
            rw [cell_of_row _ g k _ _ _ h]
            have e : (noughts 32).getD k 0 = 0 := by unfold noughts; rw [List.getD_eq_getElem?_getD, List.getElem?_replicate, if_pos hk]; rfl
            rw [e]
            unfold zs32
            simp [hk]
          fz := fun k hk => by unfold World.frozen?; rw [h]; simp
          lt := (Array.getElem?_eq_some_iff.1 h).1 }
/-- the program's machine alone -/
structure One (w : World) (M F R C : Nat) (Fb : List Nat) (s : MSt) (W : World) : Prop where
  mach : MachIs C M s.pc s.r W
  mem : MemIs M F R 4096 2147483648 Fb s.b W
  lf : Fb.length = 256
  ls : s.b.length = 128
  lo : w.heap.size ≤ M ∧ w.heap.size ≤ F ∧ w.heap.size ≤ R ∧ w.heap.size ≤ C
  ne : C ≠ M ∧ C ≠ F ∧ C ≠ R
  bl : Below w.heap.size w W
theorem One.out {w : World} {M F R C : Nat} {Fb : List Nat} {s : MSt} {S : Nat → Prop} {W W' : World} (h : One w M F R C Fb s W) (ho : Out S W W') (hS : ∀ j, S j → w.heap.size ≤ j ∧ j ≠ M ∧ j ≠ F ∧ j ≠ R ∧ j ≠ C) : One w M F R C Fb s W' :=
  { mach := h.mach.out ho (fun g => (hS _ g).2.2.2.2 rfl), mem := h.mem.out ho (fun g => (hS _ g).2.1 rfl) (fun g => (hS _ g).2.2.1 rfl) (fun g => (hS _ g).2.2.2.1 rfl), lf := h.lf, ls := h.ls, lo := h.lo, ne := h.ne, bl := ho.below h.bl (Nat.le_refl _) fun j g => (hS j g).1 }
theorem One.below {w : World} {M F R C : Nat} {Fb : List Nat} {s : MSt} {W W' : World} (h : One w M F R C Fb s W) (hb : Below W.heap.size W W') : One w M F R C Fb s W' := h.out (.of_below (fun _ => False) hb) (fun _ g => g.elim)
theorem One.like {w : World} {M F R C : Nat} {Fb : List Nat} {s : MSt} {W W' : World} (h : One w M F R C Fb s W) (hl : LikeG W W') : One w M F R C Fb s W' := h.below hl.below
theorem One.step {w : World} {M F R C : Nat} {Fb : List Nat} {s : MSt} {W : World} (h : One w M F R C Fb s W) (ht : T3 w) :
    Calls Tryd.prog 9 #[.pointer (some ⟨C, 0, none⟩)] W fun e w' => e = .returned (.tuple #[(stepM 4096 2147483648 Fb s).e.v, .int .i64 (stepM 4096 2147483648 Fb s).t]) ∧ One w M F R C Fb (stepM 4096 2147483648 Fb s).s w' ∧ Out (fun j => j = C ∨ j = R) W w' := by
  have hb : Banks 4096 Fb.length 2147483648 s.b.length := by rw [h.lf, h.ls]; exact banks_map
  refine (step_any h.mach h.mem hb h.ne (ht.later h.bl)).mono ?_
  rintro e w' ⟨rfl, k1, k2, k3⟩
  exact ⟨rfl, { mach := k1, mem := k2, lf := h.lf, ls := by rw [stepM_len]; exact h.ls, lo := h.lo, ne := h.ne, bl := k3.below h.bl (Nat.le_refl _) fun j g => by have := h.lo; omega }, k3⟩
set_option maxRecDepth 100000 in
set_option maxHeartbeats 8000000 in
theorem walk_CpuNoFurther (w : World) (x : Int) (a1 : Option Addr) (c1 : Nat) (l1 : List Nat) (wx : (Lit.int .u32 x).wf = true) (w1 : WordsIn w a1 l1) (ht : T3 w) :
    Calls Tryd.prog 4 #[.int .u32 x, .slice a1 l1.length c1] w fun e w' => e = .returned (.bool true) ∧ Below w.heap.size w w' := by
  have bx : 0 ≤ x ∧ x ≤ 4294967295 := by simpa [Lit.wf, IntKind.min, IntKind.max, IntKind.signed, IntKind.bits] using wx
  obtain ⟨x, rfl⟩ : ∃ n : Nat, x = n := ⟨x.toNat, by omega⟩
  have b0 : Below w.heap.size w (w.alloc (.cells #[.int .u32 (x : Nat)] 24)) := (Below.refl _ _).alloc (Nat.le_refl _) _
  have BG := Lib.hid (begins_any (w.alloc (.cells #[.int .u32 (x : Nat)] 24)) (some ⟨w.heap.size, 0, none⟩) 1 [x] (words_one' w x (by omega)) a1 c1 l1 (w1.later b0))
  have HT := Lib.hid (ht.later b0)
  have B0 := Lib.hid b0
  clear wx bx w1 ht b0
  go_enter Tryd.func4, Tryd.ntmps4
  go_wp2_with fail
  refine BG.out.mono ?_
  rintro e w1 ⟨M, F, R, X, rfl, hD⟩
  have S0 : (begS l1).pc = 4096 := rfl
  have O1 := Lib.hid (show One (w.alloc (.cells #[.int .u32 (x : Nat)] 24)) M F R (X + 2) (begF [x]) (begS l1) w1 from
    { mach := hD.mach, mem := hD.mem, lf := hD.lf, ls := hD.ls, lo := by have := hD.far.m; have := hD.far.f; have := hD.far.r; omega, ne := by have := hD.far.m; have := hD.far.f; have := hD.far.r; omega, bl := hD.bl })
  have hxx := hD.xlt
  have fm := hD.far.m; have ff := hD.far.f; have fr := hD.far.r
  clear hD BG
  generalize begS l1 = s at *
  generalize begF [x] = Fb at *
  generalize hWW : World.alloc _ _ = WW at *
  generalize hC : X + 2 = C at *
  have hl3 : w1.heap.size ≥ C + 1 := by omega
  have hMC : M < C := by omega
  have hFC : F < C := by omega
  have hRC : R < C := by omega
  clear hxx fm ff fr hC hWW
  have SZZ := Lib.hid zs32_info
  have ONEZ := Lib.hid zs32_one
  go_wp2_with ((refine wpList_store_row rfl 39 (.tmp 8) (.tmp 30) rfl w1.heap.size zs32 rfl rfl 39 _ (heap_alloc_new _ _) SZZ.out rfl ONEZ.out ?_; generalize hWZ : World.setRow _ _ zs32 = WZ; have RR := Lib.hid (show RowW 32 w1.heap.size (noughts 32) WZ by rw [← hWZ]; exact row32_set (heap_alloc_new _ _)); have BZ := Lib.hid (show Below w1.heap.size w1 WZ by rw [← hWZ]; exact below_setRow ((Below.refl _ _).alloc (Nat.le_refl _) _) (Nat.le_refl _) _); clear hWZ))
  have O2 := Lib.hid (O1.out.below BZ.out)
  have NZ := Lib.hid (noughts_len 32)
  clear O1 BZ SZZ ONEZ
  generalize noughts 32 = l at *
  generalize w1.heap.size = RB at *
  obtain ⟨W1, rfl⟩ : ∃ W1 : World, W1 = WZ := ⟨_, rfl⟩
  go_loopw [10] (fun i wr => ∃ m : Nat, m ≤ 32 ∧ i = .int .i64 m ∧ ∃ l', RowW 32 RB l' wr ∧ (∀ q, q < m → l'.getD q 0 = s.r q) ∧ Out (· = RB) W1 wr) (fun i _ => 32 - (intOf i).toNat)
  case atStart => exact ⟨0, by omega, rfl, l, RR.out, (fun q hq => by omega), .refl _ _⟩
  case round =>
    obtain ⟨m, hm, rfl, l', hR, hq, hO⟩ := hrel
    have HR := Lib.hid hR
    have HQ := Lib.hid hq
    have HO := Lib.hid hO
    have O3 := Lib.hid (O2.out.out hO (fun j e => by subst e; have := O2.out.lo; omega))
    clear hR hq hO RR NZ
    by_cases hlt : m < 32
    · have hm0 : (m : Int) < 32 := by omega
      have RG := Lib.hid (mreg_any O3.out.mach m hlt)
      have cl := HR.out.c m hlt
      have fl := HR.out.fz m hlt
      go_wp2_with fail
      refine RG.out.mono ?_
      rintro e w2 ⟨rfl, rfl⟩
      go_wp2_with fail
      go_roundw
      case rel =>
        refine ⟨m + 1, by omega, by go_num, l'.set m (s.r m), HR.out.set m (s.r m) hlt, fun q hq => ?_, HO.out.trans (out_cell _ _ _ _)⟩
        by_cases e : m = q
        · subst e
          simp [List.getD, HR.out.len, hlt]
        · have g : (l'.set m (s.r m)).getD q 0 = l'.getD q 0 := by simp [List.getD, List.getElem?_set_ne e]
          rw [g]
          exact HQ.out q (by omega)
      case measure => first | (simp [intOf]; done) | (simp [intOf]; omega)
    · obtain rfl : m = 32 := by omega
      have MA := Lib.hid (memory_any O3.out.mach)
      have GT := Lib.hid (get_ram O3.out.mem O3.out.lf O3.out.ls)
      have hzr := HR.out.lt
      clear HO O2 hlt hm
      obtain ⟨W2, rfl⟩ : ∃ W2 : World, W2 = wr := ⟨_, rfl⟩
      go_wp2_with fail
      refine MA.out.mono ?_
      rintro e w2 ⟨rfl, rfl⟩
      go_wp2_with fail
      refine GT.out.mono ?_
      rintro e w3 ⟨g, rfl, hg, hgl, hb3⟩
      have ROWS := Lib.hid (HR.out.out (.of_below (fun _ => False) hb3) id)
      have O4 := Lib.hid (O3.out.below hb3)
      have G4 := Lib.hid hg
      have LB := Lib.hid O3.out.ls
      have hg3 : g < w3.heap.size := (Array.getElem?_eq_some_iff.1 hg).1
      have hz3 := hb3.size
      clear MA GT HR O3 hg hb3
      have CS := Lib.hid (O4.out.step HT.out)
      have SA := Lib.hid (stepM_A 4096 2147483648 Fb s)
      have SB := Lib.hid (stepM_B 4096 2147483648 Fb s)
      have SC := Lib.hid (stepM_C Fb s LB.out)
      generalize stepM 4096 2147483648 Fb s = o at *
      obtain ⟨⟨p, wd, k, a, z⟩, t, s2⟩ := o
      simp only [MEv.v] at CS
      go_wp2_with fail
      refine CS.out.mono ?_
      rintro e w4 ⟨rfl, hD4, ho4⟩
      have hgC : ¬ (g = C ∨ g = R) := by have := hgl; omega
      have hRC2 : ¬ (RB = C ∨ RB = R) := by omega
      have R5 := Lib.hid (ROWS.out.out ho4 hRC2)
      have G5 := Lib.hid ((ho4.block g hg3 hgC).trans G4.out)
      have O5 := Lib.hid hD4
      have hz4 := ho4.size
      clear CS ROWS O4 G4 hD4 ho4
      go_upto_region 11 with (fail)
      have b6 : Below w4.heap.size w4 (w4.alloc (.cells #[.int .u32 (p : Nat), .int .u32 (wd : Nat), .int .i64 k, .int .u32 (a : Nat), .int .i64 z] 34)) := (Below.refl _ _).alloc (Nat.le_refl _) _
      have E6 := Lib.hid (evAt_of (heap_alloc_new w4 (.cells #[.int .u32 (p : Nat), .int .u32 (wd : Nat), .int .i64 k, .int .u32 (a : Nat), .int .i64 z] 34)))
      have R6 := Lib.hid (R5.out.out (.of_below (fun _ => False) b6) id)
      have G6 := Lib.hid ((b6.block g (by omega)).trans G5.out)
      have O6 := Lib.hid (O5.out.below b6)
      have hEB : RB < w4.heap.size := by omega
      clear b6 R5 G5 O5
      generalize w4.heap.size = EB at *
      generalize World.alloc _ _ = W6 at *
      go_wp2_with fail
      go_loopw [9, 15] (fun n i wr => ∃ m : Nat, m ≤ 32 ∧ i = .int .i64 m ∧ n = .int .i64 (cntR s.r s2.r m : Nat) ∧ LikeG W6 wr) (fun _ i _ => 32 - (intOf i).toNat)
      case atStart => exact ⟨0, by omega, rfl, rfl, .refl _⟩
      case round =>
        obtain ⟨m, hm, rfl, rfl, hL⟩ := hrel
        have HL := Lib.hid hL
        have O7 := Lib.hid (O6.out.like hL)
        have R7 := Lib.hid (R6.out.out (hL.out (fun _ => False)) id)
        clear hL
        by_cases hlt : m < 32
        · have hm0 : (m : Int) < 32 := by omega
          have cl := R7.out.c m hlt
          rw [HQ.out m hlt] at cl
          have L1 := LikeG.refl wr
          have RG := Lib.hid (fun W' (hl : LikeG wr W') => mreg_any (O7.out.like hl).mach m hlt)
          have CN := Lib.hid (show cntR s.r s2.r (m + 1) = cntR s.r s2.r m + if s2.r m = s.r m then 0 else 1 from rfl)
          have CB : cntR s.r s2.r m ≤ 32 := by
            obtain ⟨d, y, e⟩ := SA.out
            simp only at e
            rw [e]
            have := cntR_set s.r d y m
            split at this <;> omega
          generalize cntR s.r s2.r m = cn at *
          have RX := Lib.hid (show ∀ v1 v2 : Nat, s2.r m = v1 → s.r m = v2 → True from fun _ _ _ _ => trivial)
          generalize s2.r m = v1 at *
          generalize s.r m = v2 at *
          by_cases hv : v1 = v2
          · subst hv
            rw [if_pos rfl] at CN
            go_wp2_with fail
            go_region_held3 (fun w' => w'.cell? ⟨RB, m, none⟩ = some (.int .u32 (v1 : Nat)) ∧ LikeG wr w')
              (first | (with_reducible assumption) | (exact ⟨cl, L1⟩) | (exact ⟨cl, like_drew L1⟩))
              (first
              | (go_at_call 13; (with_reducible refine (RG.out _ (by first | exact L1 | exact like_drew L1)).mono ?_); rintro e w8 ⟨rfl, rfl⟩))
            clear ‹_ ∧ LikeG wr _›
            go_wp2_with fail
            go_roundw
            case rel => exact ⟨m + 1, by omega, by go_num, by rw [CN.out]; rfl, HL.out.trans (like_drew L1)⟩
            case measure => first | (simp [intOf]; done) | (simp [intOf]; omega)
          · have hvb : ((v1 : Int) == (v2 : Int)) = false := by simp; omega
            have hvn : ((v1 : Int) != (v2 : Int)) = true := by simp; omega
            rw [if_neg hv] at CN
            go_wp2_with fail
            go_region_held3 (fun w' => w'.cell? ⟨RB, m, none⟩ = some (.int .u32 (v2 : Nat)) ∧ LikeG wr w')
              (first | (with_reducible assumption) | (exact ⟨cl, L1⟩) | (exact ⟨cl, like_drew L1⟩))
              (first
              | (go_at_call 13; (with_reducible refine (RG.out _ (by first | exact L1 | exact like_drew L1)).mono ?_); rintro e w8 ⟨rfl, rfl⟩))
            clear ‹_ ∧ LikeG wr _›
            go_wp2_with fail
            go_roundw
            case rel => exact ⟨m + 1, by omega, by go_num, by rw [CN.out]; simp, HL.out.trans (like_drew L1)⟩
            case measure => first | (simp [intOf]; done) | (simp [intOf]; omega)
        · obtain rfl : m = 32 := by omega
          have MA := Lib.hid (memory_any O7.out.mach)
          have GT := Lib.hid (get_ram O7.out.mem O7.out.lf O7.out.ls)
          have G7 := Lib.hid (show wr.heap[g]? = some (.cells (rowG s.b) 5 (0, 0)) by rw [HL.out.1]; exact G6.out)
          have E7 := Lib.hid (E6.out.out (HL.out.out (fun _ => False)) id)
          have CNT := Lib.hid (show cntR s.r s2.r 32 ≤ 1 by
            obtain ⟨d, y, e⟩ := SA.out
            simp only at e
            rw [e]
            have := cntR_set s.r d y 32
            split at this <;> omega)
          have CN0 := Lib.hid (show t ≠ 0 → cntR s.r s2.r 32 = 0 ∧ s2.pc = 4096 ∧ k = 0 from fun ht => by
            obtain ⟨e1, e2⟩ := SB.out ht
            simp only at e1 e2
            rw [e1]
            exact ⟨cntR_same _ _, S0, e2⟩)
          clear HL O6 R6 R7 G6 E6 hlt hm HQ SA SB S0
          generalize cntR s.r s2.r 32 = cn at *
          obtain ⟨W7, rfl⟩ : ∃ W7 : World, W7 = wr := ⟨_, rfl⟩
          go_wp2_with fail
          refine MA.out.mono ?_
          rintro e w7 ⟨rfl, rfl⟩
          go_wp2_with fail
          refine GT.out.mono ?_
          rintro e w8 ⟨g2, rfl, hg2, hgl2, hb8⟩
          have O8 := Lib.hid (O7.out.below hb8)
          have lb2 := O7.out.ls
          have lb1 := LB.out
          have G8 := Lib.hid (show ∀ i, i < 128 → w8.cell? ⟨g, i, none⟩ = some (.int .u8 (s.b.getD i 0 : Nat)) from fun i hi => row_cellG ((hb8.block g (Array.getElem?_eq_some_iff.1 G7.out).1).trans G7.out) i (by omega))
          have H8 := Lib.hid (show ∀ i, i < 128 → w8.cell? ⟨g2, i, none⟩ = some (.int .u8 (s2.b.getD i 0 : Nat)) from fun i hi => row_cellG hg2 i (by omega))
          have E8 := Lib.hid (E7.out.out (.of_below (fun _ => False) hb8) id)
          clear MA GT O7 G7 E7 hg2 hgl2 hb8 lb1 lb2 LB
          go_wp2_with fail
          go_loopw [18] (fun i wr => ∃ m : Nat, m ≤ 128 ∧ i = .int .i64 m ∧ LikeG w8 wr) (fun i _ => 128 - (intOf i).toNat)
          case atStart => exact ⟨0, by omega, rfl, .refl _⟩
          case round =>
            obtain ⟨m, hm, rfl, hL⟩ := hrel
            have HL := Lib.hid hL
            have E9 := Lib.hid (E8.out.out (hL.out (fun _ => False)) id)
            have O9 := Lib.hid (O8.out.like hL)
            clear hL
            have z2 := E9.out.c2
            have z3 := E9.out.c3
            have z4 := E9.out.c4
            by_cases hlt : m < 128
            · have hm0 : (m : Int) < 128 := by omega
              have cb := (HL.out.cell ⟨g, m, none⟩).trans (G8.out m hlt)
              have cd := (HL.out.cell ⟨g2, m, none⟩).trans (H8.out m hlt)
              have SM := Lib.hid (SC.out m hlt)
              simp only at SM
              generalize s.b.getD m 0 = v1 at *
              generalize s2.b.getD m 0 = v2 at *
              have L1 := LikeG.refl wr
              have e1 : IntKind.u32.wrap (m : Int) = (m : Int) := wrap_in_u32 _ (by omega) (by omega)
              have CL : ∀ (T : Prop), (v1 ≠ v2 → T) → v1 = v2 ∨ T := fun T h => by by_cases q : v1 = v2; exact .inl q; exact .inr (h q)
              clear E9 G8 H8 SC E8 O8 O9 CNT CN0
              have KK : v1 = v2 ∨ (k = 2 ∧ decide (((a : Int) - 2147483648) % 4294967296 ≤ (m : Int)) = true ∧ decide ((m : Int) < ((a : Int) - 2147483648 + z) % 4294967296) = true) := CL _ fun hne => by
                obtain ⟨q1, q2, q3, sz, q4, q5, q6⟩ := SM.out (fun e => hne e.symm)
                subst q4
                exact ⟨q1, by simp; omega, by simp; omega⟩
              clear CL SM
              by_cases hk : k = 2
              · have k2 : (k == 2) = true := by simp; omega
                cases t1 : decide (((a : Int) - 2147483648) % 4294967296 ≤ (m : Int))
                · have hv : v1 = v2 := by
                    rcases KK with h | h
                    · exact h
                    · rw [h.2.1] at t1; cases t1
                  clear KK hk
                  have hvb : ((v1 : Int) == (v2 : Int)) = true := by simp; omega
                  have hvn : ((v1 : Int) != (v2 : Int)) = false := by simp; omega
                  clear hv
                  go_wp2_with fail
                  go_region
                  go_wp2_with fail
                  go_roundw
                  case rel => exact ⟨m + 1, by omega, by go_num, HL.out.trans (like_drew L1)⟩
                  case measure => first | (simp [intOf]; done) | (simp [intOf]; omega)
                · cases t2 : decide ((m : Int) < ((a : Int) - 2147483648 + z) % 4294967296)
                  · have hv : v1 = v2 := by
                      rcases KK with h | h
                      · exact h
                      · rw [h.2.2] at t2; cases t2
                    clear KK hk
                    have hvb : ((v1 : Int) == (v2 : Int)) = true := by simp; omega
                    have hvn : ((v1 : Int) != (v2 : Int)) = false := by simp; omega
                    clear hv
                    go_wp2_with fail
                    go_region
                    go_wp2_with fail
                    go_roundw
                    case rel => exact ⟨m + 1, by omega, by go_num, HL.out.trans (like_drew L1)⟩
                    case measure => first | (simp [intOf]; done) | (simp [intOf]; omega)
                  · clear KK hk
                    by_cases hv : v1 = v2
                    · skip
                      have hvb : ((v1 : Int) == (v2 : Int)) = true := by simp; omega
                      have hvn : ((v1 : Int) != (v2 : Int)) = false := by simp; omega
                      clear hv
                      go_wp2_with fail
                      go_region
                      go_wp2_with fail
                      go_roundw
                      case rel => exact ⟨m + 1, by omega, by go_num, HL.out.trans (like_drew L1)⟩
                      case measure => first | (simp [intOf]; done) | (simp [intOf]; omega)
                    · have hvb : ((v1 : Int) == (v2 : Int)) = false := by simp; omega
                      have hvn : ((v1 : Int) != (v2 : Int)) = true := by simp; omega
                      clear hv
                      go_wp2_with fail
                      go_region
                      go_wp2_with fail
                      go_roundw
                      case rel => exact ⟨m + 1, by omega, by go_num, HL.out.trans (like_drew L1)⟩
                      case measure => first | (simp [intOf]; done) | (simp [intOf]; omega)
              · have k2 : (k == 2) = false := by simp; omega
                have hv : v1 = v2 := by
                  rcases KK with h | h
                  · exact h
                  · exact absurd h.1 hk
                clear KK hk
                have hvb : ((v1 : Int) == (v2 : Int)) = true := by simp; omega
                have hvn : ((v1 : Int) != (v2 : Int)) = false := by simp; omega
                clear hv
                go_wp2_with fail
                go_region
                go_wp2_with fail
                go_roundw
                case rel => exact ⟨m + 1, by omega, by go_num, HL.out.trans (like_drew L1)⟩
                case measure => first | (simp [intOf]; done) | (simp [intOf]; omega)
            · obtain rfl : m = 128 := by omega
              have PCA := Lib.hid (pc_any O9.out.mach)
              have BLW := Lib.hid (B0.out.trans (O9.out.bl.mono (by have := B0.out.size; omega)))
              have LV := Lib.hid (lives06 wr (HT.out.later O9.out.bl))
              have hcn := CNT.out
              have hcnb : decide ((cn : Int) ≤ 1) = true := by simp; omega
              have CNX := Lib.hid CN0.out
              clear HL E9 O9 E8 O8 G8 H8 SC CNT CN0 hlt hm
              by_cases ht : t = 0
              · subst ht
                go_wp2_with fail
                refine LV.out.mono ?_
                rintro e w9 ⟨rfl, hb9⟩
                go_wp2_with fail
                go_ret
                exact ⟨rfl, BLW.out.trans (hb9.mono BLW.out.size)⟩
              · obtain ⟨q1, q2, q3⟩ := CNX.out ht
                subst q1 q3
                rw [q2] at PCA
                have tb : (t == 0) = false := by simp; exact ht
                clear CNX ht hcnb hcn
                go_wp2_with fail
                refine PCA.out.mono ?_
                rintro e w9 ⟨rfl, rfl⟩
                go_wp2_with fail
                refine LV.out.mono ?_
                rintro e w9 ⟨rfl, hb9⟩
                go_wp2_with fail
                go_ret
                exact ⟨rfl, BLW.out.trans (hb9.mono BLW.out.size)⟩

set_option maxRecDepth 100000 in
theorem lifted_CpuNoFurther (os : Os) (started : os.Started) (H : Type) (enc : TypeId × Value → H) :
    ReturnsInHanded {} Tryd.checked os 4 .any (fun w args => (Rows.cpuNoFurtherSpec.pre enc Tryd.prog Tryd.f4 [] false w args ∧ laidMetH Tryd.prog laid3 w) ∧ sizedMet enc Tryd.prog Tryd.f4 (OpenSpec.ofChange Rows.cpuNoFurtherSpec) false w args)
      (Rows.cpuNoFurtherSpec.post enc Tryd.prog Tryd.f4 false true false false) := by
  refine returnsInHanded_of_change_and (C := Tryd.checked) (X := fun w _ => laidMetH Tryd.prog laid3 w) (fun _ _ _ hh h => h.of_heap hh) own started (by kernel_rfl) Tryd.func4
    (ChangeSpec.witness_shaped (enc := enc) (C := Tryd.checked) (os := os) (X := fun w _ => laidMetH Tryd.prog laid3 w) false (World.doorLaid Tryd.prog 400 os) #[.int .u32 0, .slice none 0 0] 8 rfl (World.shaped_of_RefB (by kernel_rfl) (by kernel_rfl)) (by kernel_rfl) (by kernel_rfl) (by kernel_rfl) (door_met os _)) ?_
  intro W base args ds gs before hval0 hW _ _ hL _
  have hval : ∀ (j : Nat) t v, Tryd.f4.params[j]? = some t → args[j]? = some v → Value.okWide Tryd.prog W .any base t v := hval0
  have hW' := hW
  obtain ⟨p, q, hA0, hV, rfl, hfz, hnd⟩ := hW
  have hA : DataW.TrodAll enc Tryd.prog W 0 (fun _ => true) true Tryd.f4.params.toList args.toList ds p := hA0
  rw [Tryd.params4] at hA hval
  obtain ⟨v0, vs0, d0, ds0, p0, q0, hargs, rfl, rfl, h0, r0⟩ := trodAll_cons hA
  obtain ⟨v1, vs1, d1, ds1, p1, q1, rfl, rfl, rfl, h1, r1⟩ := trodAll_cons r0
  obtain ⟨rfl, rfl, rfl⟩ := trodAll_nil r1
  obtain rfl : args = #[v0, v1] := by cases args; simp_all
  obtain ⟨rfl, rfl⟩ := trodVars_none hV
  obtain ⟨a0, rfl, rfl, rfl, w0⟩ := open_int Tryd.underlying24 (hval 0 24 v0 rfl rfl) h0
  have k1 := h1
  have lt1 : ∀ x ∈ p1, x.block < W.heap.size := by obtain ⟨m, hm⟩ := k1; exact DataW.trod_lt m _ _ _ hm
  obtain ⟨a1, c1, l1, rfl, w1⟩ := words_in Tryd.underlying28 Tryd.underlying24 (by kernel_rfl) (hval 1 28 v1 rfl rfl) h1
  clear hA0 hval0
  refine (walk_CpuNoFurther W a0 a1 c1 l1 w0 w1 (t3_of hL)).mono fun e W' ⟨he, bel⟩ => ?_
  subst he
  exact ⟨_, rfl, _, _, _, [], _, [], hW', trodAll_mk1 (shut_bool Tryd.underlying4 _), (trodAll_cons_mk (shut_int Tryd.underlying24 w0) (trodAll_cons_mk (Below.trod laidOut (by kernel_rfl) (of_decide_eq_true (by kernel_rfl)) k1 bel lt1) trodAll_mk0)), rfl, bel.frame _, fun h => by cases h⟩

theorem row_CpuNoFurther : Rows.CpuNoFurtherSaid :=
  OpenClaim.holds_of_wide 4 Tryd.f4 rfl rfl rfl rfl rfl rfl rfl ⟨rfl, rfl, rfl, rfl, rfl⟩ rfl rfl rfl rfl rfl (by kernel_rfl) Tryd.func4 (by kernel_rfl)
    (of_decide_eq_true (by kernel_rfl)) (by unfold Func.isWrapper; first | (rw [if_pos (by decide +kernel)]; kernel_rfl) | (rw [if_neg (by decide +kernel)]; exact ⟨rfl, rfl⟩))
    (fun os started H enc _ => lifted_CpuNoFurther os started H enc)
theorem holds_CpuNoFurther : Rows.CpuNoFurtherCardSaid :=
  Claim7.holds_tied_plain_at .later [] [.data] true _ false
    row_CpuNoFurther (fun _ h => by cases h) (by kernel_rfl) (fun _ h => by cases h) cpuNoFurther_row_tie rfl ⟨rfl, rfl⟩ (by kernel_rfl) rfl
    (fun f fn hf hfn => by
      obtain rfl : f = 4 := Option.some.inj ((show Tryd.prog.funcNamed "pintle/pintlelaw06.CpuNoFurther" = some 4 by kernel_rfl).symm.trans hf) |>.symm
      obtain rfl : fn = Tryd.f4 := (Option.some.inj (Tryd.func4.symm.trans hfn)).symm
      exact ⟨by kernel_rfl, fun j t ht => by
        rw [Tryd.params4] at ht
        have hm : t ∈ [24, 28] := by simpa using Array.mem_of_getElem? ht
        have hall : ([24, 28].all fun u => !Tryd.prog.wantsStandIn u) = true := by kernel_rfl
        exact (show Tryd.prog.wantsStandIn t = false by simpa using List.all_eq_true.1 hall t hm)⟩)
    (by kernel_rfl)

end Go.Proofs.YtnkfdpkcnfefeaaDoor
