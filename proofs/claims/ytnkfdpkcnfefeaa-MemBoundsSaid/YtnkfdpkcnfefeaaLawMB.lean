/- The statement of layer 5 on the bounds of both banks: it returns true for all inputs. -/
import Derived.Test.YtnkfdpkcnfefeaaRows
import Derived.Test.YtnkfdpkcnfefeaaMemT
import Derived.Test.YtnkfdpkcnfefeaaMemB
import Derived.Test.YtnkfdpkcnfefeaaOpen
namespace Go.Proofs.Ytnkfdpkcnfefeaa
open Go Go.RowKit Go.ChangeShapes Go.WideShapes Go.ChangeAt
set_option linter.unusedVariables false

theorem box_laterB {w1 w2 : World} {f fs r rs : Int} {b : Nat} (hb : Below w1.heap.size w1 w2) (hz : b < w1.heap.size) (h : w1.cell? ⟨b, 0, none⟩ = some (.int .u32 f) ∧ w1.cell? ⟨b, 1, none⟩ = some (.int .u32 fs) ∧ w1.cell? ⟨b, 2, none⟩ = some (.int .u32 r) ∧ w1.cell? ⟨b, 3, none⟩ = some (.int .u32 rs)) :
    w2.cell? ⟨b, 0, none⟩ = some (.int .u32 f) ∧ w2.cell? ⟨b, 1, none⟩ = some (.int .u32 fs) ∧ w2.cell? ⟨b, 2, none⟩ = some (.int .u32 r) ∧ w2.cell? ⟨b, 3, none⟩ = some (.int .u32 rs) :=
  ⟨(hb.cell hz).trans h.1, (hb.cell hz).trans h.2.1, (hb.cell hz).trans h.2.2.1, (hb.cell hz).trans h.2.2.2⟩
theorem pairz_load {M F R X B f n1 r n2 cnt : Nat} {W : World} (h : Pair M F R X B f n1 r n2 cnt W) (hb : Banks f n1 r n2) (z : Int) (k : Nat) (hz : 0 ≤ z ∧ z < 4294967296) :
    Calls Try.prog 8 #[.pointer (some ⟨M, 0, none⟩), .int .u32 z, .int .i64 (k : Nat)] W fun e w' => e = .returned (.tuple #[.int .u32 0, .int .i64 (trapL f n1 r n2 z.toNat k)]) ∧ LikeG W w' := by
  obtain ⟨a, rfl⟩ : ∃ a : Nat, z = (a : Int) := ⟨z.toNat, (Int.toNat_of_nonneg hz.1).symm⟩
  exact pair_load h hb a k (by omega)
theorem pairz_rload {M F R X B f n1 r n2 cnt : Nat} {W : World} (h : Pair M F R X B f n1 r n2 cnt W) (hb : Banks f n1 r n2) (z : Int) (k : Nat) (hz : 0 ≤ z ∧ z < 4294967296) :
    Calls Try.prog 9 #[.pointer (some ⟨X, 0, none⟩), .int .u32 z, .int .i64 (k : Nat)] W fun e w' => ∃ n : Int, e = .returned (.tuple #[.int .u32 n, .int .i64 (trapL f n1 r n2 z.toNat k)]) ∧ LikeG W w' := by
  obtain ⟨a, rfl⟩ : ∃ a : Nat, z = (a : Int) := ⟨z.toNat, (Int.toNat_of_nonneg hz.1).symm⟩
  exact (pair_rload h hb a k (by omega)).mono fun e w' ⟨n, h1, h2⟩ => ⟨_, h1, h2⟩
theorem pairz_store {M F R X B f n1 r n2 cnt : Nat} {W : World} (h : Pair M F R X B f n1 r n2 cnt W) (hb : Banks f n1 r n2) (hR : R < B) (hXR : X ≠ R) (z : Int) (k : Nat) (hz : 0 ≤ z ∧ z < 4294967296) :
    Calls Try.prog 10 #[.pointer (some ⟨M, 0, none⟩), .int .u32 z, .int .i64 (k : Nat), .int .u32 0] W fun e w' => e = .returned (.int .i64 (trapS r n2 z.toNat k)) ∧ Pair M F R X B f n1 r n2 cnt w' ∧ Out (· = R) W w' := by
  obtain ⟨a, rfl⟩ : ∃ a : Nat, z = (a : Int) := ⟨z.toNat, (Int.toNat_of_nonneg hz.1).symm⟩
  exact pair_store h hb hR hXR a k (by omega)
theorem pairz_rstore {M F R X B f n1 r n2 cnt : Nat} {W : World} (h : Pair M F R X B f n1 r n2 cnt W) (hb : Banks f n1 r n2) (hM : M < B ∧ M ≠ X) (hF : F < B ∧ F ≠ X) (hR : R < B ∧ R ≠ X) (hc : cnt ≤ 1000) (z : Int) (k : Nat) (hz : 0 ≤ z ∧ z < 4294967296) :
    Calls Try.prog 11 #[.pointer (some ⟨X, 0, none⟩), .int .u32 z, .int .i64 (k : Nat), .int .u32 0] W fun e w' => e = .returned (.int .i64 (trapS r n2 z.toNat k)) ∧ Pair M F R X B f n1 r n2 (cnt + 1) w' ∧ Out (RS X B) W w' := by
  obtain ⟨a, rfl⟩ : ∃ a : Nat, z = (a : Int) := ⟨z.toNat, (Int.toNat_of_nonneg hz.1).symm⟩
  exact pair_rstore h hb hM hF hR hc a k (by omega)
theorem startB {w w1 : World} {cs : Array Value} {t : TypeId} (hb : Below (w.alloc (.cells cs t)).heap.size (w.alloc (.cells cs t)) w1) : Below w.heap.size w w1 :=
  Below.trans (show Below w.heap.size w (w.alloc (.cells cs t)) by go_grown) (hb.mono (by simp))
set_option maxHeartbeats 1000000 in
theorem bounds_no (f fs r rs by_ : Int) (w : World) (hf : 0 ≤ f ∧ f < 4294967296) (hfs : 0 ≤ fs ∧ fs < 4294967296) (hr : 0 ≤ r ∧ r < 4294967296) (hrs : 0 ≤ rs ∧ rs < 4294967296) (hc : canM f fs r rs = false) :
    Calls Try.prog 3 #[.agg #[.int .u32 f, .int .u32 fs, .int .u32 r, .int .u32 rs], .int .u8 by_] w fun e w' => e = .returned (.bool true) ∧ Below w.heap.size w w' := by
  have C5 := Lib.hid (rcan05_any f fs r rs · hf hfs hr hrs)
  have HC := Lib.hid hc
  clear hc
  go_enter Try.func3, Try.ntmps3
  go_wp2_with fail
  refine (C5.out _).mono ?_
  rw [HC.out]
  rintro e w1 ⟨rfl, b1⟩
  have B1 := Lib.hid (startB b1)
  clear b1
  go_wp2_with fail
  refine (law5_lives _).mono ?_
  rintro e w4 ⟨rfl, b4⟩
  have B4 := Lib.hid (B1.out.trans (b4.mono B1.out.size))
  clear b4
  go_wp2_with fail
  go_ret
  exact ⟨rfl, B4.out⟩
theorem made_noughts (n : Nat) : madeCells #[Value.int .u8 0] n = rowG (noughts n) := by
  apply Array.ext'
  apply List.ext_getElem?
  intro i
  simp only [madeCells, rowG, noughts, Array.toList_map, Array.toList_range, List.getElem?_map, List.map_replicate]
  by_cases h : i < n
  · rw [List.getElem?_range h, List.getElem?_replicate, if_pos h]
    have e : i % 1 = 0 := Nat.mod_one i
    simp [u8G, e]
  · rw [List.getElem?_eq_none (by simp; omega), List.getElem?_eq_none (by simp; omega)]; rfl
theorem pair_new {w3 : World} {M F R f n1 r n2 : Nat} (o2 : Obj) (hM : w3.heap[M]? = some (.cells #[.int .u32 (f : Nat), .int .u32 (n1 : Nat), .int .u32 (r : Nat), .int .u32 (n2 : Nat), .slice (some ⟨F, 0, none⟩) n1 n1, .slice (some ⟨R, 0, none⟩) n2 n2] 49 (0, 0)))
    (hF : w3.heap[F]? = some (.cells (madeCells #[.int .u8 0] n1) 5 (0, 0))) (hR : w3.heap[R]? = some (.cells (madeCells #[.int .u8 0] n2) 5 (0, 0))) (hne : F ≠ R ∧ M ≠ F ∧ M ≠ R) :
    Pair M F R w3.heap.size (w3.heap.size + 2) f n1 r n2 0 ((w3.alloc (.cells #[.int .u32 (f : Nat), .int .u32 (n1 : Nat), .int .u32 (r : Nat), .int .u32 (n2 : Nat), .slice none 0 0] 34)).alloc o2) := by
  have l1 : (noughts n1).length = n1 := List.length_replicate ..
  have l2 : (noughts n2).length = n2 := List.length_replicate ..
  have zl : ∀ n, ∀ x ∈ noughts n, x < 256 := fun n x hx => by rw [List.eq_of_mem_replicate hx]; omega
  rw [made_noughts] at hF hR
  have cM : ∀ j v, (#[.int .u32 (f : Nat), .int .u32 (n1 : Nat), .int .u32 (r : Nat), .int .u32 (n2 : Nat), .slice (some ⟨F, 0, none⟩) n1 n1, .slice (some ⟨R, 0, none⟩) n2 n2] : Array Value)[j]? = some v → w3.cell? ⟨M, j, none⟩ = some v := fun j v hv => by rw [cell_of_row w3 M j _ _ _ hM]; exact hv
  have h3 : MemIs M F R f r (noughts n1) (noughts n2) w3 := { c0 := cM 0 _ rfl, c2 := cM 2 _ rfl, c4 := by rw [l1]; exact cM 4 _ rfl, c5 := by rw [l2]; exact cM 5 _ rfl, hF := hF, hR := hR, fF := zl n1, fR := zl n2, mF := hne.2.1, mR := hne.2.2, fr := hne.1 }
  have hbl : ∀ o1, Below w3.heap.size w3 ((w3.alloc o1).alloc o2) := fun o1 => ((Below.refl _ _).alloc (Nat.le_refl _) _).alloc (by simp) _
  have hX : ∀ o1, ((w3.alloc o1).alloc o2).heap[w3.heap.size]? = some o1 := fun o1 => by rw [heap_alloc_old _ _ (by simp), heap_alloc_new]
  have cX : ∀ j v, (#[.int .u32 (f : Nat), .int .u32 (n1 : Nat), .int .u32 (r : Nat), .int .u32 (n2 : Nat), .slice none 0 0] : Array Value)[j]? = some v → ((w3.alloc (.cells #[.int .u32 (f : Nat), .int .u32 (n1 : Nat), .int .u32 (r : Nat), .int .u32 (n2 : Nat), .slice none 0 0] 34)).alloc o2).cell? ⟨w3.heap.size, j, none⟩ = some v := fun j v hv => by
    rw [cell_of_row _ _ j _ _ _ (hX _)]; exact hv
  refine ⟨h3.out (Out.of_below (fun _ => False) (hbl _)) id id id, [], .slice none 0 0, { c0 := cX 0 _ rfl, c1 := cX 1 _ rfl, c2 := cX 2 _ rfl, c3 := cX 3 _ rfl, c4 := cX 4 _ rfl, fz := ?_, own := World.ownsRow_nil _ _ _ _, ok := (fun x hx => by simp at hx), hx := (fun e => by cases e), obj := ⟨_, _, _, hX _, by decide⟩, lt := by simp; omega, bs := by simp, small := by simp }, ?_, by simp⟩
  · simp [World.frozen?, hX]
  · constructor
    · intro i hi
      simp only [atL, noughts, List.getD, List.getElem?_replicate, List.foldl_nil]; split <;> rfl
    · intro i hi
      simp only [atL, noughts, List.getD, List.getElem?_replicate, List.foldl_nil]; split <;> rfl
/-- what stands throughout the loops -/
structure Loops (w : World) (M F R X B f n1 r n2 : Nat) (lb : Nat) (e0 e1 e2 e3 : Int) (cnt : Nat) (wr : World) : Prop where
  p : Pair M F R X B f n1 r n2 cnt wr
  l : ∀ j v, ([.int .u32 e0, .int .u32 e1, .int .u32 e2, .int .u32 e3] : List Value)[j]? = some v → wr.cell? ⟨lb, j, none⟩ = some v
  b : Below w.heap.size w wr
theorem Loops.out {w : World} {M F R X B f n1 r n2 : Nat} {lb : Nat} {e0 e1 e2 e3 : Int} {cnt cnt' : Nat} {wr wr' : World} {S : Nat → Prop} (h : Loops w M F R X B f n1 r n2 lb e0 e1 e2 e3 cnt wr) (ho : Out S wr wr')
    (hp : Pair M F R X B f n1 r n2 cnt' wr') (hS : ∀ j, S j → w.heap.size ≤ j) (hl : ¬ S lb) : Loops w M F R X B f n1 r n2 lb e0 e1 e2 e3 cnt' wr' :=
  { p := hp, l := fun j v hj => (ho.cell (p := ⟨lb, j, none⟩) (World.block_lt_of_cell? wr _ (h.l j v hj)) hl).trans (h.l j v hj), b := ho.below h.b (Nat.le_refl _) hS }
set_option maxRecDepth 100000 in
set_option maxHeartbeats 2000000 in
theorem bounds_yes (f n1 r n2 : Nat) (by_ : Int) (hby : 0 ≤ by_ ∧ by_ < 256) (w : World) (hf : f < 4294967296) (hfs : n1 ≤ 1048576) (hr : r < 4294967296) (hrs : n2 ≤ 1048576) (hc : canM (f : Nat) (n1 : Nat) (r : Nat) (n2 : Nat) = true) (hb : Banks f n1 r n2) :
    Calls Try.prog 3 #[.agg #[.int .u32 (f : Nat), .int .u32 (n1 : Nat), .int .u32 (r : Nat), .int .u32 (n2 : Nat)], .int .u8 by_] w fun e w' => e = .returned (.bool true) ∧ Below w.heap.size w w' := by
  have NW := Lib.hid (new_yes (f : Nat) n1 (r : Nat) n2 · (by omega) hfs (by omega) hrs hc)
  have C5 := Lib.hid (rcan05_any (f : Nat) (n1 : Nat) (r : Nat) (n2 : Nat) · (by omega) (by omega) (by omega) (by omega))
  have HC := Lib.hid hc
  have HB := Lib.hid hb
  clear hc hb
  go_enter Try.func3, Try.ntmps3
  go_wp2_with fail
  refine (C5.out _).mono ?_
  rw [HC.out]
  rintro e w1 ⟨rfl, b1⟩
  obtain ⟨hbox, hz1, hz2⟩ := boxedM b1
  obtain ⟨c0, c1, c2, c3⟩ : w1.cell? ⟨w.heap.size, 0, none⟩ = some (.int .u32 (f : Nat)) ∧ w1.cell? ⟨w.heap.size, 1, none⟩ = some (.int .u32 (n1 : Nat)) ∧ w1.cell? ⟨w.heap.size, 2, none⟩ = some (.int .u32 (r : Nat)) ∧ w1.cell? ⟨w.heap.size, 3, none⟩ = some (.int .u32 (n2 : Nat)) := ⟨hbox 0 _ rfl, hbox 1 _ rfl, hbox 2 _ rfl, hbox 3 _ rfl⟩
  have B1 := Lib.hid (startB b1)
  clear hbox b1
  go_wp2_with fail
  refine (NW.out _).mono ?_
  rintro e w3 ⟨M, F, R, rfl, hM, hF, hR, m1, m2, m3, hFR, hMF, hMR, l1, l2, l3, b3⟩
  have CS := Lib.hid (box_laterB b3 hz1 ⟨c0, c1, c2, c3⟩)
  have B3 := Lib.hid (B1.out.trans (b3.mono B1.out.size))
  have hz3 : w.heap.size < w3.heap.size := Nat.lt_of_lt_of_le hz1 b3.size
  have q1 : w.heap.size < M := Nat.lt_of_lt_of_le hz1 m1
  have q2 : w.heap.size < F := Nat.lt_of_lt_of_le hz1 m2
  have q3 : w.heap.size < R := Nat.lt_of_lt_of_le hz1 m3
  have HMM := Lib.hid hM
  have HMF := Lib.hid hF
  have HMR := Lib.hid hR
  have HNE := Lib.hid (show F ≠ R ∧ M ≠ F ∧ M ≠ R from ⟨hFR, hMF, hMR⟩)
  clear hM hF hR m1 m2 m3 hFR hMF hMR b3 c0 c1 c2 c3
  obtain ⟨c0, c1, c2, c3⟩ := CS.out
  go_wp2_with fail
  have LP := Lib.hid (show Loops w M F R w3.heap.size (w3.heap.size + 2) f n1 r n2 (w3.heap.size + 1) (f : Nat) (((f : Int) + (n1 : Int)) % 4294967296) (r : Nat) (((r : Int) + (n2 : Int)) % 4294967296) (6 * 0) ((w3.alloc (.cells #[.int .u32 (f : Nat), .int .u32 (n1 : Nat), .int .u32 (r : Nat), .int .u32 (n2 : Nat), .slice none 0 0] 34)).alloc (.cells #[.int .u32 (f : Nat), .int .u32 (((f : Int) + (n1 : Int)) % 4294967296), .int .u32 (r : Nat), .int .u32 (((r : Int) + (n2 : Int)) % 4294967296)] 22)) from
    { p := pair_new _ HMM.out HMF.out HMR.out HNE.out
      l := fun j v hj => by
        have e : w3.heap.size + 1 = (w3.alloc (.cells #[.int .u32 (f : Nat), .int .u32 (n1 : Nat), .int .u32 (r : Nat), .int .u32 (n2 : Nat), .slice none 0 0] 34)).heap.size := by simp
        rw [e, World.cell?_alloc_new]
        simpa using hj
      b := (B3.out.alloc (Nat.le_of_lt hz3) _).alloc (by simp; omega) _ })
  have HE : ∀ p : Nat, p < 4 → ∃ e : Int, ([.int .u32 ((f : Nat) : Int), .int .u32 (((f : Int) + (n1 : Int)) % 4294967296), .int .u32 ((r : Nat) : Int), .int .u32 (((r : Int) + (n2 : Int)) % 4294967296)] : List Value)[p]? = some (.int .u32 e) ∧ 0 ≤ e ∧ e < 4294967296 := by
    intro p hp
    obtain rfl | rfl | rfl | rfl : p = 0 ∨ p = 1 ∨ p = 2 ∨ p = 3 := by omega
    · exact ⟨_, rfl, by omega, by omega⟩
    · exact ⟨_, rfl, by omega, by omega⟩
    · exact ⟨_, rfl, by omega, by omega⟩
    · exact ⟨_, rfl, by omega, by omega⟩
  have HE' := Lib.hid HE
  clear HE
  generalize hX : w3.heap.size = X at *
  have PL := Lib.hid (fun (cnt : Nat) (W : World) (h : Pair M F R X (X + 2) f n1 r n2 cnt W) (z : Int) (hz : 0 ≤ z ∧ z < 4294967296) (k : Nat) => pairz_load h HB.out z k hz)
  have PR := Lib.hid (fun (cnt : Nat) (W : World) (h : Pair M F R X (X + 2) f n1 r n2 cnt W) (z : Int) (hz : 0 ≤ z ∧ z < 4294967296) (k : Nat) => pairz_rload h HB.out z k hz)
  have PS := Lib.hid (fun (cnt : Nat) (W : World) (h : Pair M F R X (X + 2) f n1 r n2 cnt W) (z : Int) (hz : 0 ≤ z ∧ z < 4294967296) (k : Nat) => pairz_store h HB.out (by omega) (by omega) z k hz)
  have PT := Lib.hid (fun (cnt : Nat) (W : World) (h : Pair M F R X (X + 2) f n1 r n2 cnt W) (z : Int) (hz : 0 ≤ z ∧ z < 4294967296) (k : Nat) (hc : cnt ≤ 1000) => pairz_rstore h HB.out (by omega) (by omega) (by omega) hc z k hz)
  generalize hWW : World.alloc _ _ = W0 at *
  generalize hE0 : ((f : Nat) : Int) = e0 at LP HE'
  generalize hE1 : ((e0 + (n1 : Int)) % 4294967296) = e1 at LP HE'
  generalize hE2 : ((r : Nat) : Int) = e2 at LP HE'
  generalize hE3 : ((e2 + (n2 : Int)) % 4294967296) = e3 at LP HE'
  clear NW C5 HC HMM HMF HMR CS c0 c1 c2 c3 B1 B3 HB hE0 hE1 hE2 hE3 hWW hX
  go_loopw [9] (fun i wr => ∃ p : Nat, p ≤ 4 ∧ i = .int .i64 p ∧ Loops w M F R X (X + 2) f n1 r n2 (X + 1) e0 e1 e2 e3 (6 * p) wr) (fun i _ => 4 - (intOf i).toNat)
  case atStart => exact ⟨0, by omega, rfl, LP.out⟩
  case round =>
    obtain ⟨p, hp, rfl, hL⟩ := hrel
    obtain ⟨wo, rfl⟩ : ∃ wo : World, wo = wr := ⟨_, rfl⟩
    have HL := Lib.hid hL
    clear hL LP
    by_cases hp4 : p < 4
    · obtain ⟨e, he, hb1, hb2⟩ := HE'.out p hp4
      have EP := Lib.hid he
      have tp : decide ((p : Int) < 4) = true := by simp; omega
      clear he HE'
      go_wp2_with fail
      go_loopw [10] (fun j wr => ∃ q : Nat, q ≤ 6 ∧ j = .int .i64 q ∧ Loops w M F R X (X + 2) f n1 r n2 (X + 1) e0 e1 e2 e3 (6 * p + q) wr) (fun j _ => 6 - (intOf j).toNat)
      case atStart => exact ⟨0, by omega, rfl, HL.out⟩
      case round =>
        obtain ⟨q, hq, rfl, hI⟩ := hrel
        obtain ⟨wi, rfl⟩ : ∃ wi : World, wi = wr := ⟨_, rfl⟩
        by_cases hq6 : q < 6
        · have cp := hI.l p _ EP.out
          have HI := Lib.hid hI
          clear hI HL
          have hm17 : 0 ≤ by_ % 17 ∧ by_ % 17 < 17 := by omega
          go_wp2_with fail
          refine (PL.out _ _ HI.out.p _ (by omega) q).mono ?_
          rintro e5 w5 ⟨rfl, h5⟩
          have I5 := Lib.hid (HI.out.out (h5.out (fun _ => False)) (HI.out.p.like h5) (fun _ hh => hh.elim) id)
          clear h5 cp
          go_wp2_with fail
          refine (PR.out _ _ I5.out.p _ (by omega) q).mono ?_
          rintro e6 w6 ⟨n6, rfl, h6⟩
          have I6 := Lib.hid (I5.out.out (h6.out (fun _ => False)) (I5.out.p.like h6) (fun _ hh => hh.elim) id)
          clear h6 I5 HI
          go_wp2_with fail
          refine (PS.out _ _ I6.out.p _ (by omega) q).mono ?_
          rintro e7 w7 ⟨rfl, h7, o7⟩
          have I7 := Lib.hid (I6.out.out o7 h7 (fun j hj => by omega) (by omega))
          clear h7 o7 I6
          go_wp2_with fail
          refine (PT.out _ _ I7.out.p _ (by omega) q (by omega)).mono ?_
          rintro e8 w8 ⟨rfl, h8, o8⟩
          have I8 := Lib.hid (I7.out.out o8 h8 (fun j hj => by unfold RS at hj; omega) (by unfold RS; omega))
          clear h8 o8 I7
          go_wp2_with fail
          go_roundw
          case rel => exact ⟨q + 1, by omega, by go_num, I8.out⟩
          case measure => first | (simp [intOf]; done) | (simp [intOf]; omega)
        · obtain rfl : q = 6 := by omega
          have HI := Lib.hid hI
          clear hI HL hq6
          go_wp2_with fail
          go_roundw
          case rel => exact ⟨p + 1, by omega, by go_num, by have := HI.out; rwa [show 6 * p + 6 = 6 * (p + 1) by omega] at this⟩
          case measure => first | (simp [intOf]; done) | (simp [intOf]; omega)
    · obtain rfl : p = 4 := by omega
      clear hp4 HE'
      go_wp2_with fail
      refine (law5_lives _).mono ?_
      rintro e4 w4 ⟨rfl, b4⟩
      have B4 := Lib.hid (HL.out.b.trans (b4.mono HL.out.b.size))
      clear b4 HL
      go_wp2_with fail
      go_ret
      exact ⟨rfl, B4.out⟩

theorem bd_u8B {a : Int} (h : (Lit.int .u8 a).wf = true) : 0 ≤ a ∧ a < 256 := by
  have : 0 ≤ a ∧ a ≤ 255 := by simpa [Lit.wf, IntKind.min, IntKind.max, IntKind.signed, IntKind.bits] using h
  omega
theorem bd_u32B {a : Int} (h : (Lit.int .u32 a).wf = true) : 0 ≤ a ∧ a < 4294967296 := by
  have : 0 ≤ a ∧ a ≤ 4294967295 := by simpa [Lit.wf, IntKind.min, IntKind.max, IntKind.signed, IntKind.bits] using h
  omega
theorem walk_MemBounds (f fs r rs by_ : Int) (w0 : (Lit.int .u32 f).wf = true) (w1 : (Lit.int .u32 fs).wf = true) (w2 : (Lit.int .u32 r).wf = true) (w3 : (Lit.int .u32 rs).wf = true) (w4 : (Lit.int .u8 by_).wf = true) (w : World) :
    Calls Try.prog 3 #[.agg #[.int .u32 f, .int .u32 fs, .int .u32 r, .int .u32 rs], .int .u8 by_] w fun e w' => e = .returned (.bool true) ∧ Below w.heap.size w w' := by
  have hf := bd_u32B w0
  have hfs := bd_u32B w1
  have hr := bd_u32B w2
  have hrs := bd_u32B w3
  have hby := bd_u8B w4
  cases hc : canM f fs r rs
  · exact bounds_no f fs r rs by_ w hf hfs hr hrs hc
  · have h1 : oneB f fs = true := by unfold canM at hc; simp only [Bool.and_eq_true] at hc; exact hc.1.1
    have h2 : oneB r rs = true := by unfold canM at hc; simp only [Bool.and_eq_true] at hc; exact hc.1.2
    have h3 : f + fs ≤ r ∨ r + rs ≤ f := by unfold canM at hc; simp only [Bool.and_eq_true, Bool.or_eq_true, decide_eq_true_eq] at hc; exact hc.2
    have g1 := oneB_out h1
    have g2 := oneB_out h2
    obtain ⟨n1, rfl⟩ : ∃ n : Nat, fs = n := ⟨fs.toNat, by omega⟩
    obtain ⟨n2, rfl⟩ : ∃ n : Nat, rs = n := ⟨rs.toNat, by omega⟩
    obtain ⟨a, rfl⟩ : ∃ n : Nat, f = n := ⟨f.toNat, by omega⟩
    obtain ⟨b, rfl⟩ : ∃ n : Nat, r = n := ⟨r.toNat, by omega⟩
    exact bounds_yes a n1 b n2 by_ hby w (by omega) (by omega) (by omega) (by omega) hc { a := by omega, b := by omega, c := by omega, d := by omega, e := by omega }

theorem own : ownKnob Try.prog.godebug = none := by kernel_rfl
theorem laidOut : laidOutB Try.prog = true := by kernel_rfl
set_option maxRecDepth 100000 in
theorem lifted_MemBounds (os : Os) (started : os.Started) (H : Type) (enc : TypeId × Value → H) :
    ReturnsInHanded {} Try.checked os 3 .any (Rows.memBoundsSpec.pre6 enc Try.prog Try.f3 Rows.memBoundsRow.domain false) (Rows.memBoundsSpec.post enc Try.prog Try.f3 false true false false) := by
  refine returnsInHanded_of_change (C := Try.checked) own started (by kernel_rfl) Try.func3
    (ChangeSpec.witness6 (enc := enc) (C := Try.checked) false ⟨#[], #[.agg #[.int .u32 0, .int .u32 0, .int .u32 0, .int .u32 0], .int .u8 0], []⟩ 8 (by kernel_rfl) (by kernel_rfl) (by kernel_rfl) (by kernel_rfl)) ?_
  intro W base args ds gs before hval0 hW hcnd _
  have hval : ∀ (j : Nat) t v, Try.f3.params[j]? = some t → args[j]? = some v → Value.okWide Try.prog W .any base t v := hval0
  have hW' := hW
  obtain ⟨p, q, hA0, hV, rfl, hfz, hnd⟩ := hW
  have hA : DataW.TrodAll enc Try.prog W 0 (fun _ => true) true Try.f3.params.toList args.toList ds p := hA0
  rw [Try.params3] at hA hval
  obtain ⟨v0, vs0, d0, ds0, p0, q0, hargs, rfl, rfl, h0, r0⟩ := trodAll_cons hA
  obtain ⟨v1, vs1, d1, ds1, p1, q1, rfl, rfl, rfl, h1, r1⟩ := trodAll_cons r0
  obtain ⟨rfl, rfl, rfl⟩ := trodAll_nil r1
  obtain rfl : args = #[v0, v1] := by cases args; simp_all
  obtain ⟨rfl, rfl⟩ := trodVars_none hV
  have k0 := h0
  have lt0 : ∀ x ∈ p0, x.block < W.heap.size := by obtain ⟨m, hm⟩ := k0; exact DataW.trod_lt m _ _ _ hm
  obtain ⟨zs0, zl0, rfl, zw0⟩ := flat_ints [.u32, .u32, .u32, .u32] (ts := [22, 22, 22, 22]) (Or.inl ⟨_, Try.underlying24⟩) (by kernel_rfl) (by kernel_rfl) (by kernel_rfl) (hval 0 24 v0 rfl rfl)
  obtain ⟨a0_0, a0_1, a0_2, a0_3, rfl⟩ := len4 zl0
  obtain ⟨a1, rfl, rfl, rfl, w1⟩ := open_int Try.underlying5 (hval 1 5 v1 rfl rfl) h1
  clear hA0 hval0
  refine (walk_MemBounds a0_0 a0_1 a0_2 a0_3 a1 (zw0 0 .u32 _ rfl rfl) (zw0 1 .u32 _ rfl rfl) (zw0 2 .u32 _ rfl rfl) (zw0 3 .u32 _ rfl rfl) w1 W).mono fun e W' ⟨he, bel⟩ => ?_
  subst he
  exact ⟨_, rfl, _, _, _, [], _, [], hW', trodAll_mk1 (shut_bool Try.underlying4 _), (trodAll_cons_mk (Below.trod laidOut (by kernel_rfl) (of_decide_eq_true (by kernel_rfl)) k0 bel lt0) (trodAll_cons_mk (shut_int Try.underlying5 w1) trodAll_mk0)), rfl, bel.frame _, fun h => by cases h⟩

theorem holds_MemBounds : Rows.MemBoundsSaid :=
  OpenClaim.holds_of_wide 3 Try.f3 rfl rfl rfl rfl rfl rfl rfl ⟨rfl, rfl, rfl, rfl, rfl⟩ rfl rfl rfl rfl rfl (by kernel_rfl) Try.func3 (by kernel_rfl)
    (of_decide_eq_true (by kernel_rfl)) (by unfold Func.isWrapper; first | (rw [if_pos (by decide +kernel)]; kernel_rfl) | (rw [if_neg (by decide +kernel)]; exact ⟨rfl, rfl⟩))
    (fun os started H enc _ => lifted_MemBounds os started H enc)

end Go.Proofs.Ytnkfdpkcnfefeaa
