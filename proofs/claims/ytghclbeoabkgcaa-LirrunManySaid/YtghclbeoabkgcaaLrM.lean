/- Contract of the law's memories: one of the program's and one of the document's, with the same bytes. -/
import Derived.Test.YtghclbeoabkgcaaByt
import Derived.Test.YtghclbeoabkgcaaMemX
import Derived.Test.YtghclbeoabkgcaaMemB
import Derived.Test.YtghclbeoabkgcaaQuantP
namespace Go.Proofs.Ytghclbeoabkgcaa
open Go Go.RowKit Pl
set_option linter.unusedVariables false

theorem banks_mapM : Banks 4096 256 2147483648 128 := ⟨by omega, by omega, by omega, by omega, by omega⟩
theorem noughts_lenM (n : Nat) : (noughts n).length = n := by simp [noughts]
theorem made_noughtsM (n : Nat) : madeCells #[Value.int .u8 0] n = rowG (noughts n) := by
  apply Array.ext'
  apply List.ext_getElem?
  intro i
  simp only [madeCells, rowG, noughts, Array.toList_map, Array.toList_range, List.getElem?_map, List.map_replicate]
  by_cases h : i < n
  · rw [List.getElem?_range h, List.getElem?_replicate, if_pos h]
    have e : i % 1 = 0 := Nat.mod_one i
    simp [u8G, e]
  · rw [List.getElem?_eq_none (by simp; omega), List.getElem?_eq_none (by simp; omega)]; rfl
theorem new_mem {w3 : World} {M F R f n1 r n2 : Nat} (hM : w3.heap[M]? = some (.cells #[.int .u32 (f : Nat), .int .u32 (n1 : Nat), .int .u32 (r : Nat), .int .u32 (n2 : Nat), .slice (some ⟨F, 0, none⟩) n1 n1, .slice (some ⟨R, 0, none⟩) n2 n2] 119 (0, 0)))
    (hF : w3.heap[F]? = some (.cells (madeCells #[.int .u8 0] n1) 5 (0, 0))) (hR : w3.heap[R]? = some (.cells (madeCells #[.int .u8 0] n2) 5 (0, 0))) (hne : F ≠ R ∧ M ≠ F ∧ M ≠ R) : MemIs M F R f r (noughts n1) (noughts n2) w3 := by
  have l1 := noughts_lenM n1
  have l2 := noughts_lenM n2
  have zl : ∀ n, ∀ x ∈ noughts n, x < 256 := fun n x hx => by rw [List.eq_of_mem_replicate hx]; omega
  rw [made_noughtsM] at hF hR
  have cM : ∀ j v, (#[.int .u32 (f : Nat), .int .u32 (n1 : Nat), .int .u32 (r : Nat), .int .u32 (n2 : Nat), .slice (some ⟨F, 0, none⟩) n1 n1, .slice (some ⟨R, 0, none⟩) n2 n2] : Array Value)[j]? = some v → w3.cell? ⟨M, j, none⟩ = some v := fun j v hv => by rw [cell_of_row w3 M j _ _ _ hM]; exact hv
  exact { c0 := cM 0 _ rfl, c2 := cM 2 _ rfl, c4 := by rw [l1]; exact cM 4 _ rfl, c5 := by rw [l2]; exact cM 5 _ rfl, hF := hF, hR := hR, fF := zl n1, fR := zl n2, mF := hne.2.1, mR := hne.2.2, fr := hne.1 }
theorem new_ref {w4 : World} {f n1 r n2 : Nat} : RefIs w4.heap.size (w4.heap.size + 1) f n1 r n2 [] (.slice none 0 0) (w4.alloc (.cells #[.int .u32 (f : Nat), .int .u32 (n1 : Nat), .int .u32 (r : Nat), .int .u32 (n2 : Nat), .slice none 0 0] 92)) := by
  have hX : ∀ o1, (w4.alloc o1).heap[w4.heap.size]? = some o1 := fun o1 => heap_alloc_new _ _
  have cX : ∀ j v, (#[.int .u32 (f : Nat), .int .u32 (n1 : Nat), .int .u32 (r : Nat), .int .u32 (n2 : Nat), .slice none 0 0] : Array Value)[j]? = some v → (w4.alloc (.cells #[.int .u32 (f : Nat), .int .u32 (n1 : Nat), .int .u32 (r : Nat), .int .u32 (n2 : Nat), .slice none 0 0] 92)).cell? ⟨w4.heap.size, j, none⟩ = some v := fun j v hv => by
    rw [cell_of_row _ _ j _ _ _ (hX _)]; exact hv
  exact { c0 := cX 0 _ rfl, c1 := cX 1 _ rfl, c2 := cX 2 _ rfl, c3 := cX 3 _ rfl, c4 := cX 4 _ rfl, fz := by unfold World.frozen?; rw [hX]; rfl, own := World.ownsRow_nil _ _ _ _, ok := (fun x hx => by simp at hx), hx := (fun e => by cases e), lt := by simp, bs := by simp, small := by simp }
theorem new_agree {f r n1 n2 : Nat} : Agree f r (noughts n1) (noughts n2) [] := by
  constructor
  · intro i hi
    simp only [atL, noughts, List.getD, List.getElem?_replicate, List.foldl_nil]; split <;> rfl
  · intro i hi
    simp only [atL, noughts, List.getD, List.getElem?_replicate, List.foldl_nil]; split <;> rfl
theorem src_of {W : World} {b off : Nat} {t : List Nat} (h : ∀ k, k < t.length → W.cell? ⟨b, off + k, none⟩ = some (.int .u8 (t.getD k 0 : Nat))) : ∀ j u, (t.map u8G)[j]? = some u → W.cell? ((⟨b, off, none⟩ : Addr).add j) = some u := by
  intro j u hu
  have e : (⟨b, off, none⟩ : Addr).add j = ⟨b, off + j, none⟩ := by unfold Addr.add; split <;> simp_all
  rw [e]
  simp only [List.getElem?_map, Option.map_eq_some_iff] at hu
  obtain ⟨x, hx, rfl⟩ := hu
  have hj : j < t.length := (List.getElem?_eq_some_iff.1 hx).1
  rw [h j hj, List.getD, hx]
  rfl
theorem src_of' {W : World} {b off : Nat} {t : List Nat} (h : ∀ k, k < t.length → W.cell? ⟨b, off + k, none⟩ = some (.int .u8 (t.getD k 0 : Nat))) : ∀ j x, t[j]? = some x → W.cell? ⟨b, off + j, none⟩ = some (.int .u8 (x : Nat)) := by
  intro j x hx
  have hj : j < t.length := (List.getElem?_eq_some_iff.1 hx).1
  rw [h j hj, List.getD, hx]
  rfl
/-- both memories, with the same bytes -/
structure Mems (w : World) (M F R X : Nat) (t : List Nat) (w' : World) : Prop where
  m : MemIs M F R 4096 2147483648 (noughts 256) (setB (noughts 128) 0 t) w'
  x : ∃ L v, RefIs X (X + 1) 4096 256 2147483648 128 L v w' ∧ Agree 4096 2147483648 (noughts 256) (setB (noughts 128) 0 t) L ∧ L.length ≤ t.length
  lo : w.heap.size ≤ M ∧ w.heap.size ≤ F ∧ w.heap.size ≤ R
  hi : M < X ∧ F < X ∧ R < X
  b : Below w.heap.size w w'
def MemsPost (w : World) (t : List Nat) (e : Ending) (w' : World) : Prop := ∃ M F R X, e = .returned (.tuple #[.pointer (some ⟨M, 0, none⟩), .pointer (some ⟨X, 0, none⟩)]) ∧ Mems w M F R X t w'
theorem setB_zero : setB (noughts 128) 0 [] = noughts 128 := by simp [setB]
theorem inB_ram {n : Nat} (h0 : 0 < n) (h : n ≤ 128) : inB 4096 256 2147483648 n = false ∧ inB 2147483648 128 2147483648 n = true := by
  unfold inB
  constructor
  · simp only [decide_eq_false_iff_not]; omega
  · simp only [decide_eq_true_eq]; omega
theorem put_ram {t : List Nat} (h0 : 0 < t.length) (h : t.length ≤ 128) : putF 4096 256 (noughts 256) 2147483648 t = noughts 256 ∧ putRm 4096 256 2147483648 128 (noughts 128) 2147483648 t = setB (noughts 128) 0 t ∧ wIn 4096 256 2147483648 128 2147483648 t.length = true := by
  obtain ⟨h1, h2⟩ := inB_ram h0 h
  unfold putF putRm wIn
  rw [h1, h2]
  simp
theorem below_grownM {w w1 w' : World} {v : Value} (h : Below w.heap.size w w1) (hg : w1.grownBy w' v.ownBlock) (hv : ∀ k, v.ownBlock = some k → w.heap.size ≤ k) : Below w.heap.size w w' :=
  h.grown hg h.size hv
theorem news_of {w w' : World} {b off : Nat} {t : List Nat} (h : ∀ k, k < t.length → w.cell? ⟨b, off + k, none⟩ = some (.int .u8 (t.getD k 0 : Nat))) (hw : ∀ k, w'.cell? ⟨b, k, none⟩ = w.cell? ⟨b, k, none⟩) : ∀ j u, (t.map u8v)[j]? = some u → w'.cell? ((⟨b, off, none⟩ : Addr).add j) = some u := by
  intro j u hu
  have e : (⟨b, off, none⟩ : Addr).add j = ⟨b, off + j, none⟩ := by unfold Addr.add; split <;> simp_all
  rw [e, hw]
  simp only [List.getElem?_map, Option.map_eq_some_iff] at hu
  obtain ⟨x, hx, rfl⟩ := hu
  have hj : j < t.length := (List.getElem?_eq_some_iff.1 hx).1
  rw [h j hj, List.getD, hx]
  rfl
theorem own_put {w : World} {base n : Nat} {v : Value} {t : List Nat} (h : w.ownsRow base 5 1 v (0 + n) ([] ++ t.map u8v)) (hn : t.length = n) (h0 : 0 < n) :
    ∃ g c, v = .slice (some ⟨g, 0, none⟩) n c ∧ base ≤ g ∧ g < w.heap.size ∧ ∀ k, k < t.length → w.cell? ⟨g, 0 + k, none⟩ = some (.int .u8 (t.getD k 0 : Nat)) := by
  rw [Nat.zero_add, List.nil_append] at h
  have hlt := h.lt
  have h' := h
  obtain ⟨_, ⟨hv, hn0⟩ | ⟨g, cap, cur, hv, hg, hh, hc, hcm, _⟩⟩ := h
  · omega
  · refine ⟨g, cap, hv, hg, (hlt g (by rw [hv]; rfl)).2, fun k hk => ?_⟩
    have := h'.cells (g := g) (by rw [hv]; rfl) k (u8v (t.getD k 0)) (by simp [u8v, List.getD, hk])
    have e : (⟨g, 0, none⟩ : Addr).add k = ⟨g, 0 + k, none⟩ := by unfold Addr.add; split <;> simp_all
    rw [e] at this
    exact this
set_option maxRecDepth 100000 in
set_option maxHeartbeats 2000000 in
theorem mems_none (w : World) :
    Calls Try.prog 21 #[.slice none 0 0] w (MemsPost w []) := by
  go_enter Try.func21, Try.ntmps21
  go_wp2_with fail
  refine (map_any w).mono ?_
  rintro e w1 ⟨rfl, b1⟩
  have B1 := Lib.hid b1
  clear b1
  go_wp2_with fail
  refine (new_live w1).mono ?_
  rintro e w3 ⟨M, F, R, rfl, hM, hF, hR, m1, m2, m3, hFR, hMF, hMR, l1, l2, l3, b3⟩
  have MI := Lib.hid (new_mem (f := 4096) (n1 := 256) (r := 2147483648) (n2 := 128) hM hF hR ⟨hFR, hMF, hMR⟩)
  have B3 := Lib.hid (B1.out.trans (b3.mono B1.out.size))
  have q1 : w.heap.size ≤ M := Nat.le_trans B1.out.size m1
  have q2 : w.heap.size ≤ F := Nat.le_trans B1.out.size m2
  have q3 : w.heap.size ≤ R := Nat.le_trans B1.out.size m3
  clear hM hF hR hFR hMF hMR b3 m1 m2 m3
  go_wp2_with fail
  refine (map_any w3).mono ?_
  rintro e w4 ⟨rfl, b4⟩
  have B4 := Lib.hid (B3.out.trans (b4.mono B3.out.size))
  have M4 := Lib.hid (MI.out.out (Out.of_below (fun _ => False) b4) id id id)
  have hz4 : w3.heap.size ≤ w4.heap.size := b4.size
  clear b4
  go_wp2_with fail
  have X5 := Lib.hid (new_ref (w4 := w4) (f := 4096) (n1 := 256) (r := 2147483648) (n2 := 128))
  obtain ⟨X, hX⟩ : ∃ X, w4.heap.size = X := ⟨_, rfl⟩
  have M5 := Lib.hid (M4.out.out (Out.of_below (fun _ => False) (((Below.refl _ _).alloc (Nat.le_refl _) (.cells #[.int .u32 4096, .int .u32 256, .int .u32 2147483648, .int .u32 128, .slice none 0 0] 92)).alloc (by simp) (.cells #[] 5))) id id id)
  have B5 := Lib.hid ((B4.out.alloc B4.out.size (.cells #[.int .u32 4096, .int .u32 256, .int .u32 2147483648, .int .u32 128, .slice none 0 0] 92)).alloc (by have := B4.out.size; simp; omega) (.cells #[] 5))
  have X6 := Lib.hid (X5.out.out (Out.of_below (fun _ => False) ((Below.refl _ _).alloc (Nat.le_refl _) (.cells #[] 5))) id (fun _ _ => id))
  refine (mput_nil M _ _ _ _).mono ?_
  rintro e w5 ⟨rfl, lk⟩
  have X7 := Lib.hid (X6.out.like lk)
  have M7 := Lib.hid (M5.out.like lk)
  have B7 := Lib.hid (lk.2 _ _ B5.out)
  clear lk X6 X5 M5 B5
  rw [hX] at hz4 X7
  go_wp2_with fail
  refine (rput_nil (v := .slice none 0 0) (L := []) X7.out _ _ _).mono ?_
  rintro e w6 ⟨rfl, v', h6, o6, f6⟩
  have X8 := Lib.hid h6
  have M8 := Lib.hid (M7.out.out o6 (by rintro (h | h); omega; cases h) (by rintro (h | h); omega; cases h) (by rintro (h | h); omega; cases h))
  have B8 := Lib.hid (show Below w.heap.size w w6 from o6.below B7.out (Nat.le_refl _) (by rintro j (h | h); omega; cases h))
  clear h6 o6 f6
  go_wp2_with fail
  go_ret2
  exact ⟨M, F, R, X, rfl, { m := by rw [setB_zero]; exact M8.out, x := ⟨[], v', X8.out, by rw [setB_zero]; exact new_agree, by simp⟩, lo := ⟨q1, q2, q3⟩, hi := by omega, b := B8.out }⟩
set_option maxRecDepth 100000 in
set_option maxHeartbeats 2000000 in
theorem mems_some (x : Addr) (c : Nat) (w : World) :
    Calls Try.prog 21 #[.slice (some x) 0 c] w (MemsPost w []) := by
  go_enter Try.func21, Try.ntmps21
  go_wp2_with fail
  refine (map_any w).mono ?_
  rintro e w1 ⟨rfl, b1⟩
  have B1 := Lib.hid b1
  clear b1
  go_wp2_with fail
  refine (new_live w1).mono ?_
  rintro e w3 ⟨M, F, R, rfl, hM, hF, hR, m1, m2, m3, hFR, hMF, hMR, l1, l2, l3, b3⟩
  have MI := Lib.hid (new_mem (f := 4096) (n1 := 256) (r := 2147483648) (n2 := 128) hM hF hR ⟨hFR, hMF, hMR⟩)
  have B3 := Lib.hid (B1.out.trans (b3.mono B1.out.size))
  have q1 : w.heap.size ≤ M := Nat.le_trans B1.out.size m1
  have q2 : w.heap.size ≤ F := Nat.le_trans B1.out.size m2
  have q3 : w.heap.size ≤ R := Nat.le_trans B1.out.size m3
  clear hM hF hR hFR hMF hMR b3 m1 m2 m3
  go_wp2_with fail
  refine (map_any w3).mono ?_
  rintro e w4 ⟨rfl, b4⟩
  have B4 := Lib.hid (B3.out.trans (b4.mono B3.out.size))
  have M4 := Lib.hid (MI.out.out (Out.of_below (fun _ => False) b4) id id id)
  have hz4 : w3.heap.size ≤ w4.heap.size := b4.size
  clear b4
  go_wp2_with fail
  have X5 := Lib.hid (new_ref (w4 := w4) (f := 4096) (n1 := 256) (r := 2147483648) (n2 := 128))
  obtain ⟨X, hX⟩ : ∃ X, w4.heap.size = X := ⟨_, rfl⟩
  have M5 := Lib.hid (M4.out.out (Out.of_below (fun _ => False) (((Below.refl _ _).alloc (Nat.le_refl _) (.cells #[.int .u32 4096, .int .u32 256, .int .u32 2147483648, .int .u32 128, .slice none 0 0] 92)).alloc (by simp) (.cells #[] 5))) id id id)
  have B5 := Lib.hid ((B4.out.alloc B4.out.size (.cells #[.int .u32 4096, .int .u32 256, .int .u32 2147483648, .int .u32 128, .slice none 0 0] 92)).alloc (by have := B4.out.size; simp; omega) (.cells #[] 5))
  have X6 := Lib.hid (X5.out.out (Out.of_below (fun _ => False) ((Below.refl _ _).alloc (Nat.le_refl _) (.cells #[] 5))) id (fun _ _ => id))
  refine (mput_nil M _ _ _ _).mono ?_
  rintro e w5 ⟨rfl, lk⟩
  have X7 := Lib.hid (X6.out.like lk)
  have M7 := Lib.hid (M5.out.like lk)
  have B7 := Lib.hid (lk.2 _ _ B5.out)
  clear lk X6 X5 M5 B5
  rw [hX] at hz4 X7
  go_wp2_with fail
  refine (rput_nil (v := .slice none 0 0) (L := []) X7.out _ _ _).mono ?_
  rintro e w6 ⟨rfl, v', h6, o6, f6⟩
  have X8 := Lib.hid h6
  have M8 := Lib.hid (M7.out.out o6 (by rintro (h | h); omega; cases h) (by rintro (h | h); omega; cases h) (by rintro (h | h); omega; cases h))
  have B8 := Lib.hid (show Below w.heap.size w w6 from o6.below B7.out (Nat.le_refl _) (by rintro j (h | h); omega; cases h))
  clear h6 o6 f6
  go_wp2_with fail
  go_ret2
  exact ⟨M, F, R, X, rfl, { m := by rw [setB_zero]; exact M8.out, x := ⟨[], v', X8.out, by rw [setB_zero]; exact new_agree, by simp⟩, lo := ⟨q1, q2, q3⟩, hi := by omega, b := B8.out }⟩
set_option maxRecDepth 100000 in
set_option maxHeartbeats 2000000 in
theorem mems_few (b off c n : Nat) (t : List Nat) (w : World) (ht : t.length = n) (h0 : 0 < n) (hn : n ≤ 100) (hc : n ≤ c) (hb : b < w.heap.size) (h256 : ∀ x ∈ t, x < 256) (hcel : ∀ k, k < t.length → w.cell? ⟨b, off + k, none⟩ = some (.int .u8 (t.getD k 0 : Nat))) :
    Calls Try.prog 21 #[.slice (some ⟨b, off, none⟩) n c] w (MemsPost w t) := by
  have T256 := Lib.hid h256
  have CEL := Lib.hid hcel
  have HN := Lib.hid ht
  have HNL := Lib.hid (show 0 < n ∧ n ≤ 100 from ⟨h0, hn⟩)
  clear h256 hcel ht
  have t100 : decide ((100 : Int) < (n : Int)) = false := by simp; omega
  go_enter Try.func21, Try.ntmps21
  go_wp2_with fail
  refine (map_any w).mono ?_
  rintro e w1 ⟨rfl, b1⟩
  have B1 := Lib.hid b1
  clear b1
  go_wp2_with fail
  refine (new_live w1).mono ?_
  rintro e w3 ⟨M, F, R, rfl, hM, hF, hR, m1, m2, m3, hFR, hMF, hMR, l1, l2, l3, b3⟩
  have MI := Lib.hid (new_mem (f := 4096) (n1 := 256) (r := 2147483648) (n2 := 128) hM hF hR ⟨hFR, hMF, hMR⟩)
  have B3 := Lib.hid (B1.out.trans (b3.mono B1.out.size))
  have q1 : w.heap.size ≤ M := Nat.le_trans B1.out.size m1
  have q2 : w.heap.size ≤ F := Nat.le_trans B1.out.size m2
  have q3 : w.heap.size ≤ R := Nat.le_trans B1.out.size m3
  clear hM hF hR hFR hMF hMR b3 m1 m2 m3
  go_wp2_with fail
  refine (map_any w3).mono ?_
  rintro e w4 ⟨rfl, b4⟩
  have B4 := Lib.hid (B3.out.trans (b4.mono B3.out.size))
  have M4 := Lib.hid (MI.out.out (Out.of_below (fun _ => False) b4) id id id)
  have hz4 : w3.heap.size ≤ w4.heap.size := b4.size
  clear b4
  obtain ⟨i0, hi0, hz0, hz1, hz2⟩ := info_parts info_u8
  have OWN0 := Lib.hid (show ((w4.alloc (.cells #[.int .u32 4096, .int .u32 256, .int .u32 2147483648, .int .u32 128, .slice none 0 0] 92)).alloc (.cells #[] 5)).ownsRow (w4.heap.size + 1) 5 1 (.slice (some ⟨w4.heap.size + 1, 0, none⟩) 0 0) 0 [] by
    have := own_empty (w4.alloc (.cells #[.int .u32 4096, .int .u32 256, .int .u32 2147483648, .int .u32 128, .slice none 0 0] 92)) (w4.heap.size + 1) (by simp)
    rw [show (w4.alloc (.cells #[.int .u32 4096, .int .u32 256, .int .u32 2147483648, .int .u32 128, .slice none 0 0] 92)).heap.size = w4.heap.size + 1 by simp] at this
    exact this)
  have B5 := Lib.hid ((B4.out.alloc B4.out.size (.cells #[.int .u32 4096, .int .u32 256, .int .u32 2147483648, .int .u32 128, .slice none 0 0] 92)).alloc (by have := B4.out.size; simp; omega) (.cells #[] 5))
  have X5 := Lib.hid (new_ref (w4 := w4) (f := 4096) (n1 := 256) (r := 2147483648) (n2 := 128))
  have X6 := Lib.hid (X5.out.out (Out.of_below (fun _ => False) ((Below.refl _ _).alloc (Nat.le_refl _) (.cells #[] 5))) id (fun _ _ => id))
  have M5 := Lib.hid (M4.out.out (Out.of_below (fun _ => False) (((Below.refl _ _).alloc (Nat.le_refl _) (.cells #[.int .u32 4096, .int .u32 256, .int .u32 2147483648, .int .u32 128, .slice none 0 0] 92)).alloc (by simp) (.cells #[] 5))) id id id)
  have NEWS := Lib.hid (news_of (w' := (w4.alloc (.cells #[.int .u32 4096, .int .u32 256, .int .u32 2147483648, .int .u32 128, .slice none 0 0] 92)).alloc (.cells #[] 5)) CEL.out (fun k => B5.out.cell (p := ⟨b, k, none⟩) hb))
  have ONEC := Lib.hid (one_cell t)
  have LNM := Lib.hid (show (t.map u8v).length = n * 1 by rw [List.length_map, HN.out, Nat.mul_one])
  have MX := Lib.hid (show 0 + n ≤ maxLen by have := HNL.out; unfold maxLen; omega)
  have MXB := Lib.hid (show (0 + n) * 1 ≤ 140737488355328 by have := HNL.out; omega)
  have SZ := Lib.hid (show w4.heap.size + 1 ≤ ((w4.alloc (.cells #[.int .u32 4096, .int .u32 256, .int .u32 2147483648, .int .u32 128, .slice none 0 0] 92)).alloc (.cells #[] 5)).heap.size by simp)
  go_wp2_with (at_builtin; (refine wpList_append_own _ rfl (.tmp 21) (.tmp 22) 45 rfl (w4.heap.size + 1) 5 i0 (.int .u8 0) 1 1 Try.underlying45 hi0 hz0 hz1 hz2 rfl (by decide) (.slice (some ⟨w4.heap.size + 1, 0, none⟩) 0 0) 0 [] rfl OWN0.out ⟨b, off, none⟩ n c (t.map u8v) rfl LNM.out NEWS.out ONEC.out MX.out MXB.out SZ.out ?_; intro v1 w7 hown hgrow hn7; obtain ⟨g, cc, rfl, hgX, hgl, hcl⟩ := own_put hown HN.out HNL.out.1; have CW := Lib.hid hcl; have B7 := Lib.hid (below_grownM B5.out hgrow (fun k hk => by cases hk; have := B4.out.size; show w.heap.size ≤ w4.heap.size + 1; omega)); have O7 := Lib.hid (show Out (· = w4.heap.size + 1) _ w7 from Out.of_grown hgrow (fun k hk => by cases hk; rfl)); clear hown hgrow hn7 hcl))
  obtain ⟨X, hX⟩ : ∃ X, w4.heap.size = X := ⟨_, rfl⟩
  have M7 := Lib.hid (M5.out.out O7.out (by omega) (by omega) (by omega))
  have X7 := Lib.hid (X6.out.out O7.out (by show ¬ w4.heap.size = w4.heap.size + 1; omega) (fun _ h => by cases h))
  clear O7 X6 X5 M5 B5 OWN0
  rw [hX] at hz4 X7
  rw [hX] at hgX
  have HNL2 := Lib.hid (show 0 < t.length ∧ t.length ≤ 100 by rw [HN.out]; exact HNL.out)
  obtain ⟨pr1, pr2, pr3⟩ := put_ram HNL2.out.1 (by have := HNL2.out; omega)
  have PM := Lib.hid (MemIs.put M7.out banks_mapM 2147483648 t (by decide) HNL2.out.1 (by have := HNL2.out; omega) T256.out ⟨g, 0, none⟩ cc (src_of (b := g) (off := 0) (W := w7) CW.out))
  have PR := Lib.hid (show wIn 4096 256 2147483648 128 2147483648 t.length = true ∧ putF 4096 256 (noughts 256) 2147483648 t = noughts 256 ∧ putRm 4096 256 2147483648 128 (noughts 128) 2147483648 t = setB (noughts 128) 0 t from ⟨pr3, pr1, pr2⟩)
  clear pr1 pr2 pr3
  have P2 := PM.out
  rw [HN.out] at P2
  refine P2.mono ?_
  clear P2 PM
  rintro e w8 ⟨rfl, m8, o8⟩
  have M8 := Lib.hid (show MemIs M F R 4096 2147483648 (noughts 256) (setB (noughts 128) 0 t) w8 by
    have := m8
    rw [show (noughts 256).length = 256 from noughts_lenM _, show (noughts 128).length = 128 from noughts_lenM _, PR.out.2.1, PR.out.2.2] at this
    exact this)
  have X8 := Lib.hid (X7.out.out o8 (by rintro (h | h) <;> omega) (fun _ h => by cases h))
  have B8 := Lib.hid (show Below w.heap.size w w8 from o8.below B7.out (Nat.le_refl _) (by rintro j (h | h) <;> omega))
  clear m8 o8 M7 X7 CW
  go_wp2_with fail
  have AGR : Agree 4096 2147483648 (noughts 256) (setB (noughts 128) 0 t) (logP 4096 256 2147483648 128 [] 2147483648 t) := by
    have := agree_put (new_agree (f := 4096) (r := 2147483648) (n1 := 256) (n2 := 128)) (.inl (by rw [noughts_lenM]; omega)) 2147483648 t
    rw [show (noughts 256).length = 256 from noughts_lenM _, show (noughts 128).length = 128 from noughts_lenM _, PR.out.2.1, PR.out.2.2] at this
    exact this
  have LGR : (logP 4096 256 2147483648 128 [] 2147483648 t).length ≤ t.length := by
    unfold logP
    rw [if_pos PR.out.1]
    simp [writes_length]
  have PX := rput_any X8.out banks_mapM 2147483648 (by decide) t b off c HNL2.out.1 (by have := HNL2.out; omega) T256.out (by have := HNL2.out; simp; omega) (src_of' (fun k hk => (B8.out.cell (p := ⟨b, off + k, none⟩) hb).trans (CEL.out k hk))) (by rintro (h | h); omega; cases h)
  rw [HN.out] at PX
  refine PX.mono ?_
  clear PX
  rintro e w9 ⟨rfl, v', h9, o9, f9⟩
  have X9 := Lib.hid h9
  have M9 := Lib.hid (M8.out.out o9 (by rintro (h | h); omega; cases h) (by rintro (h | h); omega; cases h) (by rintro (h | h); omega; cases h))
  have B9 := Lib.hid (show Below w.heap.size w w9 from o9.below B8.out (Nat.le_refl _) (by rintro j (h | h); have := M9.out; omega; cases h))
  clear h9 o9 f9
  go_wp2_with fail
  go_ret2
  refine ⟨M, F, R, X, rfl, { m := M9.out, x := ⟨_, v', X9.out, AGR, LGR⟩, lo := ⟨q1, q2, q3⟩, hi := by omega, b := B9.out }⟩
set_option maxRecDepth 100000 in
set_option maxHeartbeats 2000000 in
theorem mems_long (b off c : Nat) (l t : List Nat) (w : World) (ht : t = l.take 100) (hl : 100 < l.length) (hc : l.length ≤ c) (hb : b < w.heap.size) (h256 : ∀ x ∈ t, x < 256) (hcel : ∀ k, k < t.length → w.cell? ⟨b, off + k, none⟩ = some (.int .u8 (t.getD k 0 : Nat))) :
    Calls Try.prog 21 #[.slice (some ⟨b, off, none⟩) l.length c] w (MemsPost w t) := by
  have T256 := Lib.hid h256
  have CEL := Lib.hid hcel
  have HN := Lib.hid (show t.length = 100 by rw [ht]; simp; omega)
  have HNL := Lib.hid (show 0 < 100 ∧ 100 ≤ 100 by omega)
  clear h256 hcel ht
  have t100 : decide ((100 : Int) < (l.length : Int)) = true := by simp; omega
  have c100 : (100 : Int) ≤ (c : Int) := by omega
  go_enter Try.func21, Try.ntmps21
  go_wp2_with fail
  refine (map_any w).mono ?_
  rintro e w1 ⟨rfl, b1⟩
  have B1 := Lib.hid b1
  clear b1
  go_wp2_with fail
  refine (new_live w1).mono ?_
  rintro e w3 ⟨M, F, R, rfl, hM, hF, hR, m1, m2, m3, hFR, hMF, hMR, l1, l2, l3, b3⟩
  have MI := Lib.hid (new_mem (f := 4096) (n1 := 256) (r := 2147483648) (n2 := 128) hM hF hR ⟨hFR, hMF, hMR⟩)
  have B3 := Lib.hid (B1.out.trans (b3.mono B1.out.size))
  have q1 : w.heap.size ≤ M := Nat.le_trans B1.out.size m1
  have q2 : w.heap.size ≤ F := Nat.le_trans B1.out.size m2
  have q3 : w.heap.size ≤ R := Nat.le_trans B1.out.size m3
  clear hM hF hR hFR hMF hMR b3 m1 m2 m3
  go_wp2_with fail
  refine (map_any w3).mono ?_
  rintro e w4 ⟨rfl, b4⟩
  have B4 := Lib.hid (B3.out.trans (b4.mono B3.out.size))
  have M4 := Lib.hid (MI.out.out (Out.of_below (fun _ => False) b4) id id id)
  have hz4 : w3.heap.size ≤ w4.heap.size := b4.size
  clear b4
  obtain ⟨i0, hi0, hz0, hz1, hz2⟩ := info_parts info_u8
  have OWN0 := Lib.hid (show ((w4.alloc (.cells #[.int .u32 4096, .int .u32 256, .int .u32 2147483648, .int .u32 128, .slice none 0 0] 92)).alloc (.cells #[] 5)).ownsRow (w4.heap.size + 1) 5 1 (.slice (some ⟨w4.heap.size + 1, 0, none⟩) 0 0) 0 [] by
    have := own_empty (w4.alloc (.cells #[.int .u32 4096, .int .u32 256, .int .u32 2147483648, .int .u32 128, .slice none 0 0] 92)) (w4.heap.size + 1) (by simp)
    rw [show (w4.alloc (.cells #[.int .u32 4096, .int .u32 256, .int .u32 2147483648, .int .u32 128, .slice none 0 0] 92)).heap.size = w4.heap.size + 1 by simp] at this
    exact this)
  have B5 := Lib.hid ((B4.out.alloc B4.out.size (.cells #[.int .u32 4096, .int .u32 256, .int .u32 2147483648, .int .u32 128, .slice none 0 0] 92)).alloc (by have := B4.out.size; simp; omega) (.cells #[] 5))
  have X5 := Lib.hid (new_ref (w4 := w4) (f := 4096) (n1 := 256) (r := 2147483648) (n2 := 128))
  have X6 := Lib.hid (X5.out.out (Out.of_below (fun _ => False) ((Below.refl _ _).alloc (Nat.le_refl _) (.cells #[] 5))) id (fun _ _ => id))
  have M5 := Lib.hid (M4.out.out (Out.of_below (fun _ => False) (((Below.refl _ _).alloc (Nat.le_refl _) (.cells #[.int .u32 4096, .int .u32 256, .int .u32 2147483648, .int .u32 128, .slice none 0 0] 92)).alloc (by simp) (.cells #[] 5))) id id id)
  have NEWS := Lib.hid (news_of (w' := (w4.alloc (.cells #[.int .u32 4096, .int .u32 256, .int .u32 2147483648, .int .u32 128, .slice none 0 0] 92)).alloc (.cells #[] 5)) CEL.out (fun k => B5.out.cell (p := ⟨b, k, none⟩) hb))
  have ONEC := Lib.hid (one_cell t)
  have LNM := Lib.hid (show (t.map u8v).length = 100 * 1 by rw [List.length_map, HN.out, Nat.mul_one])
  have MX := Lib.hid (show 0 + 100 ≤ maxLen by have := HNL.out; unfold maxLen; omega)
  have MXB := Lib.hid (show (0 + 100) * 1 ≤ 140737488355328 by have := HNL.out; omega)
  have SZ := Lib.hid (show w4.heap.size + 1 ≤ ((w4.alloc (.cells #[.int .u32 4096, .int .u32 256, .int .u32 2147483648, .int .u32 128, .slice none 0 0] 92)).alloc (.cells #[] 5)).heap.size by simp)
  go_wp2_with (at_builtin; (refine wpList_append_own _ rfl (.tmp 21) (.tmp 22) 45 rfl (w4.heap.size + 1) 5 i0 (.int .u8 0) 1 1 Try.underlying45 hi0 hz0 hz1 hz2 rfl (by decide) (.slice (some ⟨w4.heap.size + 1, 0, none⟩) 0 0) 0 [] rfl OWN0.out ⟨b, off, none⟩ 100 c (t.map u8v) rfl LNM.out NEWS.out ONEC.out MX.out MXB.out SZ.out ?_; intro v1 w7 hown hgrow hn7; obtain ⟨g, cc, rfl, hgX, hgl, hcl⟩ := own_put hown HN.out HNL.out.1; have CW := Lib.hid hcl; have B7 := Lib.hid (below_grownM B5.out hgrow (fun k hk => by cases hk; have := B4.out.size; show w.heap.size ≤ w4.heap.size + 1; omega)); have O7 := Lib.hid (show Out (· = w4.heap.size + 1) _ w7 from Out.of_grown hgrow (fun k hk => by cases hk; rfl)); clear hown hgrow hn7 hcl))
  obtain ⟨X, hX⟩ : ∃ X, w4.heap.size = X := ⟨_, rfl⟩
  have M7 := Lib.hid (M5.out.out O7.out (by omega) (by omega) (by omega))
  have X7 := Lib.hid (X6.out.out O7.out (by show ¬ w4.heap.size = w4.heap.size + 1; omega) (fun _ h => by cases h))
  clear O7 X6 X5 M5 B5 OWN0
  rw [hX] at hz4 X7
  rw [hX] at hgX
  have HNL2 := Lib.hid (show 0 < t.length ∧ t.length ≤ 100 by rw [HN.out]; exact HNL.out)
  obtain ⟨pr1, pr2, pr3⟩ := put_ram HNL2.out.1 (by have := HNL2.out; omega)
  have PM := Lib.hid (MemIs.put M7.out banks_mapM 2147483648 t (by decide) HNL2.out.1 (by have := HNL2.out; omega) T256.out ⟨g, 0, none⟩ cc (src_of (b := g) (off := 0) (W := w7) CW.out))
  have PR := Lib.hid (show wIn 4096 256 2147483648 128 2147483648 t.length = true ∧ putF 4096 256 (noughts 256) 2147483648 t = noughts 256 ∧ putRm 4096 256 2147483648 128 (noughts 128) 2147483648 t = setB (noughts 128) 0 t from ⟨pr3, pr1, pr2⟩)
  clear pr1 pr2 pr3
  have P2 := PM.out
  rw [HN.out] at P2
  refine P2.mono ?_
  clear P2 PM
  rintro e w8 ⟨rfl, m8, o8⟩
  have M8 := Lib.hid (show MemIs M F R 4096 2147483648 (noughts 256) (setB (noughts 128) 0 t) w8 by
    have := m8
    rw [show (noughts 256).length = 256 from noughts_lenM _, show (noughts 128).length = 128 from noughts_lenM _, PR.out.2.1, PR.out.2.2] at this
    exact this)
  have X8 := Lib.hid (X7.out.out o8 (by rintro (h | h) <;> omega) (fun _ h => by cases h))
  have B8 := Lib.hid (show Below w.heap.size w w8 from o8.below B7.out (Nat.le_refl _) (by rintro j (h | h) <;> omega))
  clear m8 o8 M7 X7 CW
  go_wp2_with fail
  have AGR : Agree 4096 2147483648 (noughts 256) (setB (noughts 128) 0 t) (logP 4096 256 2147483648 128 [] 2147483648 t) := by
    have := agree_put (new_agree (f := 4096) (r := 2147483648) (n1 := 256) (n2 := 128)) (.inl (by rw [noughts_lenM]; omega)) 2147483648 t
    rw [show (noughts 256).length = 256 from noughts_lenM _, show (noughts 128).length = 128 from noughts_lenM _, PR.out.2.1, PR.out.2.2] at this
    exact this
  have LGR : (logP 4096 256 2147483648 128 [] 2147483648 t).length ≤ t.length := by
    unfold logP
    rw [if_pos PR.out.1]
    simp [writes_length]
  have PX := rput_any X8.out banks_mapM 2147483648 (by decide) t b off c HNL2.out.1 (by have := HNL2.out; omega) T256.out (by have := HNL2.out; simp; omega) (src_of' (fun k hk => (B8.out.cell (p := ⟨b, off + k, none⟩) hb).trans (CEL.out k hk))) (by rintro (h | h); omega; cases h)
  rw [HN.out] at PX
  refine PX.mono ?_
  clear PX
  rintro e w9 ⟨rfl, v', h9, o9, f9⟩
  have X9 := Lib.hid h9
  have M9 := Lib.hid (M8.out.out o9 (by rintro (h | h); omega; cases h) (by rintro (h | h); omega; cases h) (by rintro (h | h); omega; cases h))
  have B9 := Lib.hid (show Below w.heap.size w w9 from o9.below B8.out (Nat.le_refl _) (by rintro j (h | h); have := M9.out; omega; cases h))
  clear h9 o9 f9
  go_wp2_with fail
  go_ret2
  refine ⟨M, F, R, X, rfl, { m := M9.out, x := ⟨_, v', X9.out, AGR, LGR⟩, lo := ⟨q1, q2, q3⟩, hi := by omega, b := B9.out }⟩
theorem mems_any (a : Option Addr) (c : Nat) (l : List Nat) (w : World) (hl : SliceIn w a l c) :
    Calls Try.prog 21 #[.slice a l.length c] w (MemsPost w (l.take 100)) := by
  obtain ⟨h256, hc, hcm, ⟨rfl, rfl, rfl⟩ | ⟨⟨x, rfl⟩, rfl⟩ | ⟨b, off, rfl, hb, hcs⟩⟩ := hl
  · exact mems_none w
  · exact mems_some x c w
  · by_cases h0 : l = []
    · subst h0; exact mems_some _ c w
    · have hp : 0 < l.length := List.length_pos_iff.2 h0
      by_cases h : 100 < l.length
      · refine mems_long b off c l (l.take 100) w rfl h hc hb (fun x hx => h256 x (List.mem_of_mem_take hx)) (fun k hk => ?_)
        have hk' : k < 100 ∧ k < l.length := by simp at hk; omega
        rw [hcs k hk'.2]
        simp [List.getD, hk'.1]
      · have e : l.take 100 = l := List.take_of_length_le (by omega)
        rw [e]
        exact mems_few b off c l.length l w rfl hp (by omega) hc hb h256 hcs
end Go.Proofs.Ytghclbeoabkgcaa
