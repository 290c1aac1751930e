/- Package mem over any bytes: Put, Get. -/
import Derived.Test.YtnkfdpkcnfefeaaMemH
namespace Go.Proofs.Ytnkfdpkcnfefeaa
open Go Go.RowKit
set_option linter.unusedVariables false

set_option maxHeartbeats 1000000 in
theorem mput_nil (M : Nat) (a : Int) (ad : Option Addr) (cc : Nat) (W : World) :
    Calls Try.prog 26 #[.pointer (some ⟨M, 0, none⟩), .int .u32 a, .slice ad 0 cc] W fun e w' => e = .returned (.bool true) ∧ LikeG W w' := by
  go_enter Try.func26, Try.ntmps26
  go_wp2_with fail
  go_ret
  exact ⟨rfl, .refl _⟩
set_option maxHeartbeats 1000000 in
theorem mput_out (M a n : Nat) (ad : Option Addr) (cc : Nat) (W : World) (h0 : 0 < n) (hn : n < 9223372036854775808) (sl : Value)
    (hw : Calls Try.prog 18 #[.pointer (some ⟨M, 0, none⟩), .int .u32 (a : Nat), .int .i64 (n : Nat)] W fun e w' => e = .returned (.tuple #[sl, .bool false]) ∧ LikeG W w') :
    Calls Try.prog 26 #[.pointer (some ⟨M, 0, none⟩), .int .u32 (a : Nat), .slice ad n cc] W fun e w' => e = .returned (.bool false) ∧ LikeG W w' := by
  have t : ((n : Int) == 0) = false := by simp; omega
  have HW := Lib.hid hw
  clear hw
  go_enter Try.func26, Try.ntmps26
  go_wp2_with fail
  refine HW.out.mono ?_
  rintro e w1 ⟨rfl, hl⟩
  go_wp2_with fail
  go_ret
  exact ⟨rfl, hl⟩
theorem Out.of_set {W : World} {G : Nat} (cs : Array Value) : Out (· = G) W (W.setRow G cs) := ⟨rfl, rfl, rfl, by simp [World.setRow], fun k _ hk => setRow_other _ G k _ (fun e => hk e)⟩
set_option maxRecDepth 100000 in
set_option maxHeartbeats 1000000 in
theorem mput_in (M G o c a n : Nat) (l bs : List Nat) (ad : Addr) (cc : Nat) (W : World) (hlen : bs.length = n) (h0 : 0 < n) (hn : n < 9223372036854775808)
    (hw : Calls Try.prog 18 #[.pointer (some ⟨M, 0, none⟩), .int .u32 (a : Nat), .int .i64 (n : Nat)] W fun e w' => e = .returned (.tuple #[.slice (some ⟨G, o, none⟩) n c, .bool true]) ∧ LikeG W w')
    (hG : W.heap[G]? = some (.cells (rowG l) 5 (0, 0))) (ho : o + n ≤ l.length) (src : ∀ j u, (bs.map u8G)[j]? = some u → W.cell? (ad.add j) = some u) :
    Calls Try.prog 26 #[.pointer (some ⟨M, 0, none⟩), .int .u32 (a : Nat), .slice (some ad) n cc] W fun e w' => e = .returned (.bool true) ∧ w'.heap[G]? = some (.cells (rowG (setB l o bs)) 5 (0, 0)) ∧ Out (· = G) W w' := by
  have t : ((n : Int) == 0) = false := by simp; omega
  have HW := Lib.hid hw
  have HG := Lib.hid hG
  have HS := Lib.hid src
  have HL := Lib.hid (show (bs.map u8G).length = Nat.min n n by rw [List.length_map, hlen]; exact (Nat.min_self n).symm)
  have HF := Lib.hid (show o + (bs.map u8G).length ≤ (rowG l).size by rw [rowG_size, List.length_map, hlen]; exact ho)
  have HONE := Lib.hid (u8G_one bs)
  have HROW := Lib.hid (rowG_set l o bs)
  generalize hcs : bs.map u8G = cs at *
  generalize hrw : rowG l = rw0 at *
  clear hw hG src hlen ho hcs hrw
  go_enter Try.func26, Try.ntmps26
  go_wp2_with fail
  refine HW.out.mono ?_
  rintro e w1 ⟨rfl, hl⟩
  have HGL := Lib.hid (show w1.heap[G]? = some (.cells rw0 5 (0, 0)) by rw [hl.1]; exact HG.out)
  have HSL := Lib.hid (show ∀ j u, cs[j]? = some u → w1.cell? (ad.add j) = some u from fun j u hj => (hl.cell _).trans (HS.out j u hj))
  have HO := Lib.hid (hl.out (· = G))
  clear hl HW HG HS
  go_wp2_with (with_reducible refine wpList_copy_own rfl (.tmp 24) (.tmp 25) 43 43 rfl 5 Try.underlying43 (by kernel_rfl) G o n c ad n cc rfl rfl rw0 5 HGL.out cs HL.out HSL.out HF.out HONE.out ?_)
  go_ret
  refine ⟨rfl, ?_, HO.out.trans (.of_set _)⟩
  rw [← HROW.out]
  exact setRow_heap _ G _ _ _ _ HGL.out
/-- both banks behind a Put -/
def putF (f n1 : Nat) (Fb : List Nat) (a : Nat) (bs : List Nat) : List Nat := if inB f n1 a bs.length then setB Fb (a - f) bs else Fb
def putR (f n1 r n2 : Nat) (Rb : List Nat) (a : Nat) (bs : List Nat) : List Nat := if inB f n1 a bs.length then Rb else if inB r n2 a bs.length then setB Rb (a - r) bs else Rb
theorem MemIs.put {M F R f r : Nat} {Fb Rb : List Nat} {W : World} (h : MemIs M F R f r Fb Rb W) (hb : Banks f Fb.length r Rb.length) (a : Nat) (bs : List Nat) (ha : a < 4294967296) (h0 : 0 < bs.length) (hn : bs.length < 9223372036854775808) (h256 : ∀ x ∈ bs, x < 256) (ad : Addr) (cc : Nat)
    (src : ∀ j u, (bs.map u8G)[j]? = some u → W.cell? (ad.add j) = some u) :
    Calls Try.prog 26 #[.pointer (some ⟨M, 0, none⟩), .int .u32 (a : Nat), .slice (some ad) bs.length cc] W fun e w' => e = .returned (.bool (wIn f Fb.length r Rb.length a bs.length)) ∧
      MemIs M F R f r (putF f Fb.length Fb a bs) (putR f Fb.length r Rb.length Rb a bs) w' ∧ Out (fun j => j = F ∨ j = R) W w' := by
  have hw := within_any h hb a bs.length ha h0 hn
  unfold wSl wIn at hw
  unfold putF putR wIn
  by_cases h1 : inB f Fb.length a bs.length = true
  · have g := inB_out h1
    simp only [h1, if_true, Bool.true_or] at hw ⊢
    refine (mput_in M F (a - f) _ a bs.length Fb bs ad cc W rfl h0 hn hw h.hF (by omega) src).mono ?_
    rintro e w' ⟨rfl, k1, k2⟩
    have sl := setB_length Fb (a - f) bs (by omega)
    refine ⟨rfl, { c0 := ?_, c2 := ?_, c4 := ?_, c5 := ?_, hF := k1, hR := ?_, fF := setB_all h.fF h256, fR := h.fR, mF := h.mF, mR := h.mR, fr := h.fr }, k2.mono fun j hj => .inl hj⟩
    · exact (k2.cell (p := ⟨M, 0, none⟩) (World.block_lt_of_cell? W _ h.c0) h.mF).trans h.c0
    · exact (k2.cell (p := ⟨M, 2, none⟩) (World.block_lt_of_cell? W _ h.c2) h.mF).trans h.c2
    · rw [sl]; exact (k2.cell (p := ⟨M, 4, none⟩) (World.block_lt_of_cell? W _ h.c4) h.mF).trans h.c4
    · exact (k2.cell (p := ⟨M, 5, none⟩) (World.block_lt_of_cell? W _ h.c5) h.mF).trans h.c5
    · exact (k2.block R (Array.getElem?_eq_some_iff.1 h.hR).1 (fun e => h.fr e.symm)).trans h.hR
  · by_cases h2 : inB r Rb.length a bs.length = true
    · have g := inB_out h2
      simp only [h1, h2, if_true, Bool.or_true, Bool.false_eq_true, if_false] at hw ⊢
      refine (mput_in M R (a - r) _ a bs.length Rb bs ad cc W rfl h0 hn hw h.hR (by omega) src).mono ?_
      rintro e w' ⟨rfl, k1, k2⟩
      exact ⟨rfl, h.stored k2 k1 (setB_length _ _ _ (by omega)) (setB_all h.fR h256), k2.mono fun j hj => .inr hj⟩
    · simp only [h1, h2, Bool.or_self, Bool.false_eq_true, if_false] at hw ⊢
      refine (mput_out M a bs.length (some ad) cc W h0 hn _ hw).mono ?_
      rintro e w' ⟨rfl, k⟩
      exact ⟨rfl, h.like k, k.out _⟩

theorem info_u8U : (Try.prog.info? 5).map (fun i => (i.zero, i.size, i.bytes)) = some (some (.int .u8 0), 1, 1) := by kernel_rfl
set_option maxHeartbeats 1000000 in
theorem mget_neg (M : Nat) (a n : Int) (W : World) (hn : n < 0) :
    Calls Try.prog 34 #[.pointer (some ⟨M, 0, none⟩), .int .u32 a, .int .i64 n] W fun e w' => e = .returned (.tuple #[.slice none 0 0, .bool false]) ∧ LikeG W w' := by
  have t : decide (n < 0) = true := by simp; omega
  go_enter Try.func34, Try.ntmps34
  go_wp2_with fail
  go_ret2
  exact ⟨rfl, .refl _⟩
set_option maxHeartbeats 1000000 in
theorem mget_zero (M : Nat) (a : Int) (W : World) :
    Calls Try.prog 34 #[.pointer (some ⟨M, 0, none⟩), .int .u32 a, .int .i64 0] W fun e w' => e = .returned (.tuple #[.slice none 0 0, .bool true]) ∧ LikeG W w' := by
  go_enter Try.func34, Try.ntmps34
  go_wp2_with fail
  go_ret2
  exact ⟨rfl, .refl _⟩
set_option maxHeartbeats 1000000 in
theorem mget_out (M a n : Nat) (W : World) (h0 : 0 < n) (hn : n < 9223372036854775808) (sl : Value)
    (hw : Calls Try.prog 18 #[.pointer (some ⟨M, 0, none⟩), .int .u32 (a : Nat), .int .i64 (n : Nat)] W fun e w' => e = .returned (.tuple #[sl, .bool false]) ∧ LikeG W w') :
    Calls Try.prog 34 #[.pointer (some ⟨M, 0, none⟩), .int .u32 (a : Nat), .int .i64 (n : Nat)] W fun e w' => e = .returned (.tuple #[.slice none 0 0, .bool false]) ∧ LikeG W w' := by
  have t : ((n : Int) == 0) = false := by simp; omega
  have HW := Lib.hid hw
  clear hw
  go_enter Try.func34, Try.ntmps34
  go_wp2_with fail
  refine HW.out.mono ?_
  rintro e w1 ⟨rfl, hl⟩
  go_wp2_with fail
  go_ret2
  exact ⟨rfl, hl⟩
set_option maxRecDepth 100000 in
set_option maxHeartbeats 1000000 in
theorem mget_in (M G o c a n : Nat) (l : List Nat) (W : World) (h0 : 0 < n) (hn : n ≤ 1048576)
    (hw : Calls Try.prog 18 #[.pointer (some ⟨M, 0, none⟩), .int .u32 (a : Nat), .int .i64 (n : Nat)] W fun e w' => e = .returned (.tuple #[.slice (some ⟨G, o, none⟩) n c, .bool true]) ∧ LikeG W w')
    (hG : W.heap[G]? = some (.cells (rowG l) 5 (0, 0))) (ho : o + n ≤ l.length) :
    Calls Try.prog 34 #[.pointer (some ⟨M, 0, none⟩), .int .u32 (a : Nat), .int .i64 (n : Nat)] W fun e w' => ∃ g, e = .returned (.tuple #[.slice (some ⟨g, 0, none⟩) n n, .bool true]) ∧ w'.heap[g]? = some (.cells (rowG ((l.drop o).take n)) 5 (0, 0)) ∧ W.heap.size ≤ g ∧ Below W.heap.size W w' := by
  have t : ((n : Int) == 0) = false := by simp; omega
  have hm1 := fun W => run_make_row' (P := Try.prog) 43 5 (.int .u8 0) 1 Try.underlying43 info_u8U rfl .i64 .i64 n (by omega) (by omega) W
  have HW := Lib.hid hw
  have HG := Lib.hid hG
  have hl2 : (((l.drop o).take n).map u8G).length = n := by rw [List.length_map, List.length_take, List.length_drop]; omega
  have HL := Lib.hid (show (((l.drop o).take n).map u8G).length = Nat.min n n by rw [hl2]; exact (Nat.min_self n).symm)
  have HF := Lib.hid (show 0 + (((l.drop o).take n).map u8G).length ≤ (madeCells #[Value.int .u8 0] n).size by rw [hl2, size_madeCells]; omega)
  have HR := Lib.hid (show (((l.drop o).take n).map u8G ++ (madeCells #[Value.int .u8 0] n).toList.drop (((l.drop o).take n).map u8G).length).toArray = rowG ((l.drop o).take n) by
    rw [hl2, List.drop_eq_nil_of_le (show (madeCells #[Value.int .u8 0] n).toList.length ≤ n by rw [Array.length_toList, size_madeCells]; omega)]
    simp [rowG])
  have HONE := Lib.hid (u8G_one ((l.drop o).take n))
  have HCS := Lib.hid (show ∀ j u, (((l.drop o).take n).map u8G)[j]? = some u → (rowG l)[o + j]? = some u from fun j u hj => by
    rw [List.getElem?_map, List.getElem?_take] at hj
    split at hj
    · rw [List.getElem?_drop] at hj
      simpa [rowG] using hj
    · cases hj)
  generalize hcs : ((l.drop o).take n).map u8G = cs at *
  generalize hmd : madeCells #[Value.int .u8 0] n = md at *
  clear hw hG hl2 hcs hmd
  go_enter Try.func34, Try.ntmps34
  go_wp2_with fail
  refine HW.out.mono ?_
  rintro e w1 ⟨rfl, hl⟩
  have hgs : w1.heap.size = W.heap.size := by rw [hl.1]
  have HGL := Lib.hid (show w1.heap[G]? = some (.cells (rowG l) 5 (0, 0)) by rw [hl.1]; exact HG.out)
  have HGA := Lib.hid (show (w1.alloc (.cells md 5)).heap[w1.heap.size]? = some (.cells md 5 (0, 0)) from heap_alloc_new _ _)
  have HSL := Lib.hid (show ∀ j u, cs[j]? = some u → (w1.alloc (.cells md 5)).cell? ((⟨G, o, none⟩ : Addr).add j) = some u from fun j u hj => by
    have e : (⟨G, o, none⟩ : Addr).add j = ⟨G, o + j, none⟩ := by unfold Addr.add; split <;> simp_all
    rw [e, World.cell?_alloc_past _ _ _ (Array.getElem?_eq_some_iff.1 HGL.out).1, cell_of_row w1 G (o + j) _ _ _ HGL.out]
    exact HCS.out j u hj)
  have HO := Lib.hid (show Below W.heap.size W w1 from hl.below)
  have HGS := Lib.hid hgs
  clear hl HW HG hgs
  go_wp2_with (with_reducible refine wpList_copy_own rfl (.tmp 30) (.tmp 31) 43 43 rfl 5 Try.underlying43 (by kernel_rfl) w1.heap.size 0 n n ⟨G, o, none⟩ n c rfl rfl md 5 HGA.out cs HL.out HSL.out HF.out HONE.out ?_)
  go_ret2
  refine ⟨w1.heap.size, rfl, ?_, by rw [HGS.out]; exact Nat.le_refl _, below_setRow (HO.out.alloc (by rw [HGS.out]; exact Nat.le_refl _) _) (by rw [HGS.out]; exact Nat.le_refl _) _⟩
  rw [← HR.out]
  exact setRow_heap _ _ _ _ _ _ HGA.out
end Go.Proofs.Ytnkfdpkcnfefeaa
