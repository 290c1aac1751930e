/- Package mem over any bytes: Put, Get. -/
import Derived.Test.YtghclbeoabkgcaaMemH
namespace Go.Proofs.Ytghclbeoabkgcaa
open Go Go.RowKit
set_option linter.unusedVariables false

set_option maxHeartbeats 1000000 in
theorem mput_nil (M : Nat) (a : Int) (ad : Option Addr) (cc : Nat) (W : World) :
    Calls Try.prog 50 #[.pointer (some ⟨M, 0, none⟩), .int .u32 a, .slice ad 0 cc] W fun e w' => e = .returned (.bool true) ∧ LikeG W w' := by
  go_enter Try.func50, Try.ntmps50
  go_wp2_with fail
  go_ret
  exact ⟨rfl, .refl _⟩
set_option maxHeartbeats 1000000 in
theorem mput_out (M a n : Nat) (ad : Option Addr) (cc : Nat) (W : World) (h0 : 0 < n) (hn : n < 9223372036854775808) (sl : Value)
    (hw : Calls Try.prog 78 #[.pointer (some ⟨M, 0, none⟩), .int .u32 (a : Nat), .int .i64 (n : Nat)] W fun e w' => e = .returned (.tuple #[sl, .bool false]) ∧ LikeG W w') :
    Calls Try.prog 50 #[.pointer (some ⟨M, 0, none⟩), .int .u32 (a : Nat), .slice ad n cc] W fun e w' => e = .returned (.bool false) ∧ LikeG W w' := by
  have t : ((n : Int) == 0) = false := by simp; omega
  have HW := Lib.hid hw
  clear hw
  go_enter Try.func50, Try.ntmps50
  go_wp2_with fail
  refine HW.out.mono ?_
  rintro e w1 ⟨rfl, hl⟩
  go_wp2_with fail
  go_ret
  exact ⟨rfl, hl⟩
theorem Out.of_set {W : World} {G : Nat} (cs : Array Value) : Out (· = G) W (W.setRow G cs) := ⟨rfl, rfl, rfl, by simp [World.setRow], fun k _ hk => setRow_other _ G k _ (fun e => hk e)⟩
set_option maxRecDepth 100000 in
set_option maxHeartbeats 1000000 in
theorem mput_in (M G o c a n : Nat) (l bs : List Nat) (ad : Addr) (cc : Nat) (W : World) (hlen : bs.length = n) (h0 : 0 < n) (hn : n < 9223372036854775808)
    (hw : Calls Try.prog 78 #[.pointer (some ⟨M, 0, none⟩), .int .u32 (a : Nat), .int .i64 (n : Nat)] W fun e w' => e = .returned (.tuple #[.slice (some ⟨G, o, none⟩) n c, .bool true]) ∧ LikeG W w')
    (hG : W.heap[G]? = some (.cells (rowG l) 5 (0, 0))) (ho : o + n ≤ l.length) (src : ∀ j u, (bs.map u8G)[j]? = some u → W.cell? (ad.add j) = some u) :
    Calls Try.prog 50 #[.pointer (some ⟨M, 0, none⟩), .int .u32 (a : Nat), .slice (some ad) n cc] W fun e w' => e = .returned (.bool true) ∧ w'.heap[G]? = some (.cells (rowG (setB l o bs)) 5 (0, 0)) ∧ Out (· = G) W w' := by
  have t : ((n : Int) == 0) = false := by simp; omega
  have HW := Lib.hid hw
  have HG := Lib.hid hG
  have HS := Lib.hid src
  have HL := Lib.hid (show (bs.map u8G).length = Nat.min n n by rw [List.length_map, hlen]; exact (Nat.min_self n).symm)
  have HF := Lib.hid (show o + (bs.map u8G).length ≤ (rowG l).size by rw [rowG_size, List.length_map, hlen]; exact ho)
  have HONE := Lib.hid (u8G_one bs)
  have HROW := Lib.hid (rowG_set l o bs)
  generalize hcs : bs.map u8G = cs at *
  generalize hrw : rowG l = rw0 at *
  clear hw hG src hlen ho hcs hrw
  go_enter Try.func50, Try.ntmps50
  go_wp2_with fail
  refine HW.out.mono ?_
  rintro e w1 ⟨rfl, hl⟩
  have HGL := Lib.hid (show w1.heap[G]? = some (.cells rw0 5 (0, 0)) by rw [hl.1]; exact HG.out)
  have HSL := Lib.hid (show ∀ j u, cs[j]? = some u → w1.cell? (ad.add j) = some u from fun j u hj => (hl.cell _).trans (HS.out j u hj))
  have HO := Lib.hid (hl.out (· = G))
  clear hl HW HG HS
  go_wp2_with (with_reducible refine wpList_copy_own rfl (.tmp 24) (.tmp 25) 45 45 rfl 5 Try.underlying45 (by kernel_rfl) G o n c ad n cc rfl rfl rw0 5 HGL.out cs HL.out HSL.out HF.out HONE.out ?_)
  go_ret
  refine ⟨rfl, ?_, HO.out.trans (.of_set _)⟩
  rw [← HROW.out]
  exact setRow_heap _ G _ _ _ _ HGL.out
/-- both banks behind a Put -/
def putF (f n1 : Nat) (Fb : List Nat) (a : Nat) (bs : List Nat) : List Nat := if inB f n1 a bs.length then setB Fb (a - f) bs else Fb
def putRm (f n1 r n2 : Nat) (Rb : List Nat) (a : Nat) (bs : List Nat) : List Nat := if inB f n1 a bs.length then Rb else if inB r n2 a bs.length then setB Rb (a - r) bs else Rb
theorem MemIs.put {M F R f r : Nat} {Fb Rb : List Nat} {W : World} (h : MemIs M F R f r Fb Rb W) (hb : Banks f Fb.length r Rb.length) (a : Nat) (bs : List Nat) (ha : a < 4294967296) (h0 : 0 < bs.length) (hn : bs.length < 9223372036854775808) (h256 : ∀ x ∈ bs, x < 256) (ad : Addr) (cc : Nat)
    (src : ∀ j u, (bs.map u8G)[j]? = some u → W.cell? (ad.add j) = some u) :
    Calls Try.prog 50 #[.pointer (some ⟨M, 0, none⟩), .int .u32 (a : Nat), .slice (some ad) bs.length cc] W fun e w' => e = .returned (.bool (wIn f Fb.length r Rb.length a bs.length)) ∧
      MemIs M F R f r (putF f Fb.length Fb a bs) (putRm f Fb.length r Rb.length Rb a bs) w' ∧ Out (fun j => j = F ∨ j = R) W w' := by
  have hw := within_any h hb a bs.length ha h0 hn
  unfold wSl wIn at hw
  unfold putF putRm wIn
  by_cases h1 : inB f Fb.length a bs.length = true
  · have g := inB_out h1
    simp only [h1, if_true, Bool.true_or] at hw ⊢
    refine (mput_in M F (a - f) _ a bs.length Fb bs ad cc W rfl h0 hn hw h.hF (by omega) src).mono ?_
    rintro e w' ⟨rfl, k1, k2⟩
    have sl := setB_length Fb (a - f) bs (by omega)
    refine ⟨rfl, { c0 := ?_, c2 := ?_, c4 := ?_, c5 := ?_, hF := k1, hR := ?_, fF := setB_all h.fF h256, fR := h.fR, mF := h.mF, mR := h.mR, fr := h.fr }, k2.mono fun j hj => .inl hj⟩
    · exact (k2.cell (p := ⟨M, 0, none⟩) (World.block_lt_of_cell? W _ h.c0) h.mF).trans h.c0
    · exact (k2.cell (p := ⟨M, 2, none⟩) (World.block_lt_of_cell? W _ h.c2) h.mF).trans h.c2
    · rw [sl]; exact (k2.cell (p := ⟨M, 4, none⟩) (World.block_lt_of_cell? W _ h.c4) h.mF).trans h.c4
    · exact (k2.cell (p := ⟨M, 5, none⟩) (World.block_lt_of_cell? W _ h.c5) h.mF).trans h.c5
    · exact (k2.block R (Array.getElem?_eq_some_iff.1 h.hR).1 (fun e => h.fr e.symm)).trans h.hR
  · by_cases h2 : inB r Rb.length a bs.length = true
    · have g := inB_out h2
      simp only [h1, h2, if_true, Bool.or_true, Bool.false_eq_true, if_false] at hw ⊢
      refine (mput_in M R (a - r) _ a bs.length Rb bs ad cc W rfl h0 hn hw h.hR (by omega) src).mono ?_
      rintro e w' ⟨rfl, k1, k2⟩
      exact ⟨rfl, h.stored k2 k1 (setB_length _ _ _ (by omega)) (setB_all h.fR h256), k2.mono fun j hj => .inr hj⟩
    · simp only [h1, h2, Bool.or_self, Bool.false_eq_true, if_false] at hw ⊢
      refine (mput_out M a bs.length (some ad) cc W h0 hn _ hw).mono ?_
      rintro e w' ⟨rfl, k⟩
      exact ⟨rfl, h.like k, k.out _⟩

theorem info_u8U : (Try.prog.info? 5).map (fun i => (i.zero, i.size, i.bytes)) = some (some (.int .u8 0), 1, 1) := by kernel_rfl
end Go.Proofs.Ytghclbeoabkgcaa
