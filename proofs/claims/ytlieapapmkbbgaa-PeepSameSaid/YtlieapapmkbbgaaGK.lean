/- Slices of bytes that come in, and that a call itself owns. -/
import Derived.ProofKit
import Derived.WideShapes
import Derived.ChangeSlices
import Derived.OpenShut
import Derived.OwnWalk
import Derived.Deep.OwnRows
import Derived.Lib.Hide
import Derived.Test.YtlieapapmkbbgaaProg
import Derived.Test.YtlieapapmkbbgaaGC
import Derived.Deep.AppendLies
import Derived.StillTailTactics
import Derived.Deep.RegionHeld3
import Derived.WalkSpells
import Derived.WalkSmall
import Derived.Handy
import Derived.BigQuiet
import Derived.Laws.StructEq
import Derived.Deep.QuietTactic
import Derived.Laws.CopyOwn
import Derived.Test.YtlieapapmkbbgaaGA
namespace Go.Proofs.Ytlieapapmkbbgaa
open Go Go.RowKit Go.ChangeShapes Go.WideShapes
set_option linter.unusedVariables false

theorem info_u8 : (Try.prog.info? 5).map (fun i => (i.zero, i.size, i.bytes)) = some (some (.int .u8 0), 1, 1) := by kernel_rfl
def u8v (x : Nat) : Value := .int .u8 (x : Int)
/-- bytes that the call itself owns -/
def OwnBytes (w : World) (base : Nat) (v : Value) (l : List Nat) : Prop := w.ownsRow base 5 1 v l.length (l.map u8v) ∧ (∀ x ∈ l, x < 256)
/-- a slice of bytes, with its spare room -/
def SliceIn (w : World) (a : Option Addr) (l : List Nat) (c : Nat) : Prop :=
  (∀ x ∈ l, x < 256) ∧ l.length ≤ c ∧ c ≤ 9223372036854775807 ∧
  ((a = none ∧ l = [] ∧ c = 0) ∨ ((∃ x, a = some x) ∧ l = []) ∨ ∃ b off, a = some ⟨b, off, none⟩ ∧ b < w.heap.size ∧ ∀ k, k < l.length → w.cell? ⟨b, off + k, none⟩ = some (.int .u8 (l.getD k 0 : Nat)))
theorem SliceIn.later {w w' : World} {a : Option Addr} {l : List Nat} {c : Nat} (h : SliceIn w a l c) (hb : Below w.heap.size w w') : SliceIn w' a l c := by
  obtain ⟨h1, h2, h3, h | h | ⟨b, off, rfl, hlt, hc⟩⟩ := h
  · exact ⟨h1, h2, h3, Or.inl h⟩
  · exact ⟨h1, h2, h3, Or.inr (Or.inl h)⟩
  · exact ⟨h1, h2, h3, Or.inr (Or.inr ⟨b, off, rfl, Nat.lt_of_lt_of_le hlt hb.size, fun k hk => (hb.cell hlt).trans (hc k hk)⟩)⟩
theorem own_at {w : World} {base : Nat} {v : Value} {l : List Nat} (h : OwnBytes w base v l) (hb : base ≤ w.heap.size) (hl : l.length ≤ 9223372036854775807) :
    ∃ a c, v = .slice a l.length c ∧ SliceIn w a l c := by
  obtain ⟨h, h256⟩ := h
  have hlt := h.lt
  have h' := h
  obtain ⟨_, ⟨hv, hn⟩ | ⟨g, cap, cur, hv, hg, hh, hc, hcm, _⟩⟩ := h
  · have : l = [] := by cases l with | nil => rfl | cons _ _ => simp at hn
    subst this
    exact ⟨none, 0, hv, h256, by simp, by omega, Or.inl ⟨rfl, rfl, rfl⟩⟩
  · refine ⟨some ⟨g, 0, none⟩, cap, hv, h256, hc, by unfold maxLen at hcm; omega, Or.inr (Or.inr ⟨g, 0, rfl, ?_, ?_⟩)⟩
    · exact (hlt g (by rw [hv]; rfl)).2
    · intro k hk
      have := h'.cells (g := g) (by rw [hv]; rfl) k (u8v (l.getD k 0)) (by simp [u8v, List.getD, hk])
      have e : (⟨g, 0, none⟩ : Addr).add k = ⟨g, 0 + k, none⟩ := by unfold Addr.add; split <;> simp_all
      rw [e] at this
      exact this
theorem own_empty (w : World) (base : Nat) (hb : base ≤ w.heap.size) : (w.alloc (.cells #[] 5)).ownsRow base 5 1 (.slice (some ⟨w.heap.size, 0, none⟩) 0 0) 0 [] :=
  ⟨rfl, Or.inr ⟨w.heap.size, 0, #[], rfl, hb, by show (w.heap.push _)[w.heap.size]? = _; simp, Nat.le_refl _, by simp [maxLen], rfl, rfl⟩⟩
theorem news_at {w : World} {b off : Nat} {l : List Nat} (hc : ∀ k, k < l.length → w.cell? ⟨b, off + k, none⟩ = some (.int .u8 (l.getD k 0 : Nat))) (m : Nat) (w' : World)
    (hw : ∀ k, w'.cell? ⟨b, k, none⟩ = w.cell? ⟨b, k, none⟩) : ∀ j u, ((l.take m).map u8v)[j]? = some u → w'.cell? ((⟨b, off, none⟩ : Addr).add j) = some u := by
  intro j u h
  have e : (⟨b, off, none⟩ : Addr).add j = ⟨b, off + j, none⟩ := by unfold Addr.add; split <;> simp_all
  rw [e, hw]
  simp only [List.getElem?_map, Option.map_eq_some_iff] at h
  obtain ⟨x, hx, rfl⟩ := h
  have hj : j < l.length := by
    rcases Nat.lt_or_ge j l.length with g | g
    · exact g
    · rw [List.getElem?_eq_none (by simp; omega)] at hx; cases hx
  rw [hc j hj]
  have : l[j]? = some x := by
    rw [List.getElem?_take] at hx
    split at hx
    · exact hx
    · cases hx
  simp [u8v, List.getD, this]
theorem one_cell (l : List Nat) : ∀ u ∈ l.map u8v, u.oneCell' = true := by
  intro u hu
  simp only [List.mem_map] at hu
  obtain ⟨x, _, rfl⟩ := hu
  rfl
/-- a slice of bytes that came in -/
theorem bytes_in {H : Type} {enc : TypeId × Value → H} {P : Program} {w : World} {r : Reach} {b base : Nat} {spare : Nat → Bool} {held : Bool} {t e : TypeId} {v : Value} {d : DataW H} {p : List MemPlace}
    (ht : P.underlying t = some (.slice e)) (he : P.underlying e = some (.int .u8)) (hc : P.cellsOf e = 1)
    (hv : Value.okWide P w r b t v) (h : DataW.Trod enc P w base spare held t v d p) :
    ∃ (a : Option Addr) (c : Nat) (l : List Nat), v = .slice a l.length c ∧ SliceIn w a l c := by
  obtain ⟨a, len, cap, rfl⟩ := okWide_slice ht hv
  obtain ⟨fuel, hf⟩ := h
  rcases open_ints ht he hc hf with ⟨hcs, _⟩ | ⟨x, n, c, zs, hcs, _, hl, hm, hz, _, hcell, hwz⟩
  · simp [Value.cells] at hcs
    obtain ⟨rfl, rfl, rfl⟩ := hcs
    exact ⟨none, 0, [], rfl, by simp, by simp, by omega, Or.inl ⟨rfl, rfl, rfl⟩⟩
  · simp [Value.cells] at hcs
    obtain ⟨rfl, rfl, rfl⟩ := hcs
    have hlen : len ≤ zs.length := by rw [hz]; split <;> omega
    have l1 : ((zs.take len).map Int.toNat).length = len := by simp; omega
    have pos : ∀ z ∈ zs, 0 ≤ z ∧ z < 256 := by
      intro z hz
      have : 0 ≤ z ∧ z ≤ 255 := by simpa [Lit.wf, IntKind.min, IntKind.max, IntKind.signed, IntKind.bits] using hwz z hz
      omega
    refine ⟨some x, cap, (zs.take len).map Int.toNat, by rw [l1], ?_, by rw [l1]; exact hl, by simpa [maxLen] using hm, ?_⟩
    · intro n hn
      simp only [List.mem_map] at hn
      obtain ⟨z, hz, rfl⟩ := hn
      have := pos z (List.mem_of_mem_take hz)
      omega
    · by_cases h0 : len = 0
      · subst h0
        exact Or.inr (Or.inl ⟨⟨x, rfl⟩, by simp⟩)
      · obtain ⟨bl, off, spot⟩ := x
        have c0 := hcell 0 (by omega)
        have hspot : spot = none := by simpa [Addr.add] using World.cell?_spot c0
        subst hspot
        have hb := block_lt_of_cell c0
        refine Or.inr (Or.inr ⟨bl, off, rfl, by simpa [Addr.add] using hb, ?_⟩)
        intro k hk
        rw [l1] at hk
        have ck := hcell k (by omega)
        have e1 : (⟨bl, off, none⟩ : Addr).add k = ⟨bl, off + k, none⟩ := by unfold Addr.add; split <;> simp_all
        rw [e1] at ck
        rw [ck]
        have hm : zs.getD k 0 ∈ zs := by
          simp only [List.getD, List.getElem?_eq_getElem (show k < zs.length by omega), Option.getD_some]
          exact List.getElem_mem _
        have hp := pos _ hm
        have e2 : ((zs.take len).map Int.toNat).getD k 0 = (zs.getD k 0).toNat := by
          simp [List.getD, hk, List.getElem?_eq_getElem (show k < zs.length by omega)]
        rw [e2]
        congr 2
        omega
end Go.Proofs.Ytlieapapmkbbgaa

namespace Go.Proofs.Ytlieapapmkbbgaa
open Go Go.RowKit
set_option linter.unusedVariables false

set_option maxHeartbeats 1000000 in
theorem mput_nil (M : Nat) (a : Int) (ad : Option Addr) (cc : Nat) (W : World) :
    Calls Try.prog 19 #[.pointer (some ⟨M, 0, none⟩), .int .u32 a, .slice ad 0 cc] W fun e w' => e = .returned (.bool true) ∧ LikeG W w' := by
  go_enter Try.func19, Try.ntmps19
  go_wp2_with fail
  go_ret
  exact ⟨rfl, .refl _⟩
set_option maxHeartbeats 1000000 in
theorem mput_out (M a n : Nat) (ad : Option Addr) (cc : Nat) (W : World) (h0 : 0 < n) (hn : n < 9223372036854775808) (sl : Value)
    (hw : Calls Try.prog 31 #[.pointer (some ⟨M, 0, none⟩), .int .u32 (a : Nat), .int .i64 (n : Nat)] W fun e w' => e = .returned (.tuple #[sl, .bool false]) ∧ LikeG W w') :
    Calls Try.prog 19 #[.pointer (some ⟨M, 0, none⟩), .int .u32 (a : Nat), .slice ad n cc] W fun e w' => e = .returned (.bool false) ∧ LikeG W w' := by
  have t : ((n : Int) == 0) = false := by simp; omega
  have HW := Lib.hid hw
  clear hw
  go_enter Try.func19, Try.ntmps19
  go_wp2_with fail
  refine HW.out.mono ?_
  rintro e w1 ⟨rfl, hl⟩
  go_wp2_with fail
  go_ret
  exact ⟨rfl, hl⟩
theorem Out.of_set {W : World} {G : Nat} (cs : Array Value) : Out (· = G) W (W.setRow G cs) := ⟨rfl, rfl, rfl, by simp [World.setRow], fun k _ hk => setRow_other _ G k _ (fun e => hk e)⟩
set_option maxRecDepth 100000 in
set_option maxHeartbeats 1000000 in
theorem mput_in (M G o c a n : Nat) (l bs : List Nat) (ad : Addr) (cc : Nat) (W : World) (hlen : bs.length = n) (h0 : 0 < n) (hn : n < 9223372036854775808)
    (hw : Calls Try.prog 31 #[.pointer (some ⟨M, 0, none⟩), .int .u32 (a : Nat), .int .i64 (n : Nat)] W fun e w' => e = .returned (.tuple #[.slice (some ⟨G, o, none⟩) n c, .bool true]) ∧ LikeG W w')
    (hG : W.heap[G]? = some (.cells (rowG l) 5 (0, 0))) (ho : o + n ≤ l.length) (src : ∀ j u, (bs.map u8G)[j]? = some u → W.cell? (ad.add j) = some u) :
    Calls Try.prog 19 #[.pointer (some ⟨M, 0, none⟩), .int .u32 (a : Nat), .slice (some ad) n cc] W fun e w' => e = .returned (.bool true) ∧ w'.heap[G]? = some (.cells (rowG (setB l o bs)) 5 (0, 0)) ∧ Out (· = G) W w' := by
  have t : ((n : Int) == 0) = false := by simp; omega
  have HW := Lib.hid hw
  have HG := Lib.hid hG
  have HS := Lib.hid src
  have HL := Lib.hid (show (bs.map u8G).length = Nat.min n n by rw [List.length_map, hlen]; exact (Nat.min_self n).symm)
  have HF := Lib.hid (show o + (bs.map u8G).length ≤ (rowG l).size by rw [rowG_size, List.length_map, hlen]; exact ho)
  have HONE := Lib.hid (u8G_one bs)
  have HROW := Lib.hid (rowG_set l o bs)
  generalize hcs : bs.map u8G = cs at *
  generalize hrw : rowG l = rw0 at *
  clear hw hG src hlen ho hcs hrw
  go_enter Try.func19, Try.ntmps19
  go_wp2_with fail
  refine HW.out.mono ?_
  rintro e w1 ⟨rfl, hl⟩
  have HGL := Lib.hid (show w1.heap[G]? = some (.cells rw0 5 (0, 0)) by rw [hl.1]; exact HG.out)
  have HSL := Lib.hid (show ∀ j u, cs[j]? = some u → w1.cell? (ad.add j) = some u from fun j u hj => (hl.cell _).trans (HS.out j u hj))
  have HO := Lib.hid (hl.out (· = G))
  clear hl HW HG HS
  go_wp2_with (with_reducible refine wpList_copy_own rfl (.tmp 24) (.tmp 25) 23 23 rfl 5 Try.underlying23 (by kernel_rfl) G o n c ad n cc rfl rfl rw0 5 HGL.out cs HL.out HSL.out HF.out HONE.out ?_)
  go_ret
  refine ⟨rfl, ?_, HO.out.trans (.of_set _)⟩
  rw [← HROW.out]
  exact setRow_heap _ G _ _ _ _ HGL.out
/-- both banks behind a Put -/
def putF (f n1 : Nat) (Fb : List Nat) (a : Nat) (bs : List Nat) : List Nat := if inB f n1 a bs.length then setB Fb (a - f) bs else Fb
def putRm (f n1 r n2 : Nat) (Rb : List Nat) (a : Nat) (bs : List Nat) : List Nat := if inB f n1 a bs.length then Rb else if inB r n2 a bs.length then setB Rb (a - r) bs else Rb
theorem MemIs.put {M F R f r : Nat} {Fb Rb : List Nat} {W : World} (h : MemIs M F R f r Fb Rb W) (hb : Banks f Fb.length r Rb.length) (a : Nat) (bs : List Nat) (ha : a < 4294967296) (h0 : 0 < bs.length) (hn : bs.length < 9223372036854775808) (h256 : ∀ x ∈ bs, x < 256) (ad : Addr) (cc : Nat)
    (src : ∀ j u, (bs.map u8G)[j]? = some u → W.cell? (ad.add j) = some u) :
    Calls Try.prog 19 #[.pointer (some ⟨M, 0, none⟩), .int .u32 (a : Nat), .slice (some ad) bs.length cc] W fun e w' => e = .returned (.bool (wIn f Fb.length r Rb.length a bs.length)) ∧
      MemIs M F R f r (putF f Fb.length Fb a bs) (putRm f Fb.length r Rb.length Rb a bs) w' ∧ Out (fun j => j = F ∨ j = R) W w' := by
  have hw := within_any h hb a bs.length ha h0 hn
  unfold wSl wIn at hw
  unfold putF putRm wIn
  by_cases h1 : inB f Fb.length a bs.length = true
  · have g := inB_out h1
    simp only [h1, if_true, Bool.true_or] at hw ⊢
    refine (mput_in M F (a - f) _ a bs.length Fb bs ad cc W rfl h0 hn hw h.hF (by omega) src).mono ?_
    rintro e w' ⟨rfl, k1, k2⟩
    have sl := setB_length Fb (a - f) bs (by omega)
    refine ⟨rfl, { c0 := ?_, c2 := ?_, c4 := ?_, c5 := ?_, hF := k1, hR := ?_, fF := setB_all h.fF h256, fR := h.fR, mF := h.mF, mR := h.mR, fr := h.fr }, k2.mono fun j hj => .inl hj⟩
    · exact (k2.cell (p := ⟨M, 0, none⟩) (World.block_lt_of_cell? W _ h.c0) h.mF).trans h.c0
    · exact (k2.cell (p := ⟨M, 2, none⟩) (World.block_lt_of_cell? W _ h.c2) h.mF).trans h.c2
    · rw [sl]; exact (k2.cell (p := ⟨M, 4, none⟩) (World.block_lt_of_cell? W _ h.c4) h.mF).trans h.c4
    · exact (k2.cell (p := ⟨M, 5, none⟩) (World.block_lt_of_cell? W _ h.c5) h.mF).trans h.c5
    · exact (k2.block R (Array.getElem?_eq_some_iff.1 h.hR).1 (fun e => h.fr e.symm)).trans h.hR
  · by_cases h2 : inB r Rb.length a bs.length = true
    · have g := inB_out h2
      simp only [h1, h2, if_true, Bool.or_true, Bool.false_eq_true, if_false] at hw ⊢
      refine (mput_in M R (a - r) _ a bs.length Rb bs ad cc W rfl h0 hn hw h.hR (by omega) src).mono ?_
      rintro e w' ⟨rfl, k1, k2⟩
      exact ⟨rfl, h.stored k2 k1 (setB_length _ _ _ (by omega)) (setB_all h.fR h256), k2.mono fun j hj => .inr hj⟩
    · simp only [h1, h2, Bool.or_self, Bool.false_eq_true, if_false] at hw ⊢
      refine (mput_out M a bs.length (some ad) cc W h0 hn _ hw).mono ?_
      rintro e w' ⟨rfl, k⟩
      exact ⟨rfl, h.like k, k.out _⟩

theorem info_u8U : (Try.prog.info? 5).map (fun i => (i.zero, i.size, i.bytes)) = some (some (.int .u8 0), 1, 1) := by kernel_rfl
set_option maxHeartbeats 1000000 in
theorem mget_neg (M : Nat) (a n : Int) (W : World) (hn : n < 0) :
    Calls Try.prog 22 #[.pointer (some ⟨M, 0, none⟩), .int .u32 a, .int .i64 n] W fun e w' => e = .returned (.tuple #[.slice none 0 0, .bool false]) ∧ LikeG W w' := by
  have t : decide (n < 0) = true := by simp; omega
  go_enter Try.func22, Try.ntmps22
  go_wp2_with fail
  go_ret2
  exact ⟨rfl, .refl _⟩
set_option maxHeartbeats 1000000 in
theorem mget_zero (M : Nat) (a : Int) (W : World) :
    Calls Try.prog 22 #[.pointer (some ⟨M, 0, none⟩), .int .u32 a, .int .i64 0] W fun e w' => e = .returned (.tuple #[.slice none 0 0, .bool true]) ∧ LikeG W w' := by
  go_enter Try.func22, Try.ntmps22
  go_wp2_with fail
  go_ret2
  exact ⟨rfl, .refl _⟩
set_option maxHeartbeats 1000000 in
theorem mget_out (M a n : Nat) (W : World) (h0 : 0 < n) (hn : n < 9223372036854775808) (sl : Value)
    (hw : Calls Try.prog 31 #[.pointer (some ⟨M, 0, none⟩), .int .u32 (a : Nat), .int .i64 (n : Nat)] W fun e w' => e = .returned (.tuple #[sl, .bool false]) ∧ LikeG W w') :
    Calls Try.prog 22 #[.pointer (some ⟨M, 0, none⟩), .int .u32 (a : Nat), .int .i64 (n : Nat)] W fun e w' => e = .returned (.tuple #[.slice none 0 0, .bool false]) ∧ LikeG W w' := by
  have t : ((n : Int) == 0) = false := by simp; omega
  have HW := Lib.hid hw
  clear hw
  go_enter Try.func22, Try.ntmps22
  go_wp2_with fail
  refine HW.out.mono ?_
  rintro e w1 ⟨rfl, hl⟩
  go_wp2_with fail
  go_ret2
  exact ⟨rfl, hl⟩
set_option maxRecDepth 100000 in
set_option maxHeartbeats 1000000 in
theorem mget_in (M G o c a n : Nat) (l : List Nat) (W : World) (h0 : 0 < n) (hn : n ≤ 1048576)
    (hw : Calls Try.prog 31 #[.pointer (some ⟨M, 0, none⟩), .int .u32 (a : Nat), .int .i64 (n : Nat)] W fun e w' => e = .returned (.tuple #[.slice (some ⟨G, o, none⟩) n c, .bool true]) ∧ LikeG W w')
    (hG : W.heap[G]? = some (.cells (rowG l) 5 (0, 0))) (ho : o + n ≤ l.length) :
    Calls Try.prog 22 #[.pointer (some ⟨M, 0, none⟩), .int .u32 (a : Nat), .int .i64 (n : Nat)] W fun e w' => ∃ g, e = .returned (.tuple #[.slice (some ⟨g, 0, none⟩) n n, .bool true]) ∧ w'.heap[g]? = some (.cells (rowG ((l.drop o).take n)) 5 (0, 0)) ∧ W.heap.size ≤ g ∧ Below W.heap.size W w' := by
  have t : ((n : Int) == 0) = false := by simp; omega
  have hm1 := fun W => run_make_row' (P := Try.prog) 23 5 (.int .u8 0) 1 Try.underlying23 info_u8U rfl .i64 .i64 n (by omega) (by omega) W
  have HW := Lib.hid hw
  have HG := Lib.hid hG
  have hl2 : (((l.drop o).take n).map u8G).length = n := by rw [List.length_map, List.length_take, List.length_drop]; omega
  have HL := Lib.hid (show (((l.drop o).take n).map u8G).length = Nat.min n n by rw [hl2]; exact (Nat.min_self n).symm)
  have HF := Lib.hid (show 0 + (((l.drop o).take n).map u8G).length ≤ (madeCells #[Value.int .u8 0] n).size by rw [hl2, size_madeCells]; omega)
  have HR := Lib.hid (show (((l.drop o).take n).map u8G ++ (madeCells #[Value.int .u8 0] n).toList.drop (((l.drop o).take n).map u8G).length).toArray = rowG ((l.drop o).take n) by
    rw [hl2, List.drop_eq_nil_of_le (show (madeCells #[Value.int .u8 0] n).toList.length ≤ n by rw [Array.length_toList, size_madeCells]; omega)]
    simp [rowG])
  have HONE := Lib.hid (u8G_one ((l.drop o).take n))
  have HCS := Lib.hid (show ∀ j u, (((l.drop o).take n).map u8G)[j]? = some u → (rowG l)[o + j]? = some u from fun j u hj => by
    rw [List.getElem?_map, List.getElem?_take] at hj
    split at hj
    · rw [List.getElem?_drop] at hj
      simpa [rowG] using hj
    · cases hj)
  generalize hcs : ((l.drop o).take n).map u8G = cs at *
  generalize hmd : madeCells #[Value.int .u8 0] n = md at *
  clear hw hG hl2 hcs hmd
  go_enter Try.func22, Try.ntmps22
  go_wp2_with fail
  refine HW.out.mono ?_
  rintro e w1 ⟨rfl, hl⟩
  have hgs : w1.heap.size = W.heap.size := by rw [hl.1]
  have HGL := Lib.hid (show w1.heap[G]? = some (.cells (rowG l) 5 (0, 0)) by rw [hl.1]; exact HG.out)
  have HGA := Lib.hid (show (w1.alloc (.cells md 5)).heap[w1.heap.size]? = some (.cells md 5 (0, 0)) from heap_alloc_new _ _)
  have HSL := Lib.hid (show ∀ j u, cs[j]? = some u → (w1.alloc (.cells md 5)).cell? ((⟨G, o, none⟩ : Addr).add j) = some u from fun j u hj => by
    have e : (⟨G, o, none⟩ : Addr).add j = ⟨G, o + j, none⟩ := by unfold Addr.add; split <;> simp_all
    rw [e, World.cell?_alloc_past _ _ _ (Array.getElem?_eq_some_iff.1 HGL.out).1, cell_of_row w1 G (o + j) _ _ _ HGL.out]
    exact HCS.out j u hj)
  have HO := Lib.hid (show Below W.heap.size W w1 from hl.below)
  have HGS := Lib.hid hgs
  clear hl HW HG hgs
  go_wp2_with (with_reducible refine wpList_copy_own rfl (.tmp 30) (.tmp 31) 23 23 rfl 5 Try.underlying23 (by kernel_rfl) w1.heap.size 0 n n ⟨G, o, none⟩ n c rfl rfl md 5 HGA.out cs HL.out HSL.out HF.out HONE.out ?_)
  go_ret2
  refine ⟨w1.heap.size, rfl, ?_, by rw [HGS.out]; exact Nat.le_refl _, below_setRow (HO.out.alloc (by rw [HGS.out]; exact Nat.le_refl _) _) (by rw [HGS.out]; exact Nat.le_refl _) _⟩
  rw [← HR.out]
  exact setRow_heap _ _ _ _ _ _ HGA.out
end Go.Proofs.Ytlieapapmkbbgaa

namespace Go.Proofs.Ytlieapapmkbbgaa
open Go Go.RowKit
set_option linter.unusedVariables false
theorem writes_next (L : List (Nat × Nat)) (a : Nat) (bs : List Nat) (m b : Nat) (h : bs[m]? = some b) : L ++ writes a (bs.take (m + 1)) = (L ++ writes a (bs.take m)) ++ [(a + m, b)] := by
  have hlt := (List.getElem?_eq_some_iff.1 h).1
  rw [List.take_add_one, h]
  show L ++ writes a (bs.take m ++ [b]) = _
  rw [writes_snoc, List.append_assoc, List.length_take, Nat.min_eq_left (by omega)]
theorem wrap_in_u32 (n : Int) (h0 : 0 ≤ n) (h1 : n < 4294967296) : IntKind.u32.wrap n = n := by
  simp [IntKind.wrap, IntKind.bits, IntKind.signed]; omega
end Go.Proofs.Ytlieapapmkbbgaa

namespace Go.Proofs.Ytlieapapmkbbgaa
open Go Go.RowKit
set_option linter.unusedVariables false

def actV (k s : Int) (a x : Int) (b : Value) : Value := .agg #[.int .i64 k, .int .i64 s, .int .u32 a, .int .u32 x, b]
theorem box5W (w : World) (cs : Array Value) (t : TypeId) (j : Nat) (v : Value) (h : cs[j]? = some v) : (w.alloc (.cells cs t)).cell? ⟨w.heap.size, j, none⟩ = some v := by
  rw [World.cell?_alloc_new]; exact h
def GetsPost (W : World) (e : Ending) (w' : World) : Prop := e = .returned (.bool true) ∧ Below W.heap.size W w'
structure BoxA (b : Nat) (kd s a x : Int) (v : Value) (W : World) : Prop where
  c0 : W.cell? ⟨b, 0, none⟩ = some (.int .i64 kd)
  c1 : W.cell? ⟨b, 1, none⟩ = some (.int .i64 s)
  c2 : W.cell? ⟨b, 2, none⟩ = some (.int .u32 a)
  c3 : W.cell? ⟨b, 3, none⟩ = some (.int .u32 x)
  c4 : W.cell? ⟨b, 4, none⟩ = some v
theorem BoxA.new (W : World) (kd s a x : Int) (v : Value) (t : TypeId) : BoxA W.heap.size kd s a x v (W.alloc (.cells #[.int .i64 kd, .int .i64 s, .int .u32 a, .int .u32 x, v] t)) :=
  ⟨box5W _ _ _ 0 _ rfl, box5W _ _ _ 1 _ rfl, box5W _ _ _ 2 _ rfl, box5W _ _ _ 3 _ rfl, box5W _ _ _ 4 _ rfl⟩
theorem BoxA.like {b : Nat} {kd s a x : Int} {v : Value} {W W' : World} (h : BoxA b kd s a x v W) (hl : LikeG W W') : BoxA b kd s a x v W' :=
  ⟨(hl.cell _).trans h.c0, (hl.cell _).trans h.c1, (hl.cell _).trans h.c2, (hl.cell _).trans h.c3, (hl.cell _).trans h.c4⟩
theorem BoxA.out {b : Nat} {kd s a x : Int} {v : Value} {S : Nat → Prop} {W W' : World} (h : BoxA b kd s a x v W) (ho : Out S W W') (hb : ¬ S b) : BoxA b kd s a x v W' := by
  have hlt := World.block_lt_of_cell? W _ h.c0
  exact ⟨(ho.cell (p := ⟨b, 0, none⟩) hlt hb).trans h.c0, (ho.cell (p := ⟨b, 1, none⟩) hlt hb).trans h.c1, (ho.cell (p := ⟨b, 2, none⟩) hlt hb).trans h.c2, (ho.cell (p := ⟨b, 3, none⟩) hlt hb).trans h.c3, (ho.cell (p := ⟨b, 4, none⟩) hlt hb).trans h.c4⟩
end Go.Proofs.Ytlieapapmkbbgaa

namespace Go.Proofs.Ytlieapapmkbbgaa
open Go Go.RowKit
set_option linter.unusedVariables false

theorem run_append_zero {P : Program} {t ty e : TypeId} (ht : P.underlying t = some (.slice e)) {i : TypeInfo} {z : Value} (hi : P.info? e = some i) (hz : i.zero = some z) (g : Nat) (ad : Option Addr) (c : Nat) (w : World) :
    (Builtin.append_ #[t, t] ty #[.slice (some ⟨g, 0, none⟩) 0 0, .slice ad 0 c]).run P w = .ok (.slice (some ⟨g, 0, none⟩) 0 0) w := by
  cases ad <;> simp [Builtin.append_, run_underlying ht, sizeOf, typeInfo, hi, Builtin.lenOf, Builtin.firstCells, loadCells, loadCellsFrom, storeCells]
theorem step_append_zero {P : Program} {w : World} {ops : Array Oper} {o : Oper} {a : Act} {K : Act → World → Prop} {Q : Exit → Act → World → Prop} {E : Prop} (hgd : o.guard = none) (s x : Operand) (t : TypeId)
    (ho : o.op = .call { callee := .builtin .append, args := #[s, x], argTypes := #[t, t] })
    (e : TypeId) (i : TypeInfo) (z : Value) (ht : P.underlying t = some (.slice e)) (hi : P.info? e = some i) (hz : i.zero = some z)
    (g : Nat) (hs : a.eval s = .slice (some ⟨g, 0, none⟩) 0 0) (ad : Option Addr) (c : Nat) (hx : a.eval x = .slice ad 0 c)
    (h : K (a.put o.dst (.slice (some ⟨g, 0, none⟩) 0 0)) w) :
    if Region.wanted o (yielded ops a.tmps) = true then Oper.wp P o a w K Q else E := by
  have hw : Region.wanted o (yielded ops a.tmps) = true := by simp [Region.wanted, hgd]
  rw [if_pos hw]
  have hr := run_append_zero (P := P) (ty := o.type) ht hi hz g ad c w
  unfold Oper.wp execOp
  simp only [ho, resolve, invoke, builtin, Sem.run_bind, Sem.run_pure, Result.andThen_ok, List.map_toArray, List.map_cons, List.map_nil, hs, hx, hr]
  exact h
/-- where acts may change what was there -/
def DS (F R X B : Nat) (j : Nat) : Prop := j = F ∨ j = R ∨ j = X ∨ B ≤ j
theorem setB_nil (l : List Nat) (o : Nat) : setB l o [] = l := by simp [setB]
theorem putF_length (f n1 : Nat) (Fb : List Nat) (hl : Fb.length = n1) (a : Nat) (bs : List Nat) : (putF f n1 Fb a bs).length = n1 := by
  unfold putF
  split
  · rename_i h
    have := inB_out h
    rw [setB_length _ _ _ (by omega), hl]
  · exact hl
theorem putR_length (f n1 r n2 : Nat) (Rb : List Nat) (hl : Rb.length = n2) (a : Nat) (bs : List Nat) : (putRm f n1 r n2 Rb a bs).length = n2 := by
  unfold putRm
  split
  · exact hl
  · split
    · rename_i h
      have := inB_out h
      rw [setB_length _ _ _ (by omega), hl]
    · exact hl
def logP (f n1 r n2 : Nat) (L : List (Nat × Nat)) (a : Nat) (bs : List Nat) : List (Nat × Nat) := if wIn f n1 r n2 a bs.length then L ++ writes a bs else L
theorem agree_put {f r : Nat} {Fb Rb : List Nat} {L : List (Nat × Nat)} (h : Agree f r Fb Rb L) (hd : f + Fb.length ≤ r ∨ r + Rb.length ≤ f) (a : Nat) (bs : List Nat) :
    Agree f r (putF f Fb.length Fb a bs) (putRm f Fb.length r Rb.length Rb a bs) (logP f Fb.length r Rb.length L a bs) := by
  unfold putF putRm logP wIn
  by_cases h1 : inB f Fb.length a bs.length = true
  · have := inB_out h1
    simp only [h1, if_true, Bool.true_or]
    have k := agree_flash h hd (a - f) bs (by omega)
    rwa [show f + (a - f) = a by omega] at k
  · by_cases h2 : inB r Rb.length a bs.length = true
    · have := inB_out h2
      simp only [h1, h2, if_true, Bool.or_true, Bool.false_eq_true, if_false]
      have k := agree_ram h hd (a - r) bs (by omega)
      rwa [show r + (a - r) = a by omega] at k
    · simp only [h1, h2, Bool.or_self, Bool.false_eq_true, if_false]
      exact h
theorem info_u8X : (Try.prog.info? 5).map (fun i => (i.zero, i.size, i.bytes)) = some (some (.int .u8 0), 1, 1) := by kernel_rfl
structure Apart (M F R X B : Nat) : Prop where
  m : M < B
  f : F < B
  r : R < B
  xf : X ≠ F
  xr : X ≠ R
  xm : X ≠ M
structure ApartB (F R X B b : Nat) : Prop where
  bf : b ≠ F
  br : b ≠ R
  bx : b ≠ X
  bB : b < B
theorem ds_rs {F R X B : Nat} {v : Value} (hv : ∀ j, v.ownBlock = some j → B ≤ j) : ∀ j, RS X v j → DS F R X B j := by
  rintro j (e | e)
  · exact .inr (.inr (.inl e))
  · exact .inr (.inr (.inr (hv j e)))
end Go.Proofs.Ytlieapapmkbbgaa

namespace Go.Proofs.Ytlieapapmkbbgaa
open Go Go.RowKit
set_option linter.unusedVariables false

theorem ret_boolM {a b : Bool} (h : a = b) : Ending.returned (.bool a) = .returned (.bool b) := by rw [h]
def oneB (a s : Int) : Bool := decide (a % 4 = 0 ∧ s % 4 = 0 ∧ 4 ≤ s ∧ s ≤ 1048576 ∧ a + s ≤ 4294967296)
def canM (f fs r rs : Int) : Bool := oneB f fs && oneB r rs && (decide (f + fs ≤ r) || decide (r + rs ≤ f))
theorem oneB_out {a s : Int} (h : oneB a s = true) : a % 4 = 0 ∧ s % 4 = 0 ∧ 4 ≤ s ∧ s ≤ 1048576 ∧ a + s ≤ 4294967296 := of_decide_eq_true h

set_option maxHeartbeats 400000 in
theorem end_any (a s : Int) (w : World) (ha : 0 ≤ a ∧ a < 4294967296) (hs : 0 ≤ s ∧ s < 4294967296) : Calls Try.prog 43 #[.int .u32 a, .int .u32 s] w fun e w' => e = .returned (.int .u64 (a + s)) ∧ w = w' := by
  go_enter Try.func43, Try.ntmps43
  go_wp2
  go_ret
  exact ⟨rfl, rfl⟩

theorem end_q (a s : Int) (w : World) (n : Nat) (ha : 0 ≤ a ∧ a < 4294967296) (hs : 0 ≤ s ∧ s < 4294967296) : Calls Try.prog 43 #[.int .u32 a, .int .u32 s] (w.drewN n) fun e w' => e = .returned (.int .u64 (a + s)) ∧ ∃ m, w' = w.drewN m :=
  (end_any a s _ ha hs).mono fun e w' ⟨he, hm⟩ => ⟨he, n, hm.symm⟩

set_option maxHeartbeats 400000 in
theorem sized_any (a s : Int) (w : World) (ha : 0 ≤ a ∧ a < 4294967296) (hs : 0 ≤ s ∧ s < 4294967296) : Calls Try.prog 42 #[.int .u32 a, .int .u32 s] w fun e w' => e = .returned (.bool (oneB a s)) ∧ w = w' := by
  by_cases h0 : a % 4 = 0
  · have t0 : (a % 4 == 0) = true := by simp; omega
    by_cases h1 : s % 4 = 0
    · have t1 : (s % 4 == 0) = true := by simp; omega
      by_cases h2 : 4 ≤ s
      · have t2 : (decide (4 ≤ s)) = true := by simp; omega
        by_cases h3 : s ≤ 1048576
        · have t3 : (decide (s ≤ 1048576)) = true := by simp; omega
          by_cases h4 : a + s ≤ 4294967296
          · have t4 : (decide (a + s ≤ 4294967296)) = true := by simp; omega
            have e : oneB a s = true := decide_eq_true (by omega)
            rw [e]
            clear e h0 h1 h2 h3 h4
            go_enter Try.func42, Try.ntmps42
            go_wp2_with fail
            refine (end_any a s _ ha hs).mono ?_
            rintro e w1 ⟨rfl, rfl⟩
            go_wp2_with fail
            go_ret
            exact ⟨rfl, rfl⟩
          · have e : oneB a s = false := decide_eq_false (by omega)
            rw [e]
            have t4 : (decide (a + s ≤ 4294967296)) = false := by simp; omega
            clear e h0 h1 h2 h3 h4
            go_enter Try.func42, Try.ntmps42
            go_wp2_with fail
            refine (end_any a s _ ha hs).mono ?_
            rintro e w1 ⟨rfl, rfl⟩
            go_wp2_with fail
            go_ret
            exact ⟨rfl, rfl⟩
        · have e : oneB a s = false := decide_eq_false (by omega)
          rw [e]
          have t3 : (decide (s ≤ 1048576)) = false := by simp; omega
          clear e h0 h1 h2 h3
          go_enter Try.func42, Try.ntmps42
          go_wp2_with fail
          go_ret
          exact ⟨rfl, rfl⟩
      · have e : oneB a s = false := decide_eq_false (by omega)
        rw [e]
        have t2 : (decide (4 ≤ s)) = false := by simp; omega
        clear e h0 h1 h2
        go_enter Try.func42, Try.ntmps42
        go_wp2_with fail
        go_ret
        exact ⟨rfl, rfl⟩
    · have e : oneB a s = false := decide_eq_false (by omega)
      rw [e]
      have t1 : (s % 4 == 0) = false := by simp; omega
      clear e h0 h1
      go_enter Try.func42, Try.ntmps42
      go_wp2_with fail
      go_ret
      exact ⟨rfl, rfl⟩
  · have e : oneB a s = false := decide_eq_false (by omega)
    rw [e]
    have t0 : (a % 4 == 0) = false := by simp; omega
    clear e h0
    go_enter Try.func42, Try.ntmps42
    go_wp2_with fail
    go_ret
    exact ⟨rfl, rfl⟩
set_option maxHeartbeats 1000000 in
theorem mcan_any (f fs r rs : Int) (w : World) (hf : 0 ≤ f ∧ f < 4294967296) (hfs : 0 ≤ fs ∧ fs < 4294967296) (hr : 0 ≤ r ∧ r < 4294967296) (hrs : 0 ≤ rs ∧ rs < 4294967296) : Calls Try.prog 30 #[.agg #[.int .u32 f, .int .u32 fs, .int .u32 r, .int .u32 rs]] w fun e w' => e = .returned (.bool (canM f fs r rs)) ∧ Below w.heap.size w w' := by
  have S1 := Lib.hid (sized_any f fs · hf hfs)
  have S2 := Lib.hid (sized_any r rs · hr hrs)
  cases h1 : oneB f fs
  · have E := Lib.hid (show canM f fs r rs = false by unfold canM; rw [h1]; rfl)
    have H1 := Lib.hid h1
    clear h1
    go_enter Try.func30, Try.ntmps30
    go_wp2_with fail
    refine (S1.out _).mono ?_
    rw [H1.out]
    rintro e w1 ⟨rfl, rfl⟩
    go_wp2_with fail
    go_ret
    exact ⟨ret_boolM E.out.symm, by go_grown⟩
  cases h2 : oneB r rs
  · have E := Lib.hid (show canM f fs r rs = false by unfold canM; rw [h1, h2]; rfl)
    have H1 := Lib.hid h1
    have H2 := Lib.hid h2
    clear h1 h2
    go_enter Try.func30, Try.ntmps30
    go_wp2_with fail
    refine (S1.out _).mono ?_
    rw [H1.out]
    rintro e w1 ⟨rfl, rfl⟩
    go_wp2_with fail
    refine (S2.out _).mono ?_
    rw [H2.out]
    rintro e w1 ⟨rfl, rfl⟩
    go_wp2_with fail
    go_ret
    exact ⟨ret_boolM E.out.symm, by go_grown⟩
  by_cases h3 : f + fs ≤ r
  · have E := Lib.hid (show canM f fs r rs = true by unfold canM; rw [h1, h2]; simp [h3])
    have H1 := Lib.hid h1
    have H2 := Lib.hid h2
    have t3 : decide (f + fs ≤ r) = true := by simp; omega
    clear h1 h2
    go_enter Try.func30, Try.ntmps30
    go_wp2_with fail
    refine (S1.out _).mono ?_
    rw [H1.out]
    rintro e w1 ⟨rfl, rfl⟩
    go_wp2_with fail
    refine (S2.out _).mono ?_
    rw [H2.out]
    rintro e w1 ⟨rfl, rfl⟩
    go_wp2_with fail
    obtain ⟨w1, hw1⟩ : ∃ w1, w1 = w.alloc (.cells #[.int .u32 f, .int .u32 fs, .int .u32 r, .int .u32 rs] 52) := ⟨_, rfl⟩
    have hS : w1.cell? ⟨w.heap.size, 0, none⟩ = some (.int .u32 f) ∧ w1.cell? ⟨w.heap.size, 1, none⟩ = some (.int .u32 fs) ∧ w1.cell? ⟨w.heap.size, 2, none⟩ = some (.int .u32 r) ∧ w1.cell? ⟨w.heap.size, 3, none⟩ = some (.int .u32 rs) ∧ w.heap.size < w1.heap.size ∧ Below w.heap.size w w1 := by
      subst hw1
      exact ⟨by simp, by simp, by simp, by simp, by simp, by go_grown⟩
    rw [← hw1]
    clear hw1
    have c0 := hS.1
    have c1 := hS.2.1
    have c2 := hS.2.2.1
    have c3 := hS.2.2.2.1
    have hz := hS.2.2.2.2.1
    have hB := Lib.hid hS.2.2.2.2.2
    clear hS
    go_quiet ((go_at_call 43; exact end_q _ _ _ _ (by omega) (by omega)))
    go_wp2_with fail
    go_ret
    exact ⟨ret_boolM E.out.symm, by first | exact hB.out | exact below_drewN hB.out _⟩
  · have E := Lib.hid (show canM f fs r rs = decide (r + rs ≤ f) by unfold canM; rw [h1, h2]; simp [h3])
    have H1 := Lib.hid h1
    have H2 := Lib.hid h2
    have t3 : decide (f + fs ≤ r) = false := by simp; omega
    clear h1 h2
    go_enter Try.func30, Try.ntmps30
    go_wp2_with fail
    refine (S1.out _).mono ?_
    rw [H1.out]
    rintro e w1 ⟨rfl, rfl⟩
    go_wp2_with fail
    refine (S2.out _).mono ?_
    rw [H2.out]
    rintro e w1 ⟨rfl, rfl⟩
    go_wp2_with fail
    obtain ⟨w1, hw1⟩ : ∃ w1, w1 = w.alloc (.cells #[.int .u32 f, .int .u32 fs, .int .u32 r, .int .u32 rs] 52) := ⟨_, rfl⟩
    have hS : w1.cell? ⟨w.heap.size, 0, none⟩ = some (.int .u32 f) ∧ w1.cell? ⟨w.heap.size, 1, none⟩ = some (.int .u32 fs) ∧ w1.cell? ⟨w.heap.size, 2, none⟩ = some (.int .u32 r) ∧ w1.cell? ⟨w.heap.size, 3, none⟩ = some (.int .u32 rs) ∧ w.heap.size < w1.heap.size ∧ Below w.heap.size w w1 := by
      subst hw1
      exact ⟨by simp, by simp, by simp, by simp, by simp, by go_grown⟩
    rw [← hw1]
    clear hw1
    have c0 := hS.1
    have c1 := hS.2.1
    have c2 := hS.2.2.1
    have c3 := hS.2.2.2.1
    have hz := hS.2.2.2.2.1
    have hB := Lib.hid hS.2.2.2.2.2
    clear hS
    go_quiet ((go_at_call 43; exact end_q _ _ _ _ (by omega) (by omega)))
    go_wp2_with fail
    go_ret
    exact ⟨ret_boolM E.out.symm, by first | exact hB.out | exact below_drewN hB.out _⟩
end Go.Proofs.Ytlieapapmkbbgaa

namespace Go.Proofs.Ytlieapapmkbbgaa
open Go Go.RowKit
set_option linter.unusedVariables false

theorem info_u8M : (Try.prog.info? 5).map (fun i => (i.zero, i.size, i.bytes)) = some (some (.int .u8 0), 1, 1) := by kernel_rfl
theorem boxedM {w w1 : World} {cs : Array Value} {t : TypeId} (hb : Below (w.alloc (.cells cs t)).heap.size (w.alloc (.cells cs t)) w1) :
    (∀ j v, cs[j]? = some v → w1.cell? ⟨w.heap.size, j, none⟩ = some v) ∧ w.heap.size < w1.heap.size ∧ w.heap.size ≤ w1.heap.size := by
  have hs := hb.size
  simp at hs
  refine ⟨fun j v hv => (hb.cell (p := ⟨w.heap.size, j, none⟩) (by simp)).trans ?_, by omega, by omega⟩
  rw [World.cell?_alloc_new]
  exact hv
set_option maxHeartbeats 1000000 in
theorem new_no (f fs r rs : Int) (w : World) (hf : 0 ≤ f ∧ f < 4294967296) (hfs : 0 ≤ fs ∧ fs < 4294967296) (hr : 0 ≤ r ∧ r < 4294967296) (hrs : 0 ≤ rs ∧ rs < 4294967296) (hc : canM f fs r rs = false) :
    Calls Try.prog 17 #[.agg #[.int .u32 f, .int .u32 fs, .int .u32 r, .int .u32 rs]] w fun e w' => e = .returned (.tuple #[.pointer none, .int .i64 1]) ∧ Below w.heap.size w w' := by
  have C := Lib.hid (mcan_any f fs r rs · hf hfs hr hrs)
  have HC := Lib.hid hc
  clear hc
  go_enter Try.func17, Try.ntmps17
  go_wp2_with fail
  refine (C.out _).mono ?_
  rw [HC.out]
  rintro e w1 ⟨rfl, hb⟩
  have HB := Lib.hid (Below.trans (show Below w.heap.size w (w.alloc (.cells #[.int .u32 f, .int .u32 fs, .int .u32 r, .int .u32 rs] 52)) by go_grown) (hb.mono (by simp)))
  clear hb
  go_wp2_with fail
  go_ret2
  exact ⟨rfl, HB.out⟩

theorem heap3 (w : World) (o1 o2 o3 : Obj) : (((w.alloc o1).alloc o2).alloc o3).drew.heap[w.heap.size]? = some o1 ∧ (((w.alloc o1).alloc o2).alloc o3).drew.heap[w.heap.size + 1]? = some o2 ∧
    (((w.alloc o1).alloc o2).alloc o3).drew.heap[w.heap.size + 1 + 1]? = some o3 ∧ (((w.alloc o1).alloc o2).alloc o3).drew.heap.size = w.heap.size + 3 ∧ Below w.heap.size w (((w.alloc o1).alloc o2).alloc o3).drew := by
  have s1 : (w.alloc o1).heap.size = w.heap.size + 1 := by simp
  have s2 : ((w.alloc o1).alloc o2).heap.size = w.heap.size + 1 + 1 := by simp
  refine ⟨?_, ?_, ?_, by simp, by go_grown⟩
  · show (((w.alloc o1).alloc o2).alloc o3).heap[w.heap.size]? = some o1
    rw [heap_alloc_old _ _ (by omega), heap_alloc_old _ _ (by omega), heap_alloc_new]
  · show (((w.alloc o1).alloc o2).alloc o3).heap[w.heap.size + 1]? = some o2
    rw [heap_alloc_old _ _ (by omega), ← s1, heap_alloc_new]
  · show (((w.alloc o1).alloc o2).alloc o3).heap[w.heap.size + 1 + 1]? = some o3
    rw [← s2, heap_alloc_new]
def NewPost (f : Int) (n1 : Nat) (r : Int) (n2 : Nat) (w : World) (e : Ending) (w' : World) : Prop := ∃ M F R : Nat, e = .returned (.tuple #[.pointer (some ⟨M, 0, none⟩), .int .i64 0]) ∧
  w'.heap[M]? = some (.cells #[.int .u32 f, .int .u32 (n1 : Nat), .int .u32 r, .int .u32 (n2 : Nat), .slice (some ⟨F, 0, none⟩) n1 n1, .slice (some ⟨R, 0, none⟩) n2 n2] 74 (0, 0)) ∧
  w'.heap[F]? = some (.cells (madeCells #[.int .u8 0] n1) 5 (0, 0)) ∧ w'.heap[R]? = some (.cells (madeCells #[.int .u8 0] n2) 5 (0, 0)) ∧
  w.heap.size ≤ M ∧ w.heap.size ≤ F ∧ w.heap.size ≤ R ∧ F ≠ R ∧ M ≠ F ∧ M ≠ R ∧ M < w'.heap.size ∧ F < w'.heap.size ∧ R < w'.heap.size ∧ Below w.heap.size w w'
set_option maxHeartbeats 1000000 in
theorem new_yes (f : Int) (n1 : Nat) (r : Int) (n2 : Nat) (w : World) (hf : 0 ≤ f ∧ f < 4294967296) (hfs : n1 ≤ 1048576) (hr : 0 ≤ r ∧ r < 4294967296) (hrs : n2 ≤ 1048576) (hc : canM f (n1 : Nat) r (n2 : Nat) = true) :
    Calls Try.prog 17 #[.agg #[.int .u32 f, .int .u32 (n1 : Nat), .int .u32 r, .int .u32 (n2 : Nat)]] w (NewPost f n1 r n2 w) := by
  have C := Lib.hid (mcan_any f (n1 : Nat) r (n2 : Nat) · hf (by omega) hr (by omega))
  have HC := Lib.hid hc
  clear hc
  go_enter Try.func17, Try.ntmps17
  go_wp2_with fail
  refine (C.out _).mono ?_
  rw [HC.out]
  rintro e w1 ⟨rfl, hb⟩
  obtain ⟨hbox, hz1, hz2⟩ := boxedM hb
  have hS : w1.cell? ⟨w.heap.size, 0, none⟩ = some (.int .u32 f) ∧ w1.cell? ⟨w.heap.size, 1, none⟩ = some (.int .u32 (n1 : Nat)) ∧ w1.cell? ⟨w.heap.size, 2, none⟩ = some (.int .u32 r) ∧ w1.cell? ⟨w.heap.size, 3, none⟩ = some (.int .u32 (n2 : Nat)) ∧ w.heap.size < w1.heap.size ∧ Below w.heap.size w w1 := ⟨hbox 0 _ rfl, hbox 1 _ rfl, hbox 2 _ rfl, hbox 3 _ rfl, hz1, Below.trans (show Below w.heap.size w (w.alloc (.cells #[.int .u32 f, .int .u32 (n1 : Nat), .int .u32 r, .int .u32 (n2 : Nat)] 52)) by go_grown) (hb.mono (by simp))⟩
  clear hbox hb
  have c0 := hS.1
  have c1 := hS.2.1
  have c2 := hS.2.2.1
  have c3 := hS.2.2.2.1
  have hz := hS.2.2.2.2.1
  have hm1 := fun W => run_make_row' (P := Try.prog) 23 5 (.int .u8 0) 1 Try.underlying23 info_u8M rfl .u32 .u32 n1 (by omega) (by omega) W
  have hm2 := fun W => run_make_row' (P := Try.prog) 23 5 (.int .u8 0) 1 Try.underlying23 info_u8M rfl .u32 .u32 n2 (by omega) (by omega) W
  go_wp2_with fail
  go_region
  all_goals go_wp2
  all_goals go_ret2
  · obtain ⟨h1, h2, h3, h4, h5⟩ := heap3 w1 (.cells (madeCells #[Value.int .u8 0] n1) 5) (.cells (madeCells #[Value.int .u8 0] n2) 5) (.cells #[.int .u32 f, .int .u32 (n1 : Nat), .int .u32 r, .int .u32 (n2 : Nat), .slice (some ⟨w1.heap.size, 0, none⟩) n1 n1, .slice (some ⟨w1.heap.size + 1, 0, none⟩) n2 n2] 74)
    exact ⟨_, _, _, rfl, h3, h1, h2, by omega, by omega, by omega, by omega, by omega, by omega, by omega, by omega, by omega, hS.2.2.2.2.2.trans (h5.mono hz2)⟩
  · obtain ⟨h1, h2, h3, h4, h5⟩ := heap3 w1 (.cells (madeCells #[Value.int .u8 0] n2) 5) (.cells (madeCells #[Value.int .u8 0] n1) 5) (.cells #[.int .u32 f, .int .u32 (n1 : Nat), .int .u32 r, .int .u32 (n2 : Nat), .slice (some ⟨w1.heap.size + 1, 0, none⟩) n1 n1, .slice (some ⟨w1.heap.size, 0, none⟩) n2 n2] 74)
    exact ⟨_, _, _, rfl, h3, h2, h1, by omega, by omega, by omega, by omega, by omega, by omega, by omega, by omega, by omega, hS.2.2.2.2.2.trans (h5.mono hz2)⟩

/-- a part of bytes that begin at base -/
theorem part_yes (B n base a k : Nat) (w : World) (h0 : 0 < k) (h1 : base ≤ a) (h2 : k ≤ n) (h3 : a - base ≤ n - k) (ha : a < 4294967296) (hn : n ≤ 1048576) :
    Calls Try.prog 44 #[.slice (some ⟨B, 0, none⟩) n n, .int .u32 (base : Int), .int .u32 (a : Int), .int .i64 (k : Int)] w fun e w' => e = .returned (.tuple #[.slice (some ⟨B, a - base, none⟩) k (n - (a - base)), .bool true]) ∧ w = w' := by
  obtain ⟨q, rfl⟩ : ∃ q, a = base + q := ⟨a - base, by omega⟩
  rw [Nat.add_sub_cancel_left] at h3 ⊢
  have t1 : decide ((base + q : Nat) < base) = false := by simp
  have t2 : decide (n < k) = false := by simp; omega
  have hq : q < n := by omega
  have hq2 : n ≠ q := by omega
  go_enter Try.func44, Try.ntmps44
  go_wp2
  go_ret2
  refine ⟨?_, rfl⟩
  show Ending.returned (.tuple #[.slice (some ⟨B, base + q - base, none⟩) (base + q - base + k - (base + q - base)) (n - (base + q - base)), .bool true]) = _
  rw [show base + q - base = q by omega, show q + k - q = k by omega]
theorem part_less (B n base a k : Nat) (w : World) (h1 : a < base) (ha : base < 4294967296) :
    Calls Try.prog 44 #[.slice (some ⟨B, 0, none⟩) n n, .int .u32 (base : Int), .int .u32 (a : Int), .int .i64 (k : Int)] w fun e w' => e = .returned (.tuple #[.slice none 0 0, .bool false]) ∧ w = w' := by
  have t1 : decide (a < base) = true := by simp; omega
  go_enter Try.func44, Try.ntmps44
  go_wp2
  all_goals go_ret2
  all_goals exact ⟨rfl, rfl⟩
theorem part_more (B n base a k : Nat) (w : World) (h1 : base ≤ a) (h2 : k ≤ n) (h3 : n - k < a - base) (ha : a < 4294967296) (hn : n ≤ 1048576) :
    Calls Try.prog 44 #[.slice (some ⟨B, 0, none⟩) n n, .int .u32 (base : Int), .int .u32 (a : Int), .int .i64 (k : Int)] w fun e w' => e = .returned (.tuple #[.slice none 0 0, .bool false]) ∧ w = w' := by
  obtain ⟨q, rfl⟩ : ∃ q, a = base + q := ⟨a - base, by omega⟩
  rw [Nat.add_sub_cancel_left] at h3
  have t1 : decide ((base + q : Nat) < base) = false := by simp
  have t2 : decide (n < k) = false := by simp; omega
  go_enter Try.func44, Try.ntmps44
  go_wp2
  all_goals go_ret2
  all_goals exact ⟨rfl, rfl⟩

def memV (f : Int) (n1 : Nat) (r : Int) (n2 F R : Nat) : Array Value := #[.int .u32 f, .int .u32 (n1 : Nat), .int .u32 r, .int .u32 (n2 : Nat), .slice (some ⟨F, 0, none⟩) n1 n1, .slice (some ⟨R, 0, none⟩) n2 n2]
theorem part_q {args : Array Value} {v : Value} {w : World} {m : Nat} (h : ∀ W, Calls Try.prog 44 args W fun e w' => e = .returned v ∧ W = w') :
    Calls Try.prog 44 args (w.drewN m) fun e w' => e = .returned v ∧ ∃ j, w' = w.drewN j :=
  (h _).mono fun e w' ⟨he, hm⟩ => ⟨he, m, hm.symm⟩
def rowAfter : Array Value := (([.int .u8 4, .int .u8 3, .int .u8 2, .int .u8 1] : List Value) ++ (madeCells #[Value.int .u8 0] 128).toList.drop 4).toArray
set_option maxRecDepth 100000 in
set_option maxHeartbeats 1000000 in
theorem store_live (M F R : Nat) (w : World) (hM : w.heap[M]? = some (.cells (memV 4096 256 2147483648 128 F R) 74 (0, 0))) (hR : w.heap[R]? = some (.cells (madeCells #[.int .u8 0] 128) 5 (0, 0))) (hne : M ≠ R) :
    Calls Try.prog 34 #[.pointer (some ⟨M, 0, none⟩), .int .u32 2147483648, .int .i64 4, .int .u32 16909060] w fun e w' => e = .returned (.int .i64 0) ∧ w'.heap[R]? = some (.cells rowAfter 5 (0, 0)) ∧ w.grownBy w' (some R) := by
  have cM : ∀ j v, (memV 4096 256 2147483648 128 F R)[j]? = some v → w.cell? ⟨M, j, none⟩ = some v := fun j v hv => by rw [cell_of_row w M j _ _ _ hM]; exact hv
  have c0 := cM 0 _ rfl
  have c2 := cM 2 _ rfl
  have c5 := cM 5 _ rfl
  have hMl : M < w.heap.size := (Array.getElem?_eq_some_iff.1 hM).1
  have hRl : R < w.heap.size := (Array.getElem?_eq_some_iff.1 hR).1
  have PY := Lib.hid (show ∀ W, Calls Try.prog 44 #[.slice (some ⟨R, 0, none⟩) 128 128, .int .u32 2147483648, .int .u32 2147483648, .int .i64 4] W (fun e w' => e = .returned (.tuple #[.slice (some ⟨R, 0, none⟩) 4 128, .bool true]) ∧ W = w') from
    fun W => part_yes R 128 2147483648 2147483648 4 W (by omega) (by omega) (by omega) (by omega) (by omega) (by omega))
  have HR := Lib.hid hR
  clear cM hM hR
  go_enter Try.func34, Try.ntmps34
  go_wp2
  go_quiet ((go_at_call 44; exact part_q PY.out))
  rename_i nq
  generalize hW : w.drewN nq = W
  have HWR := Lib.hid (show W.heap[R]? = some (.cells (madeCells #[.int .u8 0] 128) 5 (0, 0)) by rw [← hW]; exact HR.out)
  have HWG := Lib.hid (show w.grownBy W (some R) by rw [← hW]; exact ⟨rfl, rfl, rfl, Nat.le_refl _, fun _ _ _ => rfl⟩)
  have hRW : R < W.heap.size := (Array.getElem?_eq_some_iff.1 HWR.out).1
  have HSRC := Lib.hid (show ∀ j v, ([.int .u8 4, .int .u8 3, .int .u8 2, .int .u8 1] : List Value)[j]? = some v → (W.alloc (.cells #[.int .u8 4, .int .u8 3, .int .u8 2, .int .u8 1] 95)).cell? ((⟨W.heap.size, 0, none⟩ : Addr).add j) = some v from fun j v hj => by
    have e : (⟨W.heap.size, 0, none⟩ : Addr).add j = ⟨W.heap.size, j, none⟩ := by unfold Addr.add; split <;> simp_all
    rw [e, World.cell?_alloc_new]
    simpa using hj)
  have HRA := Lib.hid (show (W.alloc (.cells #[.int .u8 4, .int .u8 3, .int .u8 2, .int .u8 1] 95)).heap[R]? = some (.cells (madeCells #[.int .u8 0] 128) 5 (0, 0)) by rw [heap_alloc_old _ _ hRW]; exact HWR.out)
  clear hW c0 c2 c5
  go_wp2_with (with_reducible refine wpList_copy_own rfl (.tmp 53) (.tmp 55) 23 23 rfl 5 Try.underlying23 (by kernel_rfl) R 0 4 128 ⟨W.heap.size, 0, none⟩ 4 4 rfl rfl (madeCells #[.int .u8 0] 128) 5 HRA.out [.int .u8 4, .int .u8 3, .int .u8 2, .int .u8 1] rfl HSRC.out (by rw [size_madeCells]; decide) (by decide) ?_)
  go_ret
  refine ⟨rfl, setRow_heap _ R _ rowAfter _ _ HRA.out, HWG.out.trans ((World.grownBy_alloc W _ _).trans ⟨rfl, rfl, rfl, by simp, fun k _ hk => setRow_other _ R k _ (fun e => hk (by rw [e]))⟩)⟩

theorem row_cell : rowAfter[1]? = some (.int .u8 3) := rfl
set_option maxRecDepth 100000 in
set_option maxHeartbeats 1000000 in
theorem load_live (M F R : Nat) (w : World) (hM : w.heap[M]? = some (.cells (memV 4096 256 2147483648 128 F R) 74 (0, 0))) (hR : w.heap[R]? = some (.cells rowAfter 5 (0, 0))) :
    Calls Try.prog 45 #[.pointer (some ⟨M, 0, none⟩), .int .u32 2147483649, .int .i64 1] w fun e w' => e = .returned (.tuple #[.int .u32 3, .int .i64 0]) ∧ Below w.heap.size w w' := by
  have cM : ∀ j v, (memV 4096 256 2147483648 128 F R)[j]? = some v → w.cell? ⟨M, j, none⟩ = some v := fun j v hv => by rw [cell_of_row w M j _ _ _ hM]; exact hv
  have c0 := cM 0 (.int .u32 4096) rfl
  have c2 := cM 2 (.int .u32 2147483648) rfl
  have c4 := cM 4 (.slice (some ⟨F, 0, none⟩) 256 256) rfl
  have c5 := cM 5 (.slice (some ⟨R, 0, none⟩) 128 128) rfl
  have r1 : w.cell? ⟨R, 1, none⟩ = some (.int .u8 3) := by rw [cell_of_row w R 1 _ _ _ hR]; exact row_cell
  have P1 := Lib.hid (show ∀ W, Calls Try.prog 44 #[.slice (some ⟨F, 0, none⟩) 256 256, .int .u32 4096, .int .u32 2147483649, .int .i64 1] W (fun e w' => e = .returned (.tuple #[.slice none 0 0, .bool false]) ∧ W = w') from
    fun W => part_more F 256 4096 2147483649 1 W (by omega) (by omega) (by omega) (by omega) (by omega))
  have P2 := Lib.hid (show ∀ W, Calls Try.prog 44 #[.slice (some ⟨R, 0, none⟩) 128 128, .int .u32 2147483648, .int .u32 2147483649, .int .i64 1] W (fun e w' => e = .returned (.tuple #[.slice (some ⟨R, 1, none⟩) 1 127, .bool true]) ∧ W = w') from
    fun W => part_yes R 128 2147483648 2147483649 1 W (by omega) (by omega) (by omega) (by omega) (by omega) (by omega))
  clear cM hM hR
  go_enter Try.func45, Try.ntmps45
  go_wp2
  go_quiet ((go_at_call 44; exact part_q P1.out))
  rename_i nq
  have HB := Lib.hid (below_drewN (Below.refl w.heap.size w) nq)
  have d2 : (w.drewN nq).cell? ⟨M, 2, none⟩ = some (.int .u32 2147483648) := c2
  have d5 : (w.drewN nq).cell? ⟨M, 5, none⟩ = some (.slice (some ⟨R, 0, none⟩) 128 128) := c5
  have s1 : (w.drewN nq).cell? ⟨R, 1, none⟩ = some (.int .u8 3) := r1
  generalize w.drewN nq = W at *
  clear c0 c2 c4 c5 r1
  go_wp2
  go_quiet ((go_at_call 44; exact part_q P2.out))
  rename_i nq
  have HB2 := Lib.hid (below_drewN HB.out nq)
  have s2 : (W.drewN nq).cell? ⟨R, 1, none⟩ = some (.int .u8 3) := s1
  generalize W.drewN nq = V at *
  clear d2 d5 s1
  go_wp2
  go_rounds 3
  go_ret2
  exact ⟨rfl, HB2.out⟩

set_option maxHeartbeats 400000 in
theorem map_any (w : World) : Calls Try.prog 18 #[] w fun e w' => e = .returned (.agg #[.int .u32 4096, .int .u32 256, .int .u32 2147483648, .int .u32 128]) ∧ Below w.heap.size w w' := by
  go_enter Try.func18, Try.ntmps18
  go_wp2
  exact bodyPost_ret (v := .agg #[.int .u32 4096, .int .u32 256, .int .u32 2147483648, .int .u32 128]) (by simp [results, Try.results18, go_sem]) rfl ⟨rfl, by go_grown⟩
theorem new_live (w : World) : Calls Try.prog 17 #[.agg #[.int .u32 4096, .int .u32 256, .int .u32 2147483648, .int .u32 128]] w (NewPost 4096 256 2147483648 128 w) :=
  new_yes 4096 256 2147483648 128 w (by omega) (by omega) (by omega) (by omega) (by decide)
theorem btM {w a b : World} (h : Below w.heap.size w a) (k : Below a.heap.size a b) : Below w.heap.size w b := h.trans (k.mono h.size)
end Go.Proofs.Ytlieapapmkbbgaa

namespace Go.Proofs.Ytlieapapmkbbgaa
open Go Go.RowKit Pl
set_option linter.unusedVariables false

theorem banks_mapM : Banks 4096 256 2147483648 128 := ⟨by omega, by omega, by omega, by omega, by omega⟩
theorem noughts_lenM (n : Nat) : (noughts n).length = n := by simp [noughts]
theorem made_noughtsM (n : Nat) : madeCells #[Value.int .u8 0] n = rowG (noughts n) := by
  apply Array.ext'
  apply List.ext_getElem?
  intro i
  simp only [madeCells, rowG, noughts, Array.toList_map, Array.toList_range, List.getElem?_map, List.map_replicate]
  by_cases h : i < n
  · rw [List.getElem?_range h, List.getElem?_replicate, if_pos h]
    have e : i % 1 = 0 := Nat.mod_one i
    simp [u8G, e]
  · rw [List.getElem?_eq_none (by simp; omega), List.getElem?_eq_none (by simp; omega)]; rfl
theorem new_mem {w3 : World} {M F R f n1 r n2 : Nat} (hM : w3.heap[M]? = some (.cells #[.int .u32 (f : Nat), .int .u32 (n1 : Nat), .int .u32 (r : Nat), .int .u32 (n2 : Nat), .slice (some ⟨F, 0, none⟩) n1 n1, .slice (some ⟨R, 0, none⟩) n2 n2] 74 (0, 0)))
    (hF : w3.heap[F]? = some (.cells (madeCells #[.int .u8 0] n1) 5 (0, 0))) (hR : w3.heap[R]? = some (.cells (madeCells #[.int .u8 0] n2) 5 (0, 0))) (hne : F ≠ R ∧ M ≠ F ∧ M ≠ R) : MemIs M F R f r (noughts n1) (noughts n2) w3 := by
  have l1 := noughts_lenM n1
  have l2 := noughts_lenM n2
  have zl : ∀ n, ∀ x ∈ noughts n, x < 256 := fun n x hx => by rw [List.eq_of_mem_replicate hx]; omega
  rw [made_noughtsM] at hF hR
  have cM : ∀ j v, (#[.int .u32 (f : Nat), .int .u32 (n1 : Nat), .int .u32 (r : Nat), .int .u32 (n2 : Nat), .slice (some ⟨F, 0, none⟩) n1 n1, .slice (some ⟨R, 0, none⟩) n2 n2] : Array Value)[j]? = some v → w3.cell? ⟨M, j, none⟩ = some v := fun j v hv => by rw [cell_of_row w3 M j _ _ _ hM]; exact hv
  exact { c0 := cM 0 _ rfl, c2 := cM 2 _ rfl, c4 := by rw [l1]; exact cM 4 _ rfl, c5 := by rw [l2]; exact cM 5 _ rfl, hF := hF, hR := hR, fF := zl n1, fR := zl n2, mF := hne.2.1, mR := hne.2.2, fr := hne.1 }
theorem new_agree {f r n1 n2 : Nat} : Agree f r (noughts n1) (noughts n2) [] := by
  constructor
  · intro i hi
    simp only [atL, noughts, List.getD, List.getElem?_replicate, List.foldl_nil]; split <;> rfl
  · intro i hi
    simp only [atL, noughts, List.getD, List.getElem?_replicate, List.foldl_nil]; split <;> rfl
theorem src_of {W : World} {b off : Nat} {t : List Nat} (h : ∀ k, k < t.length → W.cell? ⟨b, off + k, none⟩ = some (.int .u8 (t.getD k 0 : Nat))) : ∀ j u, (t.map u8G)[j]? = some u → W.cell? ((⟨b, off, none⟩ : Addr).add j) = some u := by
  intro j u hu
  have e : (⟨b, off, none⟩ : Addr).add j = ⟨b, off + j, none⟩ := by unfold Addr.add; split <;> simp_all
  rw [e]
  simp only [List.getElem?_map, Option.map_eq_some_iff] at hu
  obtain ⟨x, hx, rfl⟩ := hu
  have hj : j < t.length := (List.getElem?_eq_some_iff.1 hx).1
  rw [h j hj, List.getD, hx]
  rfl
theorem src_of' {W : World} {b off : Nat} {t : List Nat} (h : ∀ k, k < t.length → W.cell? ⟨b, off + k, none⟩ = some (.int .u8 (t.getD k 0 : Nat))) : ∀ j x, t[j]? = some x → W.cell? ⟨b, off + j, none⟩ = some (.int .u8 (x : Nat)) := by
  intro j x hx
  have hj : j < t.length := (List.getElem?_eq_some_iff.1 hx).1
  rw [h j hj, List.getD, hx]
  rfl
theorem setB_zero : setB (noughts 128) 0 [] = noughts 128 := by simp [setB]
theorem inB_ram {n : Nat} (h0 : 0 < n) (h : n ≤ 128) : inB 4096 256 2147483648 n = false ∧ inB 2147483648 128 2147483648 n = true := by
  unfold inB
  constructor
  · simp only [decide_eq_false_iff_not]; omega
  · simp only [decide_eq_true_eq]; omega
theorem put_ram {t : List Nat} (h0 : 0 < t.length) (h : t.length ≤ 128) : putF 4096 256 (noughts 256) 2147483648 t = noughts 256 ∧ putRm 4096 256 2147483648 128 (noughts 128) 2147483648 t = setB (noughts 128) 0 t ∧ wIn 4096 256 2147483648 128 2147483648 t.length = true := by
  obtain ⟨h1, h2⟩ := inB_ram h0 h
  unfold putF putRm wIn
  rw [h1, h2]
  simp
theorem below_grownM {w w1 w' : World} {v : Value} (h : Below w.heap.size w w1) (hg : w1.grownBy w' v.ownBlock) (hv : ∀ k, v.ownBlock = some k → w.heap.size ≤ k) : Below w.heap.size w w' :=
  h.grown hg h.size hv
theorem news_of {w w' : World} {b off : Nat} {t : List Nat} (h : ∀ k, k < t.length → w.cell? ⟨b, off + k, none⟩ = some (.int .u8 (t.getD k 0 : Nat))) (hw : ∀ k, w'.cell? ⟨b, k, none⟩ = w.cell? ⟨b, k, none⟩) : ∀ j u, (t.map u8v)[j]? = some u → w'.cell? ((⟨b, off, none⟩ : Addr).add j) = some u := by
  intro j u hu
  have e : (⟨b, off, none⟩ : Addr).add j = ⟨b, off + j, none⟩ := by unfold Addr.add; split <;> simp_all
  rw [e, hw]
  simp only [List.getElem?_map, Option.map_eq_some_iff] at hu
  obtain ⟨x, hx, rfl⟩ := hu
  have hj : j < t.length := (List.getElem?_eq_some_iff.1 hx).1
  rw [h j hj, List.getD, hx]
  rfl
theorem own_put {w : World} {base n : Nat} {v : Value} {t : List Nat} (h : w.ownsRow base 5 1 v (0 + n) ([] ++ t.map u8v)) (hn : t.length = n) (h0 : 0 < n) :
    ∃ g c, v = .slice (some ⟨g, 0, none⟩) n c ∧ base ≤ g ∧ g < w.heap.size ∧ ∀ k, k < t.length → w.cell? ⟨g, 0 + k, none⟩ = some (.int .u8 (t.getD k 0 : Nat)) := by
  rw [Nat.zero_add, List.nil_append] at h
  have hlt := h.lt
  have h' := h
  obtain ⟨_, ⟨hv, hn0⟩ | ⟨g, cap, cur, hv, hg, hh, hc, hcm, _⟩⟩ := h
  · omega
  · refine ⟨g, cap, hv, hg, (hlt g (by rw [hv]; rfl)).2, fun k hk => ?_⟩
    have := h'.cells (g := g) (by rw [hv]; rfl) k (u8v (t.getD k 0)) (by simp [u8v, List.getD, hk])
    have e : (⟨g, 0, none⟩ : Addr).add k = ⟨g, 0 + k, none⟩ := by unfold Addr.add; split <;> simp_all
    rw [e] at this
    exact this
end Go.Proofs.Ytlieapapmkbbgaa

namespace Go.Proofs.Ytlieapapmkbbgaa
open Go Go.RowKit Pl
set_option linter.unusedVariables false

/-- a memory, with bytes at the beginning of RAM -/
def MemyPost (w : World) (t : List Nat) (e : Ending) (w' : World) : Prop :=
  ∃ M F R, e = .returned (.pointer (some ⟨M, 0, none⟩)) ∧ MemIs M F R 4096 2147483648 (noughts 256) (setB (noughts 128) 0 t) w' ∧ (w.heap.size ≤ M ∧ w.heap.size ≤ F ∧ w.heap.size ≤ R) ∧ (M < w'.heap.size ∧ F < w'.heap.size ∧ R < w'.heap.size) ∧ Below w.heap.size w w'
theorem mem_lt {M F R f r : Nat} {Fb Rb : List Nat} {W : World} (h : MemIs M F R f r Fb Rb W) : M < W.heap.size ∧ F < W.heap.size ∧ R < W.heap.size :=
  ⟨World.block_lt_of_cell? W _ h.c0, (Array.getElem?_eq_some_iff.1 h.hF).1, (Array.getElem?_eq_some_iff.1 h.hR).1⟩
set_option maxRecDepth 100000 in
set_option maxHeartbeats 2000000 in
theorem memy_none  (w : World) :
    Calls Try.prog 8 #[.slice none 0 0] w (MemyPost w []) := by
  go_enter Try.func8, Try.ntmps8
  go_wp2_with fail
  refine (map_any w).mono ?_
  rintro e w1 ⟨rfl, b1⟩
  have B1 := Lib.hid b1
  clear b1
  go_wp2_with fail
  refine (new_live w1).mono ?_
  rintro e w3 ⟨M, F, R, rfl, hM, hF, hR, m1, m2, m3, hFR, hMF, hMR, l1, l2, l3, b3⟩
  have MI := Lib.hid (new_mem (f := 4096) (n1 := 256) (r := 2147483648) (n2 := 128) hM hF hR ⟨hFR, hMF, hMR⟩)
  have B3 := Lib.hid (B1.out.trans (b3.mono B1.out.size))
  have q1 : w.heap.size ≤ M := Nat.le_trans B1.out.size m1
  have q2 : w.heap.size ≤ F := Nat.le_trans B1.out.size m2
  have q3 : w.heap.size ≤ R := Nat.le_trans B1.out.size m3
  clear hM hF hR hFR hMF hMR b3 m1 m2 m3 l1 l2 l3
  have hal := Below.alloc (Below.refl w3.heap.size w3) (Nat.le_refl _) (.cells #[] 5)
  have M5 := Lib.hid (MI.out.out (Out.of_below (fun _ => False) hal) id id id)
  have B5 := Lib.hid (B3.out.trans (hal.mono B3.out.size))
  clear hal
  go_wp2_with (go_at_call 19; (with_reducible refine (mput_nil M _ _ _ _).mono ?_); rintro e w5 ⟨rfl, lk⟩; have M7 := Lib.hid (M5.out.like lk); have B7 := Lib.hid (lk.2 _ _ B5.out); clear lk)
  go_ret
  exact ⟨M, F, R, rfl, by rw [setB_zero]; exact M7.out, ⟨q1, q2, q3⟩, mem_lt M7.out, B7.out⟩
set_option maxRecDepth 100000 in
set_option maxHeartbeats 2000000 in
theorem memy_some (x : Addr) (c : Nat) (w : World) :
    Calls Try.prog 8 #[.slice (some x) 0 c] w (MemyPost w []) := by
  go_enter Try.func8, Try.ntmps8
  go_wp2_with fail
  refine (map_any w).mono ?_
  rintro e w1 ⟨rfl, b1⟩
  have B1 := Lib.hid b1
  clear b1
  go_wp2_with fail
  refine (new_live w1).mono ?_
  rintro e w3 ⟨M, F, R, rfl, hM, hF, hR, m1, m2, m3, hFR, hMF, hMR, l1, l2, l3, b3⟩
  have MI := Lib.hid (new_mem (f := 4096) (n1 := 256) (r := 2147483648) (n2 := 128) hM hF hR ⟨hFR, hMF, hMR⟩)
  have B3 := Lib.hid (B1.out.trans (b3.mono B1.out.size))
  have q1 : w.heap.size ≤ M := Nat.le_trans B1.out.size m1
  have q2 : w.heap.size ≤ F := Nat.le_trans B1.out.size m2
  have q3 : w.heap.size ≤ R := Nat.le_trans B1.out.size m3
  clear hM hF hR hFR hMF hMR b3 m1 m2 m3 l1 l2 l3
  have hal := Below.alloc (Below.refl w3.heap.size w3) (Nat.le_refl _) (.cells #[] 5)
  have M5 := Lib.hid (MI.out.out (Out.of_below (fun _ => False) hal) id id id)
  have B5 := Lib.hid (B3.out.trans (hal.mono B3.out.size))
  clear hal
  go_wp2_with (go_at_call 19; (with_reducible refine (mput_nil M _ _ _ _).mono ?_); rintro e w5 ⟨rfl, lk⟩; have M7 := Lib.hid (M5.out.like lk); have B7 := Lib.hid (lk.2 _ _ B5.out); clear lk)
  go_ret
  exact ⟨M, F, R, rfl, by rw [setB_zero]; exact M7.out, ⟨q1, q2, q3⟩, mem_lt M7.out, B7.out⟩
set_option maxRecDepth 100000 in
set_option maxHeartbeats 2000000 in
theorem memy_few (b off c n : Nat) (t : List Nat) (w : World) (ht : t.length = n) (h0 : 0 < n) (hn : n ≤ 100) (hc : n ≤ c) (hb : b < w.heap.size) (h256 : ∀ x ∈ t, x < 256) (hcel : ∀ k, k < t.length → w.cell? ⟨b, off + k, none⟩ = some (.int .u8 (t.getD k 0 : Nat))) :
    Calls Try.prog 8 #[.slice (some ⟨b, off, none⟩) n c] w (MemyPost w t) := by
  have T256 := Lib.hid h256
  have CEL := Lib.hid hcel
  have HN := Lib.hid ht
  have HNL := Lib.hid (show 0 < n ∧ n ≤ 100 from ⟨h0, hn⟩)
  clear h256 hcel ht
  have t100 : decide ((100 : Int) < (n : Int)) = false := by simp; omega
  go_enter Try.func8, Try.ntmps8
  go_wp2_with fail
  refine (map_any w).mono ?_
  rintro e w1 ⟨rfl, b1⟩
  have B1 := Lib.hid b1
  clear b1
  go_wp2_with fail
  refine (new_live w1).mono ?_
  rintro e w3 ⟨M, F, R, rfl, hM, hF, hR, m1, m2, m3, hFR, hMF, hMR, l1, l2, l3, b3⟩
  have MI := Lib.hid (new_mem (f := 4096) (n1 := 256) (r := 2147483648) (n2 := 128) hM hF hR ⟨hFR, hMF, hMR⟩)
  have B3 := Lib.hid (B1.out.trans (b3.mono B1.out.size))
  have q1 : w.heap.size ≤ M := Nat.le_trans B1.out.size m1
  have q2 : w.heap.size ≤ F := Nat.le_trans B1.out.size m2
  have q3 : w.heap.size ≤ R := Nat.le_trans B1.out.size m3
  clear hM hF hR hFR hMF hMR b3 m1 m2 m3 l1 l2 l3
  have hal := Below.alloc (Below.refl w3.heap.size w3) (Nat.le_refl _) (.cells #[] 5)
  obtain ⟨i0, hi0, hz0, hz1, hz2⟩ := info_parts info_u8
  have OWN0 := Lib.hid (own_empty w3 w3.heap.size (Nat.le_refl _))
  have M5 := Lib.hid (MI.out.out (Out.of_below (fun _ => False) hal) id id id)
  have ML := Lib.hid (mem_lt MI.out)
  have B5 := Lib.hid (B3.out.trans (hal.mono B3.out.size))
  have NEWS := Lib.hid (news_of (w' := w3.alloc (.cells #[] 5)) CEL.out (fun k => B5.out.cell (p := ⟨b, k, none⟩) hb))
  have ONEC := Lib.hid (one_cell t)
  have LNM := Lib.hid (show (t.map u8v).length = n * 1 by rw [List.length_map, HN.out, Nat.mul_one])
  have MX := Lib.hid (show 0 + n ≤ maxLen by have := HNL.out; unfold maxLen; omega)
  have MXB := Lib.hid (show (0 + n) * 1 ≤ 140737488355328 by have := HNL.out; omega)
  have SZ := Lib.hid (show w3.heap.size ≤ (w3.alloc (.cells #[] 5)).heap.size by simp)
  have HNL2 := Lib.hid (show 0 < t.length ∧ t.length ≤ 100 by rw [HN.out]; exact HNL.out)
  have PR := Lib.hid (put_ram HNL2.out.1 (by have := HNL2.out; omega))
  clear hal
  go_wp2_with (first
    | (at_builtin; (refine wpList_append_own _ rfl (.tmp 16) (.tmp 17) 23 rfl w3.heap.size 5 i0 (.int .u8 0) 1 1 Try.underlying23 hi0 hz0 hz1 hz2 rfl (by decide) (.slice (some ⟨w3.heap.size, 0, none⟩) 0 0) 0 [] rfl OWN0.out ⟨b, off, none⟩ n c (t.map u8v) rfl LNM.out NEWS.out ONEC.out MX.out MXB.out SZ.out ?_; intro v1 w7 hown hgrow hn7; obtain ⟨g, cc, rfl, hgX, hgl, hcl⟩ := own_put hown HN.out HNL.out.1; have CW := Lib.hid hcl; have B7 := Lib.hid (below_grownM B5.out hgrow (fun k hk => by cases hk; exact B3.out.size)); have O7 := Lib.hid (show Out (· = w3.heap.size) _ w7 from Out.of_grown hgrow (fun k hk => by cases hk; rfl)); have M7 := Lib.hid (M5.out.out O7.out (by have := ML.out; omega) (by have := ML.out; omega) (by have := ML.out; omega)); have PM := Lib.hid (MemIs.put M7.out banks_mapM 2147483648 t (by decide) HNL2.out.1 (by have := HNL2.out; omega) T256.out ⟨g, 0, none⟩ cc (src_of (b := g) (off := 0) (W := w7) CW.out)); clear hown hgrow hn7 hcl; rw [HN.out, show ((2147483648 : Nat) : Int) = 2147483648 from rfl] at PM))
    | (go_at_call 19; go_loud ((with_reducible refine PM.out.mono ?_); rintro e w8 ⟨rfl, m8, o8⟩; have M8 := Lib.hid m8; have B8 := Lib.hid (show Below w.heap.size w w8 from o8.below B7.out (Nat.le_refl _) (by rintro j (h | h) <;> omega)); clear m8 o8)))
  go_ret
  refine ⟨M, F, R, rfl, ?_, ⟨q1, q2, q3⟩, mem_lt M8.out, B8.out⟩
  have := M8.out
  rw [show (noughts 256).length = 256 from noughts_lenM _, show (noughts 128).length = 128 from noughts_lenM _, PR.out.1, PR.out.2.1] at this
  exact this
set_option maxRecDepth 100000 in
set_option maxHeartbeats 2000000 in
theorem memy_long (b off c : Nat) (l t : List Nat) (w : World) (ht : t = l.take 100) (hl : 100 < l.length) (hc : l.length ≤ c) (hb : b < w.heap.size) (h256 : ∀ x ∈ t, x < 256) (hcel : ∀ k, k < t.length → w.cell? ⟨b, off + k, none⟩ = some (.int .u8 (t.getD k 0 : Nat))) :
    Calls Try.prog 8 #[.slice (some ⟨b, off, none⟩) l.length c] w (MemyPost w t) := by
  have T256 := Lib.hid h256
  have CEL := Lib.hid hcel
  have HN := Lib.hid (show t.length = 100 by rw [ht]; simp; omega)
  have HNL := Lib.hid (show 0 < 100 ∧ 100 ≤ 100 by omega)
  clear h256 hcel ht
  have t100 : decide ((100 : Int) < (l.length : Int)) = true := by simp; omega
  have c100 : (100 : Int) ≤ (c : Int) := by omega
  go_enter Try.func8, Try.ntmps8
  go_wp2_with fail
  refine (map_any w).mono ?_
  rintro e w1 ⟨rfl, b1⟩
  have B1 := Lib.hid b1
  clear b1
  go_wp2_with fail
  refine (new_live w1).mono ?_
  rintro e w3 ⟨M, F, R, rfl, hM, hF, hR, m1, m2, m3, hFR, hMF, hMR, l1, l2, l3, b3⟩
  have MI := Lib.hid (new_mem (f := 4096) (n1 := 256) (r := 2147483648) (n2 := 128) hM hF hR ⟨hFR, hMF, hMR⟩)
  have B3 := Lib.hid (B1.out.trans (b3.mono B1.out.size))
  have q1 : w.heap.size ≤ M := Nat.le_trans B1.out.size m1
  have q2 : w.heap.size ≤ F := Nat.le_trans B1.out.size m2
  have q3 : w.heap.size ≤ R := Nat.le_trans B1.out.size m3
  clear hM hF hR hFR hMF hMR b3 m1 m2 m3 l1 l2 l3
  have hal := Below.alloc (Below.refl w3.heap.size w3) (Nat.le_refl _) (.cells #[] 5)
  obtain ⟨i0, hi0, hz0, hz1, hz2⟩ := info_parts info_u8
  have OWN0 := Lib.hid (own_empty w3 w3.heap.size (Nat.le_refl _))
  have M5 := Lib.hid (MI.out.out (Out.of_below (fun _ => False) hal) id id id)
  have ML := Lib.hid (mem_lt MI.out)
  have B5 := Lib.hid (B3.out.trans (hal.mono B3.out.size))
  have NEWS := Lib.hid (news_of (w' := w3.alloc (.cells #[] 5)) CEL.out (fun k => B5.out.cell (p := ⟨b, k, none⟩) hb))
  have ONEC := Lib.hid (one_cell t)
  have LNM := Lib.hid (show (t.map u8v).length = 100 * 1 by rw [List.length_map, HN.out, Nat.mul_one])
  have MX := Lib.hid (show 0 + 100 ≤ maxLen by have := HNL.out; unfold maxLen; omega)
  have MXB := Lib.hid (show (0 + 100) * 1 ≤ 140737488355328 by have := HNL.out; omega)
  have SZ := Lib.hid (show w3.heap.size ≤ (w3.alloc (.cells #[] 5)).heap.size by simp)
  have HNL2 := Lib.hid (show 0 < t.length ∧ t.length ≤ 100 by rw [HN.out]; exact HNL.out)
  have PR := Lib.hid (put_ram HNL2.out.1 (by have := HNL2.out; omega))
  clear hal
  go_wp2_with (first
    | (at_builtin; (refine wpList_append_own _ rfl (.tmp 16) (.tmp 17) 23 rfl w3.heap.size 5 i0 (.int .u8 0) 1 1 Try.underlying23 hi0 hz0 hz1 hz2 rfl (by decide) (.slice (some ⟨w3.heap.size, 0, none⟩) 0 0) 0 [] rfl OWN0.out ⟨b, off, none⟩ 100 c (t.map u8v) rfl LNM.out NEWS.out ONEC.out MX.out MXB.out SZ.out ?_; intro v1 w7 hown hgrow hn7; obtain ⟨g, cc, rfl, hgX, hgl, hcl⟩ := own_put hown HN.out HNL.out.1; have CW := Lib.hid hcl; have B7 := Lib.hid (below_grownM B5.out hgrow (fun k hk => by cases hk; exact B3.out.size)); have O7 := Lib.hid (show Out (· = w3.heap.size) _ w7 from Out.of_grown hgrow (fun k hk => by cases hk; rfl)); have M7 := Lib.hid (M5.out.out O7.out (by have := ML.out; omega) (by have := ML.out; omega) (by have := ML.out; omega)); have PM := Lib.hid (MemIs.put M7.out banks_mapM 2147483648 t (by decide) HNL2.out.1 (by have := HNL2.out; omega) T256.out ⟨g, 0, none⟩ cc (src_of (b := g) (off := 0) (W := w7) CW.out)); clear hown hgrow hn7 hcl; rw [HN.out, show ((2147483648 : Nat) : Int) = 2147483648 from rfl] at PM))
    | (go_at_call 19; go_loud ((with_reducible refine PM.out.mono ?_); rintro e w8 ⟨rfl, m8, o8⟩; have M8 := Lib.hid m8; have B8 := Lib.hid (show Below w.heap.size w w8 from o8.below B7.out (Nat.le_refl _) (by rintro j (h | h) <;> omega)); clear m8 o8)))
  go_ret
  refine ⟨M, F, R, rfl, ?_, ⟨q1, q2, q3⟩, mem_lt M8.out, B8.out⟩
  have := M8.out
  rw [show (noughts 256).length = 256 from noughts_lenM _, show (noughts 128).length = 128 from noughts_lenM _, PR.out.1, PR.out.2.1] at this
  exact this
/-- whatever bytes come in -/
theorem memy_any (a : Option Addr) (c : Nat) (l t : List Nat) (w : World) (h : SliceIn w a l c) (ht : t = l.take 100) :
    Calls Try.prog 8 #[.slice a l.length c] w (MemyPost w t) := by
  obtain ⟨h256, hc, hcm, ⟨rfl, rfl, rfl⟩ | ⟨⟨x, rfl⟩, rfl⟩ | ⟨b, off, rfl, hb, hcs⟩⟩ := h
  · subst ht; exact memy_none w
  · subst ht; exact memy_some x c w
  · by_cases h0 : l = []
    · subst h0; subst ht; exact memy_some _ c w
    · have hp : 0 < l.length := List.length_pos_iff.2 h0
      by_cases h : 100 < l.length
      · subst ht
        refine memy_long b off c l (l.take 100) w rfl h hc hb (fun x hx => h256 x (List.mem_of_mem_take hx)) (fun k hk => ?_)
        have hk2 : k < 100 ∧ k < l.length := by simp at hk; omega
        rw [hcs k hk2.2]
        simp [List.getD, hk2.1]
      · have e : l.take 100 = l := List.take_of_length_le (by omega)
        rw [ht, e]
        exact memy_few b off c l.length l w rfl hp (by omega) hc hb h256 hcs
end Go.Proofs.Ytlieapapmkbbgaa
