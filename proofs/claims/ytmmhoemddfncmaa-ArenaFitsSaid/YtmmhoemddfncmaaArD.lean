/- Contract of arena.gap: the place that is taken. -/
import Derived.Test.YtmmhoemddfncmaaArC
import Derived.Shelf.SlSortCmp.NoneTotal
namespace Go.Proofs.Ytmmhoemddfncmaa
open Go Go.RowKit
set_option linter.unusedVariables false

def GapB (M : Int) (s : Int × Int × Int) : Prop := 0 ≤ s.1 ∧ s.1 ≤ M ∧ 0 ≤ s.2.1 ∧ s.2.1 ≤ M ∧ 0 ≤ s.2.2 ∧ s.2.2 ≤ M
theorem gapB_step {size M : Int} {s : Int × Int × Int} {r : Rm} (h : GapB M s) (hs : 0 < size) (h1 : 0 ≤ r.1) (h2 : r.1 < r.2) (h3 : r.2 ≤ M) : GapB M (gapT size s r) := by
  obtain ⟨a, b, c, d, e, f⟩ := h
  unfold GapB gapT
  split <;> simp only <;> omega
theorem fold_next {α β : Type} {f : α → β → α} {l : List β} {k : Nat} {x : β} {z : α} (h : l[k]? = some x) : (l.take (k + 1)).foldl f z = f ((l.take k).foldl f z) x := by
  rw [List.take_add_one, h, List.foldl_append]
  rfl
theorem own_shape {w : World} {base : Nat} {v : Value} {T : List Rm} (h : w.ownsRow base 43 2 v T.length (c2 T)) : (v = .slice none 0 0 ∧ T = []) ∨ ∃ G c, v = .slice (some ⟨G, 0, none⟩) T.length c ∧ base ≤ G ∧ c ≤ maxLen ∧ SW w base G c T.length T.toArray := by
  have h' := h
  obtain ⟨h1, ⟨hv, hn⟩ | ⟨g, cap, cur, hv, hg, hh, hc, hcm, _⟩⟩ := h
  · exact .inl ⟨hv, List.eq_nil_of_length_eq_zero hn⟩
  · right
    rw [hv] at h'
    exact ⟨g, cap, hv, hg, hcm, by simp, by simpa using h'⟩

set_option maxHeartbeats 2000000 in
theorem gap_nil (size : Int) (w : World) :
    Calls Try.prog 20 #[.slice none 0 0, .int .i64 size] w fun e w' => e = .returned (.int .i64 0) ∧ Below w.heap.size w w' := by
  have C := Lib.hid (show Calls Try.prog 29 #[.slice none 0 0, .func (.func 30) #[] #[]] w fun e w' => e = .returned (.tuple #[]) ∧ w' = w from AnyF.slices_SortFunc_none sortRm none 0 _ w)
  go_enter Try.func20, Try.ntmps20
  go_wp2_with fail
  refine C.out.mono ?_
  rintro e w1 ⟨rfl, rfl⟩
  go_wp2_with fail
  go_rounds 1
  go_ret
  exact ⟨rfl, by go_grown⟩

set_option maxRecDepth 100000 in
set_option maxHeartbeats 4000000 in
theorem gap_some (base G c : Nat) (T : List Rm) (size M : Int) (w : World) (own : SW w base G c T.length T.toArray) (hbG : base ≤ G) (hbw : base ≤ w.heap.size) (hs : 0 < size) (hs2 : size ≤ 2000000) (hM : M ≤ 1000000000) (hg : GoodR T) (hb : ∀ r ∈ T, r.2 ≤ M) (hM0 : 0 ≤ M) (hn : T.length ≤ 100) :
    Calls Try.prog 20 #[.slice (some ⟨G, 0, none⟩) T.length c, .int .i64 size] w fun e w' => e = .returned (.int .i64 (gapS size T)) ∧ Below base w w' := by
  have C := Lib.hid (sortF_any base G c T.length T.toArray w own (by omega))
  have HG := Lib.hid hg
  have HB := Lib.hid hb
  obtain ⟨res, hres⟩ : ∃ res, res = gapS size T := ⟨_, rfl⟩
  rw [← hres]
  have HRES := Lib.hid hres
  clear own hg hb hres
  go_enter Try.func20, Try.ntmps20
  go_wp2_with fail
  refine C.out.mono ?_
  rintro e w1 ⟨rfl, d, hm, hr, own, gr⟩
  have B1 := Lib.hid ((Below.refl base w).grown gr hbw (fun k hk => by cases hk; exact hbG))
  have hm' : ∀ r, r ∈ d.toList ↔ r ∈ T := by simpa using hm
  have RES := Lib.hid (gapS_eq hs HG.out hm' hr)
  have HM := Lib.hid hm'
  have hsz := own.1
  have hlen : d.toList.length = T.length := by simpa using hsz
  have CELL := Lib.hid (show ∀ (k : Nat) (x : Rm), d.toList[k]? = some x → w1.cell? ⟨G, k * 2, none⟩ = some (.int .i64 x.1) ∧ w1.cell? ⟨G, k * 2 + 1, none⟩ = some (.int .i64 x.2) from fun k x hx => by
    have hk : k < T.length := by
      rcases Nat.lt_or_ge k T.length with h | h
      · exact h
      · rw [List.getElem?_eq_none (by omega)] at hx; cases hx
    obtain ⟨c0, c1, _⟩ := own.at hk
    have e : d[k]! = x := by
      have hk2 : k < d.size := by omega
      rw [getElem!_pos d k hk2]
      simpa [hk2] using hx
    rw [e] at c0 c1
    exact ⟨c0, c1⟩)
  have gl := (own.2.lt G rfl).2
  generalize d.toList = D at hm' hr hlen RES HM CELL
  clear own gr hm hm' hr C hsz
  have HLEN := Lib.hid hlen
  have GR := Lib.hid (show ∀ (k : Nat) (x : Rm), D[k]? = some x → 0 ≤ x.1 ∧ x.1 < x.2 ∧ x.2 ≤ M from fun k x hx => by
    have h1 := (HM.out x).1 (List.mem_of_getElem? hx)
    have := HG.out x h1
    have := HB.out x h1
    omega)
  rw [← hlen]
  have hn2 : D.length ≤ 100 := by omega
  clear hlen hn
  go_wp2_with fail
  go_loopw [5, 6, 7, 15] (fun e b f i wr => ∃ k : Nat, k ≤ D.length ∧ GapB M ((D.take k).foldl (gapT size) (0, 0, 0)) ∧ e = .int .i64 ((D.take k).foldl (gapT size) (0, 0, 0)).1 ∧ b = .int .i64 ((D.take k).foldl (gapT size) (0, 0, 0)).2.1 ∧ f = .int .i64 ((D.take k).foldl (gapT size) (0, 0, 0)).2.2 ∧ i = .int .i64 k ∧ Below w1.heap.size w1 wr) (fun _ _ _ i _ => D.length - (intOf i).toNat)
  case atStart => exact ⟨0, Nat.zero_le _, by unfold GapB; simp; omega, rfl, rfl, rfl, rfl, Below.refl _ _⟩
  case round =>
    obtain ⟨k, hk, hB, rfl, rfl, rfl, rfl, hbl⟩ := hrel
    have HBL := Lib.hid hbl
    have hws := hbl.size
    obtain ⟨s, hs⟩ : ∃ s, s = (D.take k).foldl (gapT size) (0, 0, 0) := ⟨_, rfl⟩
    rw [← hs] at hB
    rw [← hs]
    have HS := Lib.hid hs
    clear hs hbl
    by_cases hlt : k < D.length
    · obtain ⟨⟨x1, x2⟩, hx⟩ : ∃ x, D[k]? = some x := ⟨_, List.getElem?_eq_getElem hlt⟩
      obtain ⟨r1, r2, r3⟩ := GR.out k _ hx
      have c0 := (HBL.out.cell (p := ⟨G, k * 2, none⟩) gl).trans (CELL.out k _ hx).1
      have c1 := (HBL.out.cell (p := ⟨G, k * 2 + 1, none⟩) gl).trans (CELL.out k _ hx).2
      have NX := fold_next (f := gapT size) (z := (0, 0, 0)) hx
      rw [← HS.out] at NX
      have NB := gapB_step hB (by omega) r1 r2 r3
      have glr : G < wr.heap.size := by omega
      obtain ⟨E, B, L⟩ := s
      obtain ⟨b1, b2, b3, b4, b5, b6⟩ := hB
      simp only at b1 b2 b3 b4 b5 b6 r1 r2 r3 c0 c1 ⊢
      obtain ⟨fr, hfr⟩ : ∃ fr, fr = x1 - E := ⟨_, rfl⟩
      have efr : x1 - E = fr := hfr.symm
      have frb : -1000000000 ≤ fr ∧ fr ≤ 1000000000 := by omega
      obtain ⟨mx, hmx⟩ : ∃ mx, mx = max E x2 := ⟨_, rfl⟩
      have GT : gapT size (E, B, L) (x1, x2) = (mx, if size ≤ fr ∧ (L = 0 ∨ fr < L) then (E, fr) else (B, L)) := by rw [hmx, hfr]; rfl
      have HMX := Lib.hid hmx
      clear hfr hmx hx
      by_cases c1' : size ≤ fr
      · have t1 : decide (size ≤ fr) = true := by simpa using c1'
        by_cases c2' : L = 0
        · have t2 : (L == 0) = true := by simp [c2']
          rw [if_pos ⟨c1', .inl c2'⟩] at GT
          clear c1' c2'
          rw [GT] at NX NB
          have NX := Lib.hid NX
          have NB := Lib.hid NB
          clear GT
          go_wp2_with fail
          refine ⟨⟨k + 1, by omega, by rw [NX.out]; exact NB.out, by rw [NX.out, HMX.out], by rw [NX.out], by rw [NX.out], by simp, by have := HBL.out; go_grown⟩, by simp [intOf]; omega⟩
        · have t2 : (L == 0) = false := by simp [c2']
          by_cases c3' : fr < L
          · have t3 : decide (fr < L) = true := by simpa using c3'
            rw [if_pos ⟨c1', .inr c3'⟩] at GT
            clear c1' c2' c3'
            rw [GT] at NX NB
            have NX := Lib.hid NX
            have NB := Lib.hid NB
            clear GT
            go_wp2_with fail
            refine ⟨⟨k + 1, by omega, by rw [NX.out]; exact NB.out, by rw [NX.out, HMX.out], by rw [NX.out], by rw [NX.out], by simp, by have := HBL.out; go_grown⟩, by simp [intOf]; omega⟩
          · have t3 : decide (fr < L) = false := by simpa using c3'
            rw [if_neg (fun h => by omega)] at GT
            clear c1' c2' c3'
            rw [GT] at NX NB
            have NX := Lib.hid NX
            have NB := Lib.hid NB
            clear GT
            go_wp2_with fail
            refine ⟨⟨k + 1, by omega, by rw [NX.out]; exact NB.out, by rw [NX.out, HMX.out], by rw [NX.out], by rw [NX.out], by simp, by have := HBL.out; go_grown⟩, by simp [intOf]; omega⟩
      · have t1 : decide (size ≤ fr) = false := by simpa using c1'
        rw [if_neg (fun h => c1' h.1)] at GT
        clear c1'
        rw [GT] at NX NB
        have NX := Lib.hid NX
        have NB := Lib.hid NB
        clear GT
        go_wp2_with fail
        refine ⟨⟨k + 1, by omega, by rw [NX.out]; exact NB.out, by rw [NX.out, HMX.out], by rw [NX.out], by rw [NX.out], by simp, by have := HBL.out; go_grown⟩, by simp [intOf]; omega⟩
    · have hk2 : k = D.length := by omega
      have tk : D.take k = D := by rw [hk2, List.take_of_length_le (Nat.le_refl _)]
      have e := HS.out
      rw [tk] at e
      have R2 := RES.out
      unfold gapL gapO at R2
      rw [← e] at R2
      obtain ⟨E, B, L⟩ := s
      simp only at R2 ⊢
      have HR2 := Lib.hid R2
      have t0 : decide ((k : Int) < (D.length : Int)) = false := by simp; omega
      by_cases h0 : L = 0
      · rw [if_pos h0] at R2
        have t1 : (L == 0) = true := by simp [h0]
        have R3 := Lib.hid (HRES.out.trans R2.symm)
        clear h0 R2 e HR2 tk hk2
        go_wp2_with fail
        go_ret
        exact ⟨by rw [R3.out]; rfl, B1.out.trans (HBL.out.mono (Nat.le_trans hbw B1.out.size))⟩
      · rw [if_neg h0] at R2
        have t1 : (L == 0) = false := by simp [h0]
        have R3 := Lib.hid (HRES.out.trans R2.symm)
        clear h0 R2 e HR2 tk hk2
        go_wp2_with fail
        go_ret
        exact ⟨by rw [R3.out]; rfl, B1.out.trans (HBL.out.mono (Nat.le_trans hbw B1.out.size))⟩
/-- the place that is taken, wherever what is taken lies -/
theorem gap_any (base : Nat) (v : Value) (T : List Rm) (size M : Int) (w : World) (own : w.ownsRow base 43 2 v T.length (c2 T)) (hbw : base ≤ w.heap.size) (hs : 0 < size) (hs2 : size ≤ 2000000) (hM : M ≤ 1000000000) (hg : GoodR T) (hb : ∀ r ∈ T, r.2 ≤ M) (hM0 : 0 ≤ M) (hn : T.length ≤ 100) :
    Calls Try.prog 20 #[v, .int .i64 size] w fun e w' => e = .returned (.int .i64 (gapS size T)) ∧ Below base w w' := by
  rcases own_shape own with ⟨rfl, rfl⟩ | ⟨G, c, rfl, hG, hc, sw⟩
  · rw [gapS_nil]
    exact (gap_nil size w).mono fun e w' h => ⟨h.1, h.2.mono hbw⟩
  · exact gap_some base G c T size M w sw hG hbw hs hs2 hM hg hb hM0 hn
end Go.Proofs.Ytmmhoemddfncmaa
