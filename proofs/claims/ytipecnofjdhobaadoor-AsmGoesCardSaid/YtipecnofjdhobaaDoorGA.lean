/- asm.Words; the words of three items. -/
import Derived.Test.YtipecnofjdhobaaDoorGC
namespace Go.Proofs.YtipecnofjdhobaaDoor
open Go Go.RowKit Go.Maps Pl
set_option linter.unusedVariables false
set_option linter.unusedSimpArgs false
set_option maxRecDepth 100000

def WdPost (l : List It) (base : Int) (w : World) (e : Ending) (w' : World) : Prop :=
  Below w.heap.size w w' ∧ ((∃ (wv : Value) (K : List Int) (f : Int → Int) (tg : Nat → Int) (F : Nat → Bool), e = .returned (.tuple #[wv, .int .i64 0]) ∧ base % 4 = 0 ∧ OwnU w' w.heap.size wv (wordsK l F (offL l f ((rxM l tg).pl F)) l.length) ∧
      InvP l ((rxM l tg).pl F) l.length K f ∧ CanAll l ∧ TgOk l tg ∧ (rxM l tg).closed F ∧ (∀ G, (rxM l tg).closed G → ∀ i, F i = true → G i = true) ∧ (∀ i, F i = true → i < l.length ∧ brL l i = true)) ∨
    ((∃ r : Int, r ≠ 0 ∧ e = .returned (.tuple #[.slice none 0 0, .int .i64 r])) ∧ (base % 4 = 0 → ¬ (CanAll l ∧ Uniq l ∧ Present l))))
theorem wd_no {l : List It} {base : Int} {w w' : World} (hb : Below w.heap.size w w') {r : Int} (hr : r ≠ 0) (h : base % 4 = 0 → ¬ (CanAll l ∧ Uniq l ∧ Present l)) : WdPost l base w (.returned (.tuple #[.slice none 0 0, .int .i64 r])) w' := ⟨hb, .inr ⟨⟨r, hr, rfl⟩, h⟩⟩
theorem wd_yes {l : List It} {base : Int} {w w' : World} {wv : Value} {K : List Int} {f : Int → Int} {tg : Nat → Int} {F : Nat → Bool} (hb : Below w.heap.size w w') (h0 : base % 4 = 0) (h1 : OwnU w' w.heap.size wv (wordsK l F (offL l f ((rxM l tg).pl F)) l.length)) (h3 : InvP l ((rxM l tg).pl F) l.length K f) (h4 : CanAll l) (h5 : TgOk l tg) (h6 : (rxM l tg).closed F) (h7 : ∀ G, (rxM l tg).closed G → ∀ i, F i = true → G i = true) (h8 : ∀ i, F i = true → i < l.length ∧ brL l i = true) :
    WdPost l base w (.returned (.tuple #[wv, .int .i64 0])) w' := ⟨hb, .inl ⟨wv, K, f, tg, F, rfl, h0, h1, h3, h4, h5, h6, h7, h8⟩⟩
set_option maxHeartbeats 4000000 in
theorem words_any (l : List It) (hok : ∀ x ∈ l, x.okay) (base : Int) (at0 : Option Addr) (c : Nat) (w : World) (ht3 : T3 w) (hA : ItAt w at0 l) (hl : l.length ≤ 4000) (hc : c ≤ 9223372036854775807) (hb0 : 0 ≤ base) (hb1 : base < 4294967296) :
    Calls Tryd.prog 6 #[.int .u32 base, .slice at0 l.length c] w (WdPost l base w) := by
  have HAS := Lib.hid (assemble_any l hok base at0 c w ht3 hA hl hc hb0 hb1)
  clear ht3 hA hok
  go_enter Tryd.func6, Tryd.ntmps6
  go_wp2_with (go_at_call 11; refine HAS.out.mono ?_; rintro e w2 ⟨hb2, ⟨wv, mb, n, K, f, tg, F, rfl, h0, h1, h2, h3, h4, h5, h6, h7, h8⟩ | ⟨⟨r, hr, rfl⟩, hn⟩⟩)
  · obtain ⟨va, vc, rfl, _⟩ := own_slU h1
    have HB2 := Lib.hid hb2
    have X0 := Lib.hid h0
    have X1 := Lib.hid h1
    have X3 := Lib.hid h3
    have X4 := Lib.hid h4
    have X5 := Lib.hid h5
    have X6 := Lib.hid h6
    have X7 := Lib.hid h7
    have X8 := Lib.hid h8
    clear hb2 h0 h1 h2 h3 h4 h5 h6 h7 h8
    go_wp2_with fail
    go_returns
    exact wd_yes HB2.out X0.out X1.out X3.out X4.out X5.out X6.out X7.out X8.out
  · have HB2 := Lib.hid hb2
    have HNN := Lib.hid hn
    have HR := Lib.hid hr
    clear hb2 hn hr
    go_wp2_with fail
    go_returns
    exact wd_no HB2.out HR.out HNN.out
/-- the three items of lives -/
def l14 : List It := [⟨2, 0, 0, 0, 0, 0, 1⟩, ⟨1, 19, 0, 0, 0, 0, 0⟩, ⟨4, 44, 0, 0, 0, 0, 1⟩]
theorem l14_br (i : Nat) : brL l14 i = false := by
  match i with
  | 0 => rfl
  | 1 => rfl
  | 2 => rfl
  | i + 3 => rfl
theorem l14_words {tg : Nat → Int} {F : Nat → Bool} {K : List Int} {f : Int → Int} (hi : InvP l14 ((rxM l14 tg).pl F) l14.length K f) (hF : ∀ i, F i = true → i < l14.length ∧ brL l14 i = true) : wordsK l14 F (offL l14 f ((rxM l14 tg).pl F)) l14.length = [19, 4292866159] := by
  have hf : F = fun _ => false := by
    funext i
    cases h : F i with
    | false => rfl
    | true => have := (hF i h).2; rw [l14_br] at this; cases this
  subst hf
  have h1 := (hi.at_ 0 _ (by decide) rfl rfl).2
  have p0 : (rxM l14 tg).pl (fun _ => false) 0 = 0 := rfl
  have p2 : (rxM l14 tg).pl (fun _ => false) 2 = 4 := (show plR (szR (szL l14) (fun _ => false)) 2 = 4 by decide)
  have o2 : offL l14 f ((rxM l14 tg).pl fun _ => false) 2 = -4 := by
    rw [offL_at (x := ⟨4, 44, 0, 0, 0, 0, 1⟩) rfl, p2]
    rw [p0] at h1
    dsimp only at h1 ⊢
    omega
  have o0 : wordsK l14 (fun _ => false) (offL l14 f ((rxM l14 tg).pl fun _ => false)) 1 = [] := by rw [wordsK_succ (x := ⟨2, 0, 0, 0, 0, 0, 1⟩) rfl]; rfl
  have o1 : wordsK l14 (fun _ => false) (offL l14 f ((rxM l14 tg).pl fun _ => false)) 2 = [19] := by
    rw [wordsK_succ (x := ⟨1, 19, 0, 0, 0, 0, 0⟩) rfl, o0]
    show [encI (It.q ⟨1, 19, 0, 0, 0, 0, 0⟩)] = _
    decide
  show wordsK l14 _ _ 3 = _
  rw [wordsK_succ (x := ⟨4, 44, 0, 0, 0, 0, 1⟩) rfl, o1, o2]
  show [19] ++ [encI ⟨44, 0, 0, 0, -4⟩] = _
  decide
theorem l14_can : CanAll l14 := by unfold CanAll l14; decide
end Go.Proofs.YtipecnofjdhobaaDoor

namespace Go.Proofs.YtipecnofjdhobaaDoor
open Go Go.RowKit Go.Maps Pl
set_option linter.unusedVariables false
set_option linter.unusedSimpArgs false
set_option maxRecDepth 100000

set_option maxHeartbeats 4000000 in
theorem same_two (x y : Int) (g h c d : Nat) (w : World) (hg : g < w.heap.size) (hh : h < w.heap.size) (g0 : w.cell? ⟨g, 0, none⟩ = some (.int .u32 x)) (g1 : w.cell? ⟨g, 1, none⟩ = some (.int .u32 y)) (h0 : w.cell? ⟨h, 0, none⟩ = some (.int .u32 x)) (h1 : w.cell? ⟨h, 1, none⟩ = some (.int .u32 y)) :
    Calls Tryd.prog 12 #[.slice (some ⟨g, 0, none⟩) 2 c, .slice (some ⟨h, 0, none⟩) 2 d] w fun e w' => e = .returned (.bool true) ∧ Below w.heap.size w w' := by
  have HC := Lib.hid (fun (k : Nat) (hk : k < 2) => show ∃ z, w.cell? ⟨g, k, none⟩ = some (.int .u32 z) ∧ w.cell? ⟨h, k, none⟩ = some (.int .u32 z) by
    match k, hk with
    | 0, _ => exact ⟨x, g0, h0⟩
    | 1, _ => exact ⟨y, g1, h1⟩)
  clear g0 g1 h0 h1
  go_enter Tryd.func12, Tryd.ntmps12
  go_wp2_with fail
  go_loopw [5] (fun s5 wr => ∃ k : Nat, k ≤ 2 ∧ s5 = .int .i64 k ∧ Below w.heap.size w wr) (fun s5 _ => 2 - (intOf s5).toNat)
  case atStart => exact ⟨0, Nat.zero_le _, rfl, Below.refl _ _⟩
  case round =>
    obtain ⟨k, hk, rfl, hB⟩ := hrel
    have HB := Lib.hid hB
    clear hB
    by_cases hkl : k < 2
    · obtain ⟨z, z0, z1⟩ := HC.out k hkl
      have y0 := (HB.out.cell (p := ⟨g, k, none⟩) hg).trans z0
      have y1 := (HB.out.cell (p := ⟨h, k, none⟩) hh).trans z1
      have k0 : (0 : Int) ≤ (k : Int) := by omega
      have k1 : (k : Int) < 2 := by omega
      have HK := Lib.hid hkl
      clear hkl hk z0 z1
      go_upto_region 6 with fail
      go_region
      go_wp2_with fail
      exact ⟨⟨k + 1, HK.out, rfl, HB.out.drew⟩, by have := HK.out; simp [intOf]; omega⟩
    · have kx : ¬ (k : Int) < 2 := by omega
      clear hkl hk
      go_wp2_with fail
      go_ret
      exact ⟨rfl, HB.out⟩
theorem l14_okay : ∀ x ∈ l14, x.okay := by
  intro x hx
  simp only [l14, List.mem_cons, List.mem_nil_iff, or_false] at hx
  rcases hx with rfl | rfl | rfl <;> simp [It.okay, In64]
theorem l14_uniq : Uniq l14 := fun i j x y hx hy h2 h3 _ => by
  have z : ∀ (i : Nat) (x : It), l14[i]? = some x → x.kd = 2 → i = 0 := fun i x hx hk => by
    match i, hx with
    | 0, _ => rfl
    | 1, hx => simp [l14] at hx; subst hx; exact absurd hk (by decide)
    | 2, hx => simp [l14] at hx; subst hx; exact absurd hk (by decide)
    | i + 3, hx => simp [l14] at hx
  rw [z i x hx h2, z j y hy h3]
theorem l14_present : Present l14 := fun i x hx hk => by
  match i, hx with
  | 0, hx => simp [l14] at hx; subst hx; exact absurd hk (by decide)
  | 1, hx => simp [l14] at hx; subst hx; exact absurd hk (by decide)
  | 2, hx => simp [l14] at hx; subst hx; exact ⟨0, _, rfl, rfl, rfl⟩
  | i + 3, hx => simp [l14] at hx
set_option maxHeartbeats 4000000 in
theorem lives14 (w : World) (ht : T3 w) : Calls Tryd.prog 7 #[] w fun e w' => e = .returned (.bool true) ∧ Below w.heap.size w w' := by
  have hal : Below w.heap.size w (w.alloc (.cells #[Value.int .i64 2, Value.int .i64 0, Value.int .i64 0, Value.int .i64 0, Value.int .i64 0, Value.int .i32 0, Value.int .i64 1, Value.int .i64 1, Value.int .i64 19, Value.int .i64 0, Value.int .i64 0, Value.int .i64 0, Value.int .i32 0, Value.int .i64 0, Value.int .i64 4, Value.int .i64 44, Value.int .i64 0, Value.int .i64 0, Value.int .i64 0, Value.int .i32 0, Value.int .i64 1] 41)) := Below.alloc (Below.refl _ _) (Nat.le_refl _) _
  have R := RowAt.new w [Value.int .i64 2, Value.int .i64 0, Value.int .i64 0, Value.int .i64 0, Value.int .i64 0, Value.int .i32 0, Value.int .i64 1, Value.int .i64 1, Value.int .i64 19, Value.int .i64 0, Value.int .i64 0, Value.int .i64 0, Value.int .i32 0, Value.int .i64 0, Value.int .i64 4, Value.int .i64 44, Value.int .i64 0, Value.int .i64 0, Value.int .i64 0, Value.int .i32 0, Value.int .i64 1] 41
  have hA : ItAt (w.alloc (.cells #[Value.int .i64 2, Value.int .i64 0, Value.int .i64 0, Value.int .i64 0, Value.int .i64 0, Value.int .i32 0, Value.int .i64 1, Value.int .i64 1, Value.int .i64 19, Value.int .i64 0, Value.int .i64 0, Value.int .i64 0, Value.int .i32 0, Value.int .i64 0, Value.int .i64 4, Value.int .i64 44, Value.int .i64 0, Value.int .i64 0, Value.int .i64 0, Value.int .i32 0, Value.int .i64 1] 41)) (some ⟨w.heap.size, 0, none⟩) l14 := by
    intro k s hs
    match k, hs with
    | 0, hs => simp [l14] at hs; subst hs; exact ⟨w.heap.size, 0, rfl, R.lt, R.cell 0 _ rfl, R.cell 1 _ rfl, R.cell 2 _ rfl, R.cell 3 _ rfl, R.cell 4 _ rfl, R.cell 5 _ rfl, R.cell 6 _ rfl⟩
    | 1, hs => simp [l14] at hs; subst hs; exact ⟨w.heap.size, 0, rfl, R.lt, R.cell 7 _ rfl, R.cell 8 _ rfl, R.cell 9 _ rfl, R.cell 10 _ rfl, R.cell 11 _ rfl, R.cell 12 _ rfl, R.cell 13 _ rfl⟩
    | 2, hs => simp [l14] at hs; subst hs; exact ⟨w.heap.size, 0, rfl, R.lt, R.cell 14 _ rfl, R.cell 15 _ rfl, R.cell 16 _ rfl, R.cell 17 _ rfl, R.cell 18 _ rfl, R.cell 19 _ rfl, R.cell 20 _ rfl⟩
    | k + 3, hs => simp [l14] at hs
  have WD := Lib.hid (show Calls Tryd.prog 6 #[.int .u32 0, .slice (some ⟨w.heap.size, 0, none⟩) 3 3] (w.alloc (.cells #[Value.int .i64 2, Value.int .i64 0, Value.int .i64 0, Value.int .i64 0, Value.int .i64 0, Value.int .i32 0, Value.int .i64 1, Value.int .i64 1, Value.int .i64 19, Value.int .i64 0, Value.int .i64 0, Value.int .i64 0, Value.int .i32 0, Value.int .i64 0, Value.int .i64 4, Value.int .i64 44, Value.int .i64 0, Value.int .i64 0, Value.int .i64 0, Value.int .i32 0, Value.int .i64 1] 41)) (WdPost l14 0 (w.alloc (.cells #[Value.int .i64 2, Value.int .i64 0, Value.int .i64 0, Value.int .i64 0, Value.int .i64 0, Value.int .i32 0, Value.int .i64 1, Value.int .i64 1, Value.int .i64 19, Value.int .i64 0, Value.int .i64 0, Value.int .i64 0, Value.int .i32 0, Value.int .i64 0, Value.int .i64 4, Value.int .i64 44, Value.int .i64 0, Value.int .i64 0, Value.int .i64 0, Value.int .i32 0, Value.int .i64 1] 41))) from words_any l14 l14_okay 0 (some ⟨w.heap.size, 0, none⟩) 3 _ (ht.later hal) hA (by decide) (by omega) (by omega) (by omega))
  have HAL := Lib.hid hal
  have HSM := Lib.hid same_two
  clear hal R hA
  go_enter Tryd.func7, Tryd.ntmps7
  go_wp2_with (go_at_call 6; refine WD.out.mono ?_; rintro e w2 ⟨hb2, ⟨wv, K, f, tg, F, rfl, _, h1, h3, _, _, _, _, h8⟩ | ⟨⟨r, hr, rfl⟩, hn⟩⟩)
  · rw [l14_words h3 h8] at h1
    obtain ⟨g, c, rfl, _, hg, q0⟩ := own_cellU h1 (j := 0) (z := 19) rfl
    obtain ⟨g2, c2, hv, _, _, q1⟩ := own_cellU h1 (j := 1) (z := 4292866159) rfl
    injection hv with hv; injection hv with hv; injection hv with hv
    subst hv
    have HB2 := Lib.hid (below_call HAL.out hb2)
    have Q0 := Lib.hid q0
    have Q1 := Lib.hid q1
    have HG := Lib.hid hg
    have hll : ([19, 4292866159] : List Int).length = 2 := rfl
    simp only [hll]
    clear hb2 h1 h3 h8 q0 q1 hg hll
    obtain ⟨w3, hw3⟩ : ∃ W : World, W = w2.alloc (.cells #[Value.int .u32 19, Value.int .u32 4292866159] 29) := ⟨_, rfl⟩
    have hal3 : Below w2.heap.size w2 w3 := by rw [hw3]; exact Below.alloc (Below.refl _ _) (Nat.le_refl _) _
    have R3 : RowAt w3 w2.heap.size [Value.int .u32 19, Value.int .u32 4292866159] := by rw [hw3]; exact RowAt.new w2 [Value.int .u32 19, Value.int .u32 4292866159] _
    have HS := Lib.hid (HSM.out 19 4292866159 g w2.heap.size c 2 w3 (Nat.lt_of_lt_of_le HG.out hal3.size) R3.lt ((hal3.cell (p := ⟨g, 0, none⟩) HG.out).trans Q0.out) ((hal3.cell (p := ⟨g, 1, none⟩) HG.out).trans Q1.out) (R3.cell 0 _ rfl) (R3.cell 1 _ rfl))
    have HB3 := Lib.hid (below_call HB2.out hal3)
    rw [hw3] at HS HB3
    clear hal3 R3 hw3
    go_wp2_with (go_at_call 12; refine HS.out.mono ?_; rintro e w5 ⟨rfl, hb5⟩; have HB5 := Lib.hid (below_call HB3.out hb5); clear hb5)
    go_ret
    exact ⟨rfl, HB5.out⟩
  · exact absurd ⟨l14_can, l14_uniq, l14_present⟩ (hn rfl)
end Go.Proofs.YtipecnofjdhobaaDoor

namespace Go.Proofs.YtipecnofjdhobaaDoor
open Go Go.RowKit Go.Maps Pl
set_option linter.unusedVariables false
set_option linter.unusedSimpArgs false
set_option maxRecDepth 100000

def WhP (z : Int) (w : World) (e : Ending) (w' : World) : Prop := e = .returned (.tuple #[.int .u32 z, .int .i64 0]) ∧ Below w.heap.size w w'
theorem wh_mk {z z2 : Int} {w w' : World} (hb : Below w.heap.size w w') (h : z2 = z) : WhP z w (.returned (.tuple #[.int .u32 z2, .int .i64 0])) w' := ⟨by rw [h], hb⟩
set_option maxHeartbeats 4000000 in
theorem where_any (l : List It) (hok : ∀ x ∈ l, x.okay) (base : Int) (at0 : Option Addr) (c : Nat) (w : World) (ht3 : T3 w) (hA : ItAt w at0 l) (hl : l.length ≤ 4000) (hc : c ≤ 9223372036854775807) (hb0 : 0 ≤ base) (hb1 : base + 32000 < 4294967296) (h4 : base % 4 = 0)
    (hca : CanAll l) {tg : Nat → Int} {F : Nat → Bool} (ht : TgOk l tg) (hcl : (rxM l tg).closed F) (hle : ∀ G, (rxM l tg).closed G → ∀ i, F i = true → G i = true) (t : Nat) (y : It) (hy : l[t]? = some y) (hk : y.kd = 2) (lb : Int) (hlb : lb = y.lb) (hli : In64 lb) :
    Calls Tryd.prog 10 #[.int .u32 base, .slice at0 l.length c, .int .i64 lb] w (WhP (base + plR (szR (szL l) F) t) w) := by
  have HAS := Lib.hid (assemble_any l hok base at0 c w ht3 hA hl hc hb0 (by omega))
  have HT := Lib.hid ht
  have HCA := Lib.hid hca
  have HCL := Lib.hid hcl
  have HLE := Lib.hid hle
  have HY := Lib.hid hy
  have HK := Lib.hid hk
  have H4 := Lib.hid h4
  have HLB := Lib.hid hlb
  have HLI := Lib.hid hli
  have HTL := Lib.hid (show t ≤ 4000 from by have := (List.getElem?_eq_some_iff.1 hy).1; omega)
  clear ht3 hA hok ht hca hcl hle hy hk h4 hlb hli
  go_enter Tryd.func10, Tryd.ntmps10
  have HNO := Lib.hid (show ¬ (base % 4 = 0 → ¬ (CanAll l ∧ Uniq l ∧ Present l)) from fun hn => absurd ⟨HCA.out, HT.out.u, tgOk_present HT.out⟩ (hn H4.out))
  have HFF := Lib.hid (fun (tg2 : Nat → Int) (F2 : Nat → Bool) (h5 : TgOk l tg2) (h6 : (rxM l tg2).closed F2) (h7 : ∀ G, (rxM l tg2).closed G → ∀ i, F2 i = true → G i = true) => far_one HT.out h5 HCL.out h6 HLE.out h7)
  have HBD := Lib.hid (show 0 ≤ plR (szR (szL l) F) t ∧ plR (szR (szL l) F) t ≤ 32000 by
    have hbd := pl_bd (rxM_ok HT.out) F t
    have h2 := HTL.out
    have h3 : (rxM l tg).pl F t = plR (szR (szL l) F) t := rfl
    omega)
  clear HT HCL HLE HCA H4
  go_wp2_with (first
    | (go_at_call 11; refine HAS.out.mono ?_; rintro e w2 ⟨hb2, ⟨wv, mb, n, K, f, tg2, F2, rfl, h0, h1, h2, h3, h4, h5, h6, h7, h8⟩ | ⟨⟨r, hr, rfl⟩, hn⟩⟩; rotate_left; exact absurd hn HNO.out
       have hfe := HFF.out tg2 F2 h5 h6 h7; subst hfe; obtain ⟨va, vc, rfl, _⟩ := own_slU h1; obtain ⟨q1, q2⟩ := h3.at_ t y (List.getElem?_eq_some_iff.1 HY.out).1 HY.out HK.out; rw [← HLB.out] at q1 q2
       have tm : decide (lb ∈ K) = true := by simp [q1]
       have HM := Lib.hid h2; have HB2 := Lib.hid hb2; have hq : f lb = plR (szR (szL l) F) t := q2; have HQ := Lib.hid hq; have p0 := HBD.out.1; have p1 := HBD.out.2; rw [← hq] at p0 p1
       clear q1 q2 hq h0 h1 h2 h3 h4 h5 h6 h7 h8 hb2
       have hw : IntKind.u32.wrap (f lb) = f lb := by simp [IntKind.wrap, IntKind.signed, IntKind.bits]; omega
       have hw2 : IntKind.u32.wrap (base + f lb) = base + f lb := by simp [IntKind.wrap, IntKind.signed, IntKind.bits]; omega)
    | (at_lookup; refine look_gok _ rfl _ _ 46 rfl Tryd.underlying46 mb n _ _ rfl HM.out lb rfl HLI.out ?_; rw [tm]))
  go_returns
  exact wh_mk HB2.out (by rw [HQ.out])
end Go.Proofs.YtipecnofjdhobaaDoor
