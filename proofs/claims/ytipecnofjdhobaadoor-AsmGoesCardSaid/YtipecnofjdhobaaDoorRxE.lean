/- relax.settle. -/
import Derived.Test.YtipecnofjdhobaaDoorRxD
import Derived.WalkMore
import Derived.ScopeJumps
namespace Go.Proofs.YtipecnofjdhobaaDoor
open Go Go.RowKit Go.Maps Pl
set_option linter.unusedVariables false
set_option linter.unusedSimpArgs false
set_option maxRecDepth 100000

theorem jump_mono {l : Nat} {J1 J2 : Act → World → Prop} {Q : Exit → Act → World → Prop} (h : ∀ a w, J1 a w → J2 a w) {e : Exit} {a : Act} {w : World} (q : Exit.jump l J1 Q e a w) : Exit.jump l J2 Q e a w := by
  cases e with
  | goto t => exact ⟨q.1, h _ _ q.2⟩
  | _ => exact q
/-- a scope that is jumped back in: the way from the label is walked once -/
theorem wp_scope_again {P : Program} {a : Act} {w : World} {Q : Exit → Act → World → Prop} {c rest : Code} (l : Nat) (J : Act → World → Prop) (μ : Act → World → Nat) (hf : findLabel c l = some (Code.skip.seq rest))
    (pass : ∀ a w, J a w → rest.wp P (Exit.jump l (fun a' w' => J a' w' ∧ μ a' w' < μ a w) Q) a w)
    (first : (∀ a w, J a w → rest.wp P (Exit.jump l J Q) a w) → c.wp P (Exit.jump l J Q) a w) : (Code.scope c).wp P Q a w :=
  wp_scope_jumps l J μ hf (first fun a w h => Code.wp_mono (fun _ _ _ q => jump_mono (fun _ _ h => h.1) q) (pass a w h)) fun a w h => wp_seq (wp_skip (pass a w h))
def brL (l : List It) (i : Nat) : Bool := match l[i]? with | some x => x.kd == 3 | none => false
theorem brL_at {l : List It} {i : Nat} {x : It} (h : l[i]? = some x) : brL l i = (x.kd == 3) := by unfold brL; rw [h]
def rxM (l : List It) (tg : Nat → Int) : RxI := ⟨l.length, szL l, brL l, fun i => (tg i).toNat⟩
theorem brL_some {l : List It} {i : Nat} (h : brL l i = true) : ∃ x, l[i]? = some x ∧ x.kd = 3 := by
  unfold brL at h
  cases e : l[i]? with
  | none => rw [e] at h; cases h
  | some x => rw [e] at h; exact ⟨x, rfl, by simpa using h⟩
theorem rxM_ok {l : List It} {tg : Nat → Int} (h : TgOk l tg) : (rxM l tg).ok := by
  refine ⟨szL_bd l, fun i hi => ?_, fun i _ hi => ?_⟩
  · obtain ⟨x, hx, hk⟩ := brL_some hi
    show szL l i = 4
    rw [szL_at hx]; unfold szI; rw [if_pos (by omega)]
  · obtain ⟨x, hx, hk⟩ := brL_some hi
    obtain ⟨t, y, h1, h2, _⟩ := h.t i x hx (by omega)
    show (tg i).toNat < l.length
    omega
/-- what holds whenever items are laid again: w0 is the world of the call -/
structure StJ (m : RxI) (BS BF : Nat) (w0 : World) (F : Nat → Bool) (w : World) : Prop where
  s : RowAt w BS (iR m.n (szR m.s F))
  f : RowAt w BF (bR m.n F)
  le : ∀ G, m.closed G → ∀ i, F i = true → G i = true
  b : ∀ i, F i = true → i < m.n ∧ m.br i = true
  o : Out (fun j => j = BF) w0 w
/-- the branches that are far behind k items -/
def RxI.step (m : RxI) (F : Nat → Bool) (k i : Nat) : Bool := F i || (decide (i < k) && m.new F i)
def RxI.more (m : RxI) (F : Nat → Bool) : Nat → Bool
  | 0 => false
  | k + 1 => m.more F k || m.new F k
theorem step_0 (m : RxI) (F : Nat → Bool) : m.step F 0 = F := by funext i; simp [RxI.step]
theorem step_no {m : RxI} {F : Nat → Bool} {k : Nat} (h : m.new F k = false) : m.step F (k + 1) = m.step F k := by
  funext i
  unfold RxI.step
  by_cases e : i = k
  · subst e; simp [h]
  · rw [show decide (i < k + 1) = decide (i < k) by simp; omega]
theorem step_yes {m : RxI} {F : Nat → Bool} {k : Nat} (h : m.new F k = true) (i : Nat) : m.step F (k + 1) i = if i = k then true else m.step F k i := by
  unfold RxI.step
  by_cases e : i = k
  · subst e; simp [h]
  · rw [if_neg e, show decide (i < k + 1) = decide (i < k) by simp; omega]
theorem step_ge (m : RxI) (F : Nat → Bool) {k i : Nat} (h : k ≤ i) : m.step F k i = F i := by unfold RxI.step; rw [show decide (i < k) = false by simp; omega]; simp
theorem sz_yes {m : RxI} {F : Nat → Bool} {k : Nat} (h : m.new F k = true) (i : Nat) : szR m.s (m.step F (k + 1)) i = if i = k then 8 else szR m.s (m.step F k) i := by
  unfold szR
  rw [step_yes h]
  by_cases e : i = k
  · subst e; simp
  · rw [if_neg e, if_neg e]
theorem more_new {m : RxI} {F : Nat → Bool} : ∀ {k : Nat}, m.more F k = true → ∃ i, i < k ∧ m.new F i = true
  | 0, h => by cases h
  | k + 1, h => by
    unfold RxI.more at h
    cases e : m.new F k with
    | true => exact ⟨k, by omega, e⟩
    | false =>
      rw [e] at h
      obtain ⟨i, h1, h2⟩ := more_new (k := k) (by simpa using h)
      exact ⟨i, by omega, h2⟩
theorem more_no {m : RxI} {F : Nat → Bool} : ∀ {k : Nat}, m.more F k = false → ∀ i, i < k → m.new F i = false
  | 0, h, i, hi => by omega
  | k + 1, h, i, hi => by
    unfold RxI.more at h
    simp only [Bool.or_eq_false_iff] at h
    by_cases e : i = k
    · subst e; exact h.2
    · exact more_no h.1 i (by omega)
theorem step_all {m : RxI} {F : Nat → Bool} : m.step F m.n = m.pass F := rfl
theorem new_br {m : RxI} {F : Nat → Bool} {i : Nat} (h : m.new F i = true) : m.br i = true ∧ F i = false := by unfold RxI.new at h; simp at h; exact h.1
theorem closed_of {m : RxI} {F : Nat → Bool} (h : m.more F m.n = false) : m.closed F := fun i hi hb hF => by
  have := more_no h i hi
  unfold RxI.new at this
  rw [hb, hF] at this
  simpa using this
theorem step_none {m : RxI} {F : Nat → Bool} (h : m.more F m.n = false) : m.step F m.n = F := by
  funext i
  unfold RxI.step
  by_cases e : i < m.n
  · rw [more_no h i e]; simp
  · rw [show decide (i < m.n) = false by simp; omega]; simp
theorem left_step {m : RxI} {F : Nat → Bool} (h : m.more F m.n = true) : m.left (m.step F m.n) m.n < m.left F m.n := by
  obtain ⟨i, h1, h2⟩ := more_new h
  refine left_lt (fun j hj => by unfold RxI.step; rw [hj]; rfl) (new_br h2).1 (new_br h2).2 ?_ m.n h1
  unfold RxI.step; rw [h2]; simp [h1]
theorem step_j {m : RxI} (hm : m.ok) {BS BF : Nat} {w0 w w' : World} {F : Nat → Bool} (h : StJ m BS BF w0 F w) (hs : RowAt w' BS (iR m.n (szR m.s (m.step F m.n)))) (hf : RowAt w' BF (bR m.n (m.step F m.n))) (ho : Out (fun j => j = BF) w0 w') : StJ m BS BF w0 (m.step F m.n) w' :=
  ⟨hs, hf, fun G hG => pass_least hm hG (h.le G hG), fun i hi => by
    unfold RxI.step at hi
    cases hF : F i with
    | true => exact h.b i hF
    | false => rw [hF] at hi; simp at hi; exact ⟨hi.1, (new_br hi.2).1⟩, ho⟩
/-- how many branches aren't far in the block -/
def leftW (m : RxI) (BF : Nat) (w : World) : Nat := m.left (fun i => match w.cell? ⟨BF, i, none⟩ with | some (.bool b) => b | _ => false) m.n
theorem left_congr {m : RxI} {F G : Nat → Bool} : ∀ {k : Nat}, (∀ i, i < k → F i = G i) → m.left F k = m.left G k
  | 0, _ => rfl
  | k + 1, h => by unfold RxI.left; rw [left_congr (fun i hi => h i (by omega)), h k (by omega)]
theorem left_w {m : RxI} {BF : Nat} {w : World} {F : Nat → Bool} (h : RowAt w BF (bR m.n F)) : leftW m BF w = m.left F m.n :=
  left_congr fun i hi => by rw [h.cell i _ (bR_at F hi)]
theorem out_drop {w w' : World} {BF BS : Nat} (h : Out (fun j => j = BF ∨ j = BS) w w') (hb : w.heap.size ≤ BS) : Out (fun j => j = BF) w w' :=
  ⟨h.os, h.tape, h.output, h.size, fun k hk hs => h.block k hk (fun e => by rcases e with e | e; exact hs e; omega)⟩
/-- it is laid out -/
def StPost (m : RxI) (BF : Nat) (w : World) (e : Ending) (w' : World) : Prop :=
  ∃ (b : Nat) (F : Nat → Bool), e = .returned (.slice (some ⟨b, 0, none⟩) (m.n + 1) (m.n + 1)) ∧ w.heap.size ≤ b ∧ RowAt w' b (iR (m.n + 1) (m.pl F)) ∧ RowAt w' BF (bR m.n F) ∧ m.closed F ∧ (∀ G, m.closed G → ∀ i, F i = true → G i = true) ∧ (∀ i, F i = true → i < m.n ∧ m.br i = true) ∧ Out (fun j => j = BF) w w'
theorem st_mk {m : RxI} {BF b n1 : Nat} {w w' : World} {F : Nat → Bool} (hn : n1 = m.n + 1) (h1 : w.heap.size ≤ b) (h2 : RowAt w' b (iR (m.n + 1) (m.pl F))) (h3 : RowAt w' BF (bR m.n F)) (h4 : m.closed F) (h5 : ∀ G, m.closed G → ∀ i, F i = true → G i = true) (h6 : ∀ i, F i = true → i < m.n ∧ m.br i = true) (h7 : Out (fun j => j = BF) w w') :
    StPost m BF w (.returned (.slice (some ⟨b, 0, none⟩) n1 n1)) w' := by subst hn; exact ⟨b, F, rfl, h1, h2, h3, h4, h5, h6, h7⟩
/-- the frame at the label -/
def JSt (m : RxI) (at0 : Option Addr) (n c BT BF : Nat) (w : World) (a' : Act) (w' : World) : Prop := ∃ (BS : Nat) (F : Nat → Bool) (u3 u4 u5 u6 u8 u9 u10 u11 u12 u13 u14 u15 u16 u17 u18 u19 u20 u21 u22 u23 u24 u25 u26 u27 u28 u29 u30 u31 u32 u33 u34 u35 u36 u37 u38 u39 u40 u41 u42 u43 u44 u45 u46 u47 u48 u49 u50 u51 u52 u53 u54 u55 u56 u57 : Value), a' = { tmps := #[(.slice at0 n c), (.slice (some ⟨BT, 0, none⟩) n n), (.slice (some ⟨BF, 0, none⟩) n n), u3, u4, u5, u6, (.slice (some ⟨BS, 0, none⟩) n n), u8, u9, u10, u11, u12, u13, u14, u15, u16, u17, u18, u19, u20, u21, u22, u23, u24, u25, u26, u27, u28, u29, u30, u31, u32, u33, u34, u35, u36, u37, u38, u39, u40, u41, u42, u43, u44, u45, u46, u47, u48, u49, u50, u51, u52, u53, u54, u55, u56, u57], defers := [] } ∧ w.heap.size ≤ BS ∧ StJ m BS BF w F w'
set_option maxHeartbeats 16000000 in
theorem settle_any (l : List It) (hok : ∀ x ∈ l, x.okay) (at0 : Option Addr) (c BT BF : Nat) (tg : Nat → Int) (w : World) (hA : ItAt w at0 l) (hl : l.length ≤ 4000) (hc : c ≤ 9223372036854775807)
    (ht : TgOk l tg) (hT : RowAt w BT (iR l.length tg)) (hF : RowAt w BF (bR l.length fun _ => false)) (hn1 : BT ≠ BF) (hn2 : ∀ g off, at0 = some ⟨g, off, none⟩ → l ≠ [] → ¬ g = BF) :
    Calls Tryd.prog 30 #[.slice at0 l.length c, .slice (some ⟨BT, 0, none⟩) l.length l.length, .slice (some ⟨BF, 0, none⟩) l.length l.length] w (StPost (rxM l tg) BF w) := by
  have HA := Lib.hid hA
  have HT := Lib.hid hT
  have HF0 := Lib.hid hF
  have HTG := Lib.hid ht
  have HN1 := Lib.hid hn1
  have HN2 := Lib.hid hn2
  have HMO := Lib.hid (rxM_ok ht)
  have hli : (l.length : Int) ≤ 4000 := by omega
  have HLL := Lib.hid hl
  have SI := Lib.hid (sizes_any l hok at0 c w hA hl hc)
  obtain ⟨m, hm⟩ : ∃ m, m = rxM l tg := ⟨_, rfl⟩
  have HM := Lib.hid hm
  rw [← hm] at HMO ⊢
  clear hA hok ht hT hF hn1 hn2 hm
  go_enter Tryd.func30, Tryd.ntmps30
  go_wp2_with fail
  refine wp_scope_again 0 (JSt m at0 l.length c BT BF w) (fun _ w' => leftW m BF w') rfl ?_ ?_
  · rintro a' w1 ⟨BS, F, u3, u4, u5, u6, u8, u9, u10, u11, u12, u13, u14, u15, u16, u17, u18, u19, u20, u21, u22, u23, u24, u25, u26, u27, u28, u29, u30, u31, u32, u33, u34, u35, u36, u37, u38, u39, u40, u41, u42, u43, u44, u45, u46, u47, u48, u49, u50, u51, u52, u53, u54, u55, u56, u57, rfl, hBS, hJ⟩
    have HJ := Lib.hid hJ
    have HBS := Lib.hid hBS
    have HMN := Lib.hid (show m.n = l.length by rw [HM.out]; rfl)
    have HLA := Lib.hid (lay_any (szR m.s F) (szR_bd HMO.out F) l.length BS w1 (by have h := hJ.s; rw [HMN.out] at h; exact h) HLL.out)
    clear hBS hJ
    go_wp2_with (go_at_call 41; refine HLA.out.mono ?_; rintro e w2 ⟨bw, rfl, hbw, hRw, hb2⟩; have HBW := Lib.hid hbw; have HRW := Lib.hid hRw; have HB2 := Lib.hid hb2; clear hbw hRw hb2)
    have HSB := Lib.hid (show BS < w1.heap.size from HJ.out.s.lt)
    have HFB := Lib.hid (show BF < w.heap.size from HF0.out.lt)
    have HWS := Lib.hid (show w.heap.size ≤ w1.heap.size from HJ.out.o.size)
    have RS2 := Lib.hid (show RowAt w2 BS (iR l.length (szR m.s F)) by have h := HJ.out.s.over HB2.out; rw [HMN.out] at h; exact h)
    have RF2 := Lib.hid (show RowAt w2 BF (bR l.length F) by have h := HJ.out.f.over HB2.out; rw [HMN.out] at h; exact h)
    have O2 := Lib.hid (show Out (fun j => j = BF ∨ j = BS) w w2 from (HJ.out.o.trans (Out.of_below _ HB2.out)).mono (fun _ h => .inl h))
    go_loopw [9, 18] (fun s9 s18 wr => ∃ k : Nat, k ≤ l.length ∧ s18 = .int .i64 k ∧ s9 = .bool (m.more F k) ∧ RowAt wr BS (iR l.length (szR m.s (m.step F k))) ∧ RowAt wr BF (bR l.length (m.step F k)) ∧ Out (fun j => j = BF ∨ j = BS) w2 wr) (fun _ s18 _ => l.length - (intOf s18).toNat)
    case atStart => exact ⟨0, Nat.zero_le _, rfl, rfl, by rw [step_0]; exact RS2.out, by rw [step_0]; exact RF2.out, Out.refl _ _⟩
    case round =>
      obtain ⟨k, hk, rfl, rfl, hRs, hRf, hO⟩ := hrel
      have RS := Lib.hid hRs
      have RF := Lib.hid hRf
      have HU := Lib.hid hO
      have HO := Lib.hid (O2.out.trans hO)
      clear hRs hRf hO
      obtain ⟨mo, hmo⟩ : ∃ b, b = m.more F k := ⟨_, rfl⟩
      rw [← hmo]
      have HMOR := Lib.hid hmo
      clear hmo
      by_cases hkl : k < l.length
      · obtain ⟨x, hx⟩ : ∃ x, l[k]? = some x := ⟨_, List.getElem?_eq_getElem hkl⟩
        have HXI := Lib.hid hx
        obtain ⟨g, off, hat, hg, c0, c1, c2, c3, c4, c5, c6⟩ := (HA.out.out HO.out (fun g off h1 h4 h2 h3 => by
          rcases h3 with h3 | h3
          · exact HN2.out g off h1 h4 h3
          · have := HBS.out; omega)) k x hx
        subst hat
        have HKL := Lib.hid hkl
        have k0 : (0 : Int) ≤ (k : Int) := by omega
        have k1 : (k : Int) < (l.length : Int) := by omega
        obtain ⟨kd, o, d, a, b', i, lb⟩ := x
        dsimp only at c0 c1 c2 c3 c4 c5 c6
        clear hx hkl hk
        go_upto_region 7 with fail
        have hal : Below wr.heap.size wr (wr.alloc (.cells #[.int .i64 kd, .int .i64 o, .int .i64 d, .int .i64 a, .int .i64 b', .int .i32 i, .int .i64 lb] 41)) := Below.alloc (Below.refl _ _) (Nat.le_refl _) _
        have RA := Lib.hid (RowAt.new wr [.int .i64 kd, .int .i64 o, .int .i64 d, .int .i64 a, .int .i64 b', .int .i32 i, .int .i64 lb] 41)
        have RSA := Lib.hid (RS.out.over hal)
        have RFA := Lib.hid (RF.out.over hal)
        have HOA := Lib.hid (HO.out.trans (Out.of_below _ hal))
        have HUA := Lib.hid (HU.out.trans (Out.of_below _ hal))
        obtain ⟨A, hA⟩ : ∃ A, A = wr.heap.size := ⟨_, rfl⟩
        rw [← hA] at RA ⊢
        obtain ⟨W, hW⟩ : ∃ W, W = wr.alloc (.cells #[.int .i64 kd, .int .i64 o, .int .i64 d, .int .i64 a, .int .i64 b', .int .i32 i, .int .i64 lb] 41) := ⟨_, rfl⟩
        have hE : wr.alloc (.cells [.int .i64 kd, .int .i64 o, .int .i64 d, .int .i64 a, .int .i64 b', .int .i32 i, .int .i64 lb].toArray 41) = W := by rw [hW]
        rw [hE] at RA
        rw [← hW] at RSA RFA HOA HUA ⊢
        clear hal hA hW hE c0 c1 c2 c3 c4 c5 c6 HU HO RS RF
        have a0 := RA.out.cell 0 _ rfl
        have al := RA.out.lt
        have f0 := RFA.out.cell k _ (bR_at _ HKL.out)
        rw [step_ge m F (Nat.le_refl k)] at f0
        have ff := RFA.out.fr k
        have fl := RFA.out.lt
        have HNO := Lib.hid (fun (h : m.new F k = false) => show m.more F (k + 1) = mo ∧ RowAt W BS (iR l.length (szR m.s (m.step F (k + 1)))) ∧ RowAt W BF (bR l.length (m.step F (k + 1))) from ⟨by show (m.more F k || m.new F k) = mo; rw [h, HMOR.out]; simp, by rw [step_no h]; exact RSA.out, by rw [step_no h]; exact RFA.out⟩)
        have HBR := Lib.hid (show m.br k = (kd == 3) by rw [HM.out]; exact brL_at HXI.out)
        by_cases h3 : kd = 3
        · have t3 : (kd == 3) = true := by simp [h3]
          have HK3 := Lib.hid h3
          clear h3
          cases hFk : F k with
          | true =>
            have HN := Lib.hid (HNO.out (by unfold RxI.new; rw [hFk]; simp))
            rw [hFk] at f0
            clear hFk HNO
            go_region
            go_wp2_with fail
            exact ⟨⟨k + 1, HKL.out, rfl, by rw [HN.out.1], HN.out.2.1.drew, HN.out.2.2.drew, HUA.out.trans (Out.of_below _ (Below.refl _ _).drew)⟩, by have := HKL.out; simp [intOf]; omega⟩
          | false =>
            rw [hFk] at f0
            obtain ⟨t, y, ht1, ht2, _⟩ := HTG.out.t k _ HXI.out (.inl HK3.out)
            have rt := (HT.out.outN HOA.out (fun h => by
              rcases h with h | h
              · exact HN1.out h
              · have := HT.out.lt; have := HBS.out; omega))
            have q0 := rt.cell k _ (iR_at tg HKL.out)
            rw [ht1] at q0
            have ql := rt.lt
            have rw1 := (HRW.out.outN HUA.out (fun h => by have := HBW.out; have := HSB.out; have := HFB.out; have := HWS.out; omega))
            have w0c := rw1.cell t _ (iR_at (n := l.length + 1) _ (by omega))
            have w1c := rw1.cell k _ (iR_at (n := l.length + 1) _ (by have := HKL.out; omega))
            have wl := rw1.lt
            have HTO := Lib.hid (show m.to k = t by rw [HM.out]; show (tg k).toNat = t; rw [ht1]; rfl)
            have b1 := pl_bd HMO.out F t
            have b2 := pl_bd HMO.out F k
            obtain ⟨p1, hp1⟩ : ∃ p, p = plR (szR m.s F) t := ⟨_, rfl⟩
            obtain ⟨p2, hp2⟩ : ∃ p, p = plR (szR m.s F) k := ⟨_, rfl⟩
            have HNW := Lib.hid (show m.new F k = !nearR (p1 - p2) by unfold RxI.new RxI.pl; rw [hFk, HBR.out, t3, HTO.out, hp1, hp2]; rfl)
            rw [← hp1] at w0c
            rw [← hp2] at w1c
            have e1 : 0 ≤ p1 := by rw [hp1]; exact b1.1
            have e2 : 0 ≤ p2 := by rw [hp2]; exact b2.1
            have e3 : p1 ≤ 32000 := by rw [hp1]; have := b1.2; show m.pl F t ≤ _; omega
            have e4 : p2 ≤ 32000 := by rw [hp2]; have := b2.2; show m.pl F k ≤ _; omega
            have t0 : (0 : Int) ≤ (t : Int) := by omega
            have t1 : (t : Int) < (l.length : Int) + 1 := by omega
            have t2 : (t : Int) < ((l.length + 1 : Nat) : Int) := by omega
            have k2 : (k : Int) < (l.length : Int) + 1 := by omega
            have k4 : (k : Int) < ((l.length + 1 : Nat) : Int) := by omega
            have hwr : IntKind.i64.wrap (p1 - p2) = p1 - p2 := by simp [IntKind.wrap, IntKind.signed, IntKind.bits]; omega
            obtain ⟨nr, hnr⟩ : ∃ b, b = nearR (p1 - p2) := ⟨_, rfl⟩
            rw [← hnr] at HNW
            have HBT := Lib.hid (fun (W : World) => between_any (p1 - p2) (-4096) 4094 W)
            have HNR := Lib.hid (show (decide (-4096 ≤ p1 - p2) && decide (p1 - p2 ≤ 4094)) = nr by rw [hnr]; rfl)
            rw [HNR.out] at HBT
            have HFK := Lib.hid hFk
            clear b1 b2 hp1 hp2 hnr ht1 ht2 rt rw1 hFk
            go_cut [48] (fun s48 wx => s48 = .bool (!nr) ∧ wx = W.drew)
            case first =>
              go_region_held3 (fun w' => w'.cell? ⟨A, 0, none⟩ = some (.int .i64 kd) ∧ w'.cell? ⟨BF, k, none⟩ = some (.bool false) ∧ w'.cell? ⟨BT, k, none⟩ = some (.int .i64 (t : Int)) ∧ w'.cell? ⟨bw, t, none⟩ = some (.int .i64 p1) ∧ w'.cell? ⟨bw, k, none⟩ = some (.int .i64 p2)) (first | (with_reducible assumption) | exact ⟨a0, f0, q0, w0c, w1c⟩)
                (first | (go_at_call 31; (with_reducible refine (HBT.out _).mono ?_); rintro e w9 ⟨rfl, rfl⟩))
              go_wp2_with fail
              go_meet
              exact ⟨rfl, rfl⟩
            case rest =>
              obtain ⟨h48, hwc⟩ := hcut
              subst h48 hwc
              cases nr with
              | true =>
                have HN := Lib.hid (HNO.out (by rw [HNW.out]; rfl))
                clear HNO
                simp only [Bool.not_true]
                go_wp2_with fail
                exact ⟨⟨k + 1, HKL.out, rfl, by rw [HN.out.1], HN.out.2.1.drew, HN.out.2.2.drew, HUA.out.trans (Out.of_below _ (Below.refl _ _).drew)⟩, by have := HKL.out; simp [intOf]; omega⟩
              | false =>
                have HNY := Lib.hid (show m.new F k = true by rw [HNW.out]; rfl)
                simp only [Bool.not_false]
                have RS5 := Lib.hid RSA.out.drew
                have RF5 := Lib.hid RFA.out.drew
                have HO5 := Lib.hid (HUA.out.trans (Out.of_below _ (Below.refl _ _).drew))
                clear a0 al f0 ff fl q0 ql wl w0c w1c HNO RSA RFA HOA HUA RA HBT
                generalize W.drew = W5 at *
                have HBN := Lib.hid (show ¬ BF = BS by have := HBS.out; have := HFB.out; omega)
                have f0 := RF5.out.cell k _ (bR_at _ HKL.out)
                have ff := RF5.out.fr k
                have fl := RF5.out.lt
                go_upto_region 9 with fail
                have RF6 := Lib.hid (bR_row (x := true) RF5.out HKL.out (fun j _ => step_yes HNY.out j))
                have RS6 := Lib.hid (RS5.out.aside BF k (.bool true) HBN.out)
                have HO6 := Lib.hid (HO5.out.trans ((out_setB W5 BF k (.bool true)).mono (fun _ h => .inl h)))
                clear f0 ff fl RF5 RS5 HO5
                generalize W5.setCell ⟨BF, k, none⟩ (.bool true) = W6 at *
                have s0 := RS6.out.cell k _ (iR_at _ HKL.out)
                have sf := RS6.out.fr k
                have sl := RS6.out.lt
                go_wp2_with fail
                exact ⟨⟨k + 1, HKL.out, rfl, by show _ = Value.bool (m.more F k || m.new F k); rw [HNY.out]; simp, iR_row (x := 8) RS6.out HKL.out (fun j _ => sz_yes HNY.out j), RF6.out.aside BS k (.int .i64 8) (fun e => HBN.out e.symm), HO6.out.trans ((out_setB W6 BS k (.int .i64 8)).mono (fun _ h => .inr h))⟩, by have := HKL.out; simp [intOf]; omega⟩
        · have t3 : (kd == 3) = false := by simp [h3]
          have HN := Lib.hid (HNO.out (by unfold RxI.new; rw [HBR.out, t3]; simp))
          clear h3 HNO
          go_region
          go_wp2_with fail
          exact ⟨⟨k + 1, HKL.out, rfl, by rw [HN.out.1], HN.out.2.1.drew, HN.out.2.2.drew, HUA.out.trans (Out.of_below _ (Below.refl _ _).drew)⟩, by have := HKL.out; simp [intOf]; omega⟩
      · obtain rfl : k = l.length := by omega
        have kx : ¬ ((l.length : Int) < (l.length : Int)) := by omega
        have HOF := Lib.hid (show Out (fun j => j = BF) w wr from out_drop HO.out HBS.out)
        have HJ2 := Lib.hid (step_j HMO.out HJ.out (w' := wr) (by rw [HMN.out]; exact RS.out) (by rw [HMN.out]; exact RF.out) HOF.out)
        have HML := Lib.hid (show m.more F m.n = mo by rw [HMN.out]; exact HMOR.out.symm)
        clear hkl hk
        cases mo with
        | true =>
          go_wp2_with fail
          go_step3
          refine ⟨rfl, (by unfold JSt; exact ⟨BS, _, _, _, _, _, _, _, _, _, _, _, _, _, _, _, _, _, _, _, _, _, _, _, _, _, _, _, _, _, _, _, _, _, _, _, _, _, _, _, _, _, _, _, _, _, _, _, _, _, _, _, _, _, _, _, rfl, HBS.out, HJ2.out⟩), ?_⟩
          rw [left_w HJ2.out.f, left_w HJ.out.f]
          exact left_step HML.out
        | false =>
          have HSN := Lib.hid (show m.step F l.length = F by have h := step_none HML.out; rw [HMN.out] at h; exact h)
          have HRW2 := Lib.hid (HRW.out.outN HU.out (fun h => by have := HBW.out; have := HSB.out; have := HFB.out; have := HWS.out; omega))
          have HBW2 := Lib.hid (show w.heap.size ≤ bw by have := HBW.out; have := HWS.out; omega)
          go_wp2_with fail
          simp only [Exit.jump]
          go_ret
          exact st_mk (by rw [HMN.out]) HBW2.out (by rw [HMN.out]; exact HRW2.out) (by rw [HMN.out, ← HSN.out]; exact RF.out) (closed_of HML.out) HJ.out.le HJ.out.b HOF.out
  · intro hpass
    go_wp2_with (go_at_call 40; refine SI.out.mono ?_; rintro e w1 ⟨BS, rfl, hBS, hRS, hb1⟩; have HBS := Lib.hid hBS; have HRS := Lib.hid hRS; have HB1 := Lib.hid hb1; clear hBS hRS hb1)
    go_step3
    have HJ0 : StJ m BS BF w (fun _ => false) w1 := by
      refine ⟨?_, ?_, fun G _ i h => (Bool.false_ne_true h).elim, fun i h => (Bool.false_ne_true h).elim, Out.of_below _ HB1.out⟩
      · have h := HRS.out
        rw [HM.out]
        exact h
      · have h := HF0.out.over HB1.out
        rw [HM.out]
        exact h
    rename_i hK
    refine hK _ _ (hpass _ _ ?_)
    unfold JSt
    exact ⟨BS, fun _ => false, _, _, _, _, _, _, _, _, _, _, _, _, _, _, _, _, _, _, _, _, _, _, _, _, _, _, _, _, _, _, _, _, _, _, _, _, _, _, _, _, _, _, _, _, _, _, _, _, _, _, _, _, _, _, rfl, HBS.out, HJ0⟩
end Go.Proofs.YtipecnofjdhobaaDoor
