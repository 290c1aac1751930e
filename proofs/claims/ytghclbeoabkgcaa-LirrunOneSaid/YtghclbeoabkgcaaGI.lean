/- The document's machine for loop programs: what stands throughout, and when it ends. -/
import Derived.Test.YtghclbeoabkgcaaGF
import Derived.Test.YtghclbeoabkgcaaGH
namespace Go.Proofs.Ytghclbeoabkgcaa
open Go Go.RowKit Pl
set_option linter.unusedVariables false

set_option maxHeartbeats 1000000 in
theorem rqe_no (B : Nat) (mp : Option Addr) (F : Int) (f : Nat → Int) (s : Int) (w : World) (hs : s < F) (hm : MachT B mp F f s 0 w) :
    Calls Try.prog 52 #[.pointer (some ⟨B, 0, none⟩)] w fun e w' => e = .returned (.bool false) ∧ Below w.heap.size w w' := by
  have ct := hm.tr
  have cs := hm.st
  have cf := hm.fu
  have t0 : decide (F ≤ s) = false := by simp; omega
  clear hm
  go_enter Try.func52, Try.ntmps52
  go_wp2_with fail
  go_region
  go_wp2_with fail
  go_ret
  exact ⟨rfl, (Below.refl _ _).drew⟩
set_option maxHeartbeats 1000000 in
theorem rqe_yes (B : Nat) (mp : Option Addr) (F : Int) (f : Nat → Int) (s : Int) (w : World) (hs : F ≤ s) (hm : MachT B mp F f s 0 w) :
    Calls Try.prog 52 #[.pointer (some ⟨B, 0, none⟩)] w fun e w' => e = .returned (.bool true) ∧ Below w.heap.size w w' := by
  have ct := hm.tr
  have cs := hm.st
  have cf := hm.fu
  have t0 : decide (F ≤ s) = true := by simpa using hs
  clear hm
  go_enter Try.func52, Try.ntmps52
  go_wp2_with fail
  go_region
  go_wp2_with fail
  go_ret
  exact ⟨rfl, (Below.refl _ _).drew⟩
set_option maxHeartbeats 1000000 in
theorem rqe_trap (B : Nat) (mp : Option Addr) (F : Int) (f : Nat → Int) (s t : Int) (w : World) (ht : (t == 0) = false) (hm : MachT B mp F f s t w) :
    Calls Try.prog 52 #[.pointer (some ⟨B, 0, none⟩)] w fun e w' => e = .returned (.bool true) ∧ Below w.heap.size w w' := by
  have ct := hm.tr
  have cs := hm.st
  have cf := hm.fu
  have ht2 : (t != 0) = true := by simp at ht ⊢; exact ht
  clear hm
  go_enter Try.func52, Try.ntmps52
  go_wp2_with fail
  go_region
  go_wp2_with fail
  go_ret
  exact ⟨rfl, (Below.refl _ _).drew⟩
/-- the blocks that may change -/
def SD0 (RB X : Nat) (v0 : Value) (W0 : World) (j : Nat) : Prop := j = RB ∨ j = X ∨ v0.ownBlock = some j ∨ W0.heap.size ≤ j
/-- what stands at each step -/
structure DM (RB X Bs : Nat) (F : Int) (K : Bk) (n2 : Nat) (v0 : Value) (W0 : World) (cnt : Nat) (f : Nat → Int) (b : List Nat) (s t : Int) (W : World) : Prop where
  m : MachT RB (some ⟨X, 0, none⟩) F f s t W
  x : ∃ L v, RefIs X Bs K.ff K.Fb.length K.rr n2 L v W ∧ Agree K.ff K.rr K.Fb b L ∧ L.length ≤ cnt ∧ ∀ j, v.ownBlock = some j → v0.ownBlock = some j ∨ W0.heap.size ≤ j
  o : Out (SD0 RB X v0 W0) W0 W
  wf : WordsF f
  bl : b.length = n2
theorem atL_ltV {L : List (Nat × Nat)} (h : LogOk L) (a : Nat) : atL L a < 256 := by
  unfold atL
  have : ∀ (l : List (Nat × Nat)) (v : Nat), v < 256 → (∀ x ∈ l, x.2 < 256) → l.foldl (fun v x => if x.1 = a then x.2 else v) v < 256 := by
    intro l
    induction l with
    | nil => intro v hv _; exact hv
    | cons x l ih =>
      intro v hv hx
      rw [List.foldl_cons]
      refine ih _ ?_ fun y hy => hx y (List.mem_cons_of_mem _ hy)
      split
      · exact hx x (List.mem_cons_self ..)
      · exact hv
  exact this L 0 (by omega) fun x hx => (h x hx).2
theorem bytes_agree {f r : Nat} {Fb Rb : List Nat} {L : List (Nat × Nat)} (hag : Agree f r Fb Rb L) (ho : LogOk L) : ∀ x ∈ Rb, x < 256 := by
  intro x hx
  obtain ⟨i, hi, rfl⟩ := List.mem_iff_getElem.1 hx
  have := hag.2 i hi
  rw [List.getD, List.getElem?_eq_getElem hi] at this
  have h2 := atL_ltV ho (r + i)
  rw [this] at h2
  exact h2
theorem DM.below {RB X Bs : Nat} {F : Int} {K : Bk} {n2 : Nat} {v0 : Value} {W0 : World} {cnt : Nat} {f : Nat → Int} {b : List Nat} {s t : Int} {W W' : World} (h : DM RB X Bs F K n2 v0 W0 cnt f b s t W) (hb : Below W.heap.size W W') : DM RB X Bs F K n2 v0 W0 cnt f b s t W' := by
  obtain ⟨L, v, h1, h2, h3, h4⟩ := h.x
  exact ⟨h.m.out (Out.of_below (fun _ => False) hb) id, ⟨L, v, h1.out (Out.of_below (fun _ => False) hb) id (fun _ _ => id), h2, h3, h4⟩, h.o.trans (Out.of_below _ hb), h.wf, h.bl⟩
/-- a store into the machine's own block -/
theorem DM.set {RB X Bs : Nat} {F : Int} {K : Bk} {n2 : Nat} {v0 : Value} {W0 : World} {cnt k : Nat} {f f' : Nat → Int} {b : List Nat} {s s' t t' : Int} {W : World} {u : Value} (h : DM RB X Bs F K n2 v0 W0 cnt f b s t W) (hRX : RB ≠ X) (hv0 : v0.ownBlock ≠ some RB) (hRB : RB < W0.heap.size) (hm : MachT RB (some ⟨X, 0, none⟩) F f' s' t' (W.setCell ⟨RB, k, none⟩ u)) (hf : WordsF f') : DM RB X Bs F K n2 v0 W0 cnt f' b s' t' (W.setCell ⟨RB, k, none⟩ u) := by
  obtain ⟨L, v, h1, h2, h3, h4⟩ := h.x
  refine ⟨hm, ⟨L, v, h1.out (out_setT RB k u W) (fun e => hRX e.symm) (fun j hj e => ?_), h2, h3, h4⟩, h.o.trans ((out_setT RB k u W).mono fun j hj => .inl hj), hf, h.bl⟩
  subst e
  rcases h4 j hj with g | g
  · exact hv0 g
  · omega
theorem DM.one {RB X Bs : Nat} {F : Int} {K : Bk} {n2 : Nat} {v0 : Value} {W0 : World} {cnt : Nat} {f : Nat → Int} {b : List Nat} {s : Int} {W : World} (h : DM RB X Bs F K n2 v0 W0 cnt f b s 0 W) (hRX : RB ≠ X) (hv0 : v0.ownBlock ≠ some RB) (hRB : RB < W0.heap.size) (hbk : Banks K.ff K.Fb.length K.rr n2) (hF : ∀ x ∈ K.Fb, x < 256) (hc : cnt + 4 ≤ 1000000) (x : Q5) (hx : OkR x) (h23 : x.o ≠ 23) (h24 : x.o ≠ 24) (hs : 0 ≤ s ∧ s ≤ 1000) :
    Calls Try.prog 53 #[.pointer (some ⟨RB, 0, none⟩), .agg #[.int .i64 x.o, .int .i64 x.d, .int .i64 x.a, .int .i64 x.b, .int .i32 x.i]] W fun e w' => e = .returned (.tuple #[]) ∧ DM RB X Bs F K n2 v0 W0 (cnt + 4) (doR K x f b).f (doR K x f b).b (if (doR K x f b).t = 0 then s + 1 else s) (doR K x f b).t w' := by
  obtain ⟨L, v, h1, h2, h3, h4⟩ := h.x
  have hbl := h.bl
  subst hbl
  have hb := bytes_agree h2 h1.ok
  refine (rone_any RB X Bs F s K x f b L v W hx h23 h24 hs h.m.r h1 h2 hbk hRX (fun e => ?_) h.wf hF hb (by omega)).mono ?_
  · rcases h4 RB e with g | g
    · exact hv0 g
    · omega
  · rintro e w' ⟨k1, k2, ⟨L', v', k3, k4, k5, k6⟩, k7⟩
    refine ⟨k1, k2, ⟨L', v', k3, k5, by omega, fun j hj => ?_⟩, h.o.trans (k7.mono fun j hj => ?_), words_doRV h.wf hF hb, len_doRV⟩
    · rcases k4 j hj with g | g
      · exact h4 j g
      · exact .inr (Nat.le_trans h.o.size g)
    · rcases hj with g | g | g
      · exact .inl g
      · exact .inr (.inl g)
      · rcases h4 j g with q | q
        · exact .inr (.inr (.inl q))
        · exact .inr (.inr (.inr q))
end Go.Proofs.Ytghclbeoabkgcaa

namespace Go.Proofs.Ytghclbeoabkgcaa
open Go Go.RowKit Pl
set_option linter.unusedVariables false

theorem l5_outW {w w' : World} {b0 off : Nat} {l : List Q5} {S : Nat → Prop} (h : L5 w (some ⟨b0, off, none⟩) l) (hg : Out S w w') (hB : ¬ S b0) : L5 w' (some ⟨b0, off, none⟩) l := by
  obtain ⟨h1, h2 | ⟨b, o, e, hlt, hc⟩⟩ := h
  · exact ⟨h1, Or.inl h2⟩
  · obtain ⟨rfl, rfl⟩ : b0 = b ∧ off = o := by simpa using e
    refine ⟨h1, Or.inr ⟨b0, off, rfl, Nat.lt_of_lt_of_le hlt hg.size, fun k x hx => ?_⟩⟩
    obtain ⟨c0, c1, c2, c3, c4⟩ := hc k x hx
    exact ⟨(hg.cell (by exact hlt) hB).trans c0, (hg.cell (by exact hlt) hB).trans c1, (hg.cell (by exact hlt) hB).trans c2, (hg.cell (by exact hlt) hB).trans c3, (hg.cell (by exact hlt) hB).trans c4⟩
theorem l5_atW {w : World} {b0 off k : Nat} {l : List Q5} {x : Q5} (h : L5 w (some ⟨b0, off, none⟩) l) (hx : l[k]? = some x) :
    w.cell? ⟨b0, off + k * 5, none⟩ = some (.int .i64 x.o) ∧ w.cell? ⟨b0, off + k * 5 + 1, none⟩ = some (.int .i64 x.d) ∧ w.cell? ⟨b0, off + k * 5 + 2, none⟩ = some (.int .i64 x.a) ∧
    w.cell? ⟨b0, off + k * 5 + 3, none⟩ = some (.int .i64 x.b) ∧ w.cell? ⟨b0, off + k * 5 + 4, none⟩ = some (.int .i32 x.i) := by
  obtain ⟨h1, rfl | ⟨b, o, e, hlt, hc⟩⟩ := h
  · simp at hx
  · obtain ⟨rfl, rfl⟩ : b0 = b ∧ off = o := by simpa using e
    exact hc k x hx
/-- how a stretch of steps ends -/
def Ways (K : Bk) (l : List Q5) (E : List Int) (F : Int) (a0 b0 : Nat) (s0 s' : LS) (k' : Nat) (t : Int) : Prop :=
  (t = 0 ∧ s'.p = b0 ∧ ∀ c : Nat, NoW l a0 b0 c → s'.f c = s0.f c) ∨ (t = 0 ∧ F ≤ k') ∨ (t ≠ 0 ∧ s'.p < l.length ∧ (stepL K l E s').1 = t ∧ (k' : Int) < F)
def tmT (t : Int) : Nat := if t = 0 then 0 else 4
theorem tmT_le (t : Int) : tmT t ≤ 4 := by unfold tmT; split <;> omega
theorem tmT_ne {t : Int} (h : t ≠ 0) : tmT t = 4 := if_neg h
theorem step24_at {K : Bk} {l : List Q5} {E : List Int} (hp : Prog1 l E) {k e : Nat} {x y : Q5} {D : Nat} {f : Nat → Int} {b : List Nat} (hx : l[k]? = some x) (h23 : x.o = 23) (hm : mate l k = some e) (hD : x.d = (D : Int)) (hy : l[e]? = some y) (h24 : y.o = 24) :
    stepL K l E ⟨e, f, b⟩ = (0, ⟨if (f D - 1) % 4294967296 = 0 then e + 1 else k + 1, upd f D ((f D - 1) % 4294967296), b⟩) := by
  obtain ⟨i, D', z, hz, hzo, hmi, hD', _, hs⟩ := step24 (K := K) hp (s := ⟨e, f, b⟩) hy h24
  obtain ⟨_, g2, _⟩ := ends_facts hp.E
  obtain ⟨q, hq, _, q1⟩ := g2 i z hz hzo
  obtain ⟨q', hq', _, q2⟩ := g2 k x hx h23
  rw [hmi] at hq
  rw [hm] at hq'
  have a1 : e = q := by injection hq
  have a2 : e = q' := by injection hq'
  rw [← a1] at q1
  rw [← a2, q1] at q2
  have hik : i = k := by have := Option.some.inj q2; omega
  subst hik
  rw [hx] at hz
  cases hz
  have hDD : D' = D := by rw [hD] at hD'; omega
  subst hDD
  exact hs
def DoesEnd (RB X Bs : Nat) (F : Int) (K : Bk) (n2 : Nat) (v0 : Value) (W0 : World) (c0 : Nat) (l : List Q5) (E : List Int) (a0 b0 : Nat) (s0 : LS) (k0 : Nat) (e : Ending) (w' : World) : Prop :=
  e = .returned (.tuple #[]) ∧ ∃ n s' t, RchL K l E n s0 s' ∧ DM RB X Bs F K n2 v0 W0 (c0 + 4 * (k0 + n) + tmT t) s'.f s'.b ((k0 + n : Nat) : Int) t w' ∧ Ways K l E F a0 b0 s0 s' (k0 + n) t ∧ (((k0 + n : Nat) : Int) ≤ F ∨ n = 0)
theorem DM.cnt {RB X Bs : Nat} {F : Int} {K : Bk} {n2 : Nat} {v0 : Value} {W0 : World} {cnt cnt' : Nat} {f : Nat → Int} {b : List Nat} {s t : Int} {W : World} (h : DM RB X Bs F K n2 v0 W0 cnt f b s t W) (hc : cnt ≤ cnt') : DM RB X Bs F K n2 v0 W0 cnt' f b s t W := by
  obtain ⟨L, v, h1, h2, h3, h4⟩ := h.x
  exact ⟨h.m, ⟨L, v, h1, h2, by omega, h4⟩, h.o, h.wf, h.bl⟩
theorem noW_sub {l : List Q5} {a b a' b' : Nat} {c : Int} (h : NoW l a b c) (h1 : a ≤ a') (h2 : b' ≤ b) : NoW l a' b' c := fun j y g1 g2 => h j y (by omega) (by omega)
theorem balc_cases {l : List Q5} {k b : Nat} (h : BalC l k b) (hlt : k < b) : (∃ x, l[k]? = some x ∧ x.o ≠ 23 ∧ x.o ≠ 24 ∧ BalC l (k + 1) b) ∨
    ∃ x e y, l[k]? = some x ∧ x.o = 23 ∧ mate l k = some e ∧ NoW l (k + 1) e x.d ∧ BalC l (k + 1) e ∧ l[e]? = some y ∧ y.o = 24 ∧ BalC l (e + 1) b := by
  cases h
  · omega
  · rename_i x h1 h2 h3 h4
    exact .inl ⟨x, h3, h1, h2, h4⟩
  · rename_i e x y h1 h2 h3 h4 h5 h6 h7 h8
    exact .inr ⟨x, e, y, h4, h1, h5, h6, h7, h2, h3, h8⟩
/-- where the outer loop stands -/
def AtI (RB X Bs : Nat) (F : Int) (K : Bk) (n2 : Nat) (v0 : Value) (W0 : World) (c0 : Nat) (l : List Q5) (E : List Int) (a0 b0 : Nat) (s0 : LS) (k0 : Nat) (i : Value) (wr : World) : Prop :=
  ∃ (k n : Nat) (s' : LS) (t : Int), i = .int .i64 k ∧ a0 ≤ k ∧ k ≤ b0 ∧ RchL K l E n s0 s' ∧ DM RB X Bs F K n2 v0 W0 (c0 + 4 * (k0 + n) + tmT t) s'.f s'.b ((k0 + n : Nat) : Int) t wr ∧ (((k0 + n : Nat) : Int) ≤ F ∨ n = 0) ∧
    ((t = 0 ∧ s'.p = k ∧ BalC l k b0 ∧ ∀ c : Nat, NoW l a0 b0 c → s'.f c = s0.f c) ∨ (t ≠ 0 ∧ s'.p < l.length ∧ (stepL K l E s').1 = t ∧ ((k0 + n : Nat) : Int) < F))
set_option maxRecDepth 100000 in
set_option maxHeartbeats 4000000 in
theorem rdoes_any (RB X Bs : Nat) (F : Int) (K : Bk) (n2 : Nat) (v0 : Value) (W0 : World) (c0 : Nat) (l : List Q5) (E : List Int) (b1 off cp : Nat) (hp : Prog1 l E) (hll : l.length ≤ 60) (hRX : RB ≠ X) (hv0 : v0.ownBlock ≠ some RB) (hRB : RB < W0.heap.size) (hbk : Banks K.ff K.Fb.length K.rr n2) (hF : ∀ x ∈ K.Fb, x < 256) (hF1 : F ≤ 1000) (hc0 : c0 ≤ 1000)
    (hL : L5 W0 (some ⟨b1, off, none⟩) l) (hb1 : ¬ SD0 RB X v0 W0 b1) :
    ∀ (m a0 b0 k0 : Nat) (s0 : LS) (W : World), b0 - a0 ≤ m → BalC l a0 b0 → b0 ≤ l.length → s0.p = a0 → k0 ≤ 1000 → DM RB X Bs F K n2 v0 W0 (c0 + 4 * k0) s0.f s0.b (k0 : Int) 0 W →
    Calls Try.prog 22 #[.pointer (some ⟨RB, 0, none⟩), .slice (some ⟨b1, off, none⟩) l.length cp, .int .i64 (a0 : Int), .int .i64 (b0 : Int)] W (DoesEnd RB X Bs F K n2 v0 W0 c0 l E a0 b0 s0 k0) := by
  intro m
  induction m with
  | zero =>
    intro a0 b0 k0 s0 W hm hbal hb0 hp0 hk0 hdm
    have hle := hbal.le
    obtain rfl : a0 = b0 := by omega
    have t1 : decide ((a0 : Int) < (a0 : Int)) = false := by simp
    have HDM := Lib.hid hdm
    have HP0 := Lib.hid hp0
    clear hdm hp0
    go_enter Try.func22, Try.ntmps22
    go_wp2_with fail
    go_rounds 1
    exact Go.Great.bodyPost_end0 (by rfl) (by rfl) ⟨rfl, 0, s0, 0, .refl _, HDM.out, .inl ⟨rfl, HP0.out, fun c _ => rfl⟩, .inr rfl⟩
  | succ m ih =>
    intro a0 b0 k0 s0 W hm hbal hb0 hp0 hk0 hdm
    have hle := hbal.le
    have IH := Lib.hid ih
    have HP := Lib.hid hp
    have INI := Lib.hid (show AtI RB X Bs F K n2 v0 W0 c0 l E a0 b0 s0 k0 (.int .i64 (a0 : Int)) W from ⟨a0, 0, s0, 0, rfl, Nat.le_refl _, hle, .refl _, hdm, .inr rfl, .inl ⟨rfl, hp0, hbal, fun _ _ => rfl⟩⟩)
    have HL := Lib.hid hL
    have HFB := Lib.hid hF
    clear ih hp hdm hbal hp0 hL hF
    go_enter Try.func22, Try.ntmps22
    go_wp2_with fail
    go_loopw [8, 9, 10] (fun i v9 v10 wr => AtI RB X Bs F K n2 v0 W0 c0 l E a0 b0 s0 k0 i wr) (fun i _ _ _ => b0 - (intOf i).toNat)
    case atStart => exact INI.out
    case round =>
      obtain ⟨k, n, ⟨p, f, rb⟩, t, rfl, hak, hkb, hre, hdm, hnF, hst⟩ := hrel
      simp only at hdm hst
      have HRE := Lib.hid hre
      have HDM := Lib.hid hdm
      have HNF := Lib.hid hnF
      have HST := Lib.hid hst
      clear hre hdm hnF hst INI
      have g0 : (0 : Int) ≤ (k : Int) := by omega
      have u1 := IntWalk.i64_in ((k : Int) + 1) (by omega)
      by_cases hlt : k < b0
      · have t1 : decide ((k : Int) < (b0 : Int)) = true := by simp; omega
        have g1 : (k : Int) < (l.length : Int) := by omega
        have MEAS := Lib.hid (show b0 - (k + 1) < b0 - k by omega)
        rcases HST.out with ⟨rfl, hpk, hbal, hfr⟩ | ⟨ht, hpl, hstp, hkF⟩
        · have hpk' := hpk.symm
          subst hpk'
          by_cases hkF : F ≤ ((k0 + n : Nat) : Int)
          · go_wp2_with fail
            refine (rqe_yes RB _ F f _ wr hkF HDM.out.m).mono ?_
            rintro e wa ⟨rfl, hbl⟩
            have D2 := Lib.hid (HDM.out.below hbl)
            clear hbl
            go_wp2_with fail
            refine ⟨rfl, _, (results_none rfl _ _ _), ?_⟩
            exact ⟨rfl, n, ⟨k, f, rb⟩, 0, HRE.out, D2.out, .inr (.inl ⟨rfl, hkF⟩), HNF.out⟩
          · have hkF1 : ((k0 + n : Nat) : Int) < F := by omega
            rcases balc_cases hbal hlt with ⟨x, hx, h23, h24, hb2⟩ | ⟨x, e, y, hx, h23, hmt, hnw, hb2, hy, h24, hb3⟩
            · have okx := HP.out.ok x (List.mem_of_getElem? hx)
              have OK := Lib.hid okx
              have HX := Lib.hid hx
              have H23 := Lib.hid h23
              have H24 := Lib.hid h24
              have t23 : (x.o == 23) = false := by simpa using h23
              have t23' : (x.o != 23) = true := by simpa using h23
              have HB2 := Lib.hid hb2
              have HFR := Lib.hid hfr
              have CX := Lib.hid (HP.out.cn x (List.mem_of_getElem? hx))
              clear okx hx h23 h24 hb2 hfr hbal HST
              go_wp2_with fail
              refine (rqe_no RB _ F f _ wr hkF1 HDM.out.m).mono ?_
              rintro e wa ⟨rfl, hbl⟩
              have D2 := Lib.hid (HDM.out.below hbl)
              clear hbl
              obtain ⟨c0', c1', c2', c3', c4'⟩ := l5_atW (l5_outW HL.out D2.out.o hb1) HX.out
              go_wp2_with fail
              refine (D2.out.one hRX hv0 hRB hbk HFB.out (by have : tmT 0 = 0 := rfl; omega) x OK.out H23.out H24.out (by omega)).mono ?_
              rintro e wb ⟨rfl, hd3⟩
              have D3 := Lib.hid hd3
              clear hd3 c0' c1' c2' c3' c4'
              have SP := Lib.hid (step_plain (K := K) (E := E) (s := ⟨k, f, rb⟩) HX.out H24.out)
              have TR := Lib.hid (trap_doRV (K := K) (x := x) (f := f) (b := rb))
              have OTH := Lib.hid (fun c hw => doR_other (K := K) (f := f) (b := rb) (c := c) CX.out hw)
              simp only at SP
              generalize doR K x f rb = r at *
              obtain ⟨rt, rf, rb2⟩ := r
              simp only at SP OTH TR D3
              go_wp2_with fail
              by_cases hrt : rt = 0
              · subst hrt
                rw [if_pos rfl] at D3
                rw [if_neg (by simp)] at SP
                refine ⟨⟨k + 1, n + 1, ⟨k + 1, rf, rb2⟩, 0, by go_num, by omega, by omega, ?_, ?_, .inl (by push_cast; push_cast at hkF1; omega), .inl ⟨rfl, rfl, HB2.out, fun c hc => ?_⟩⟩, by simp [intOf]; omega⟩
                · have := HRE.out.snoc (show (⟨k, f, rb⟩ : LS).p < l.length by show k < l.length; omega) (by rw [SP.out])
                  rw [SP.out] at this
                  exact this
                · have := D3.out.cnt (cnt' := c0 + 4 * (k0 + (n + 1)) + tmT 0) (by have : tmT 0 = 0 := rfl; omega)
                  rw [show ((k0 + (n + 1) : Nat) : Int) = ((k0 + n : Nat) : Int) + 1 by push_cast; omega]
                  exact this
                · rw [← HFR.out c hc]
                  exact OTH.out c (fun hw => hc k x hak hlt HX.out H24.out hw)
              · rw [if_neg hrt] at D3
                rw [if_pos hrt] at SP
                obtain ⟨rfl, rfl⟩ : rf = f ∧ rb2 = rb := TR.out hrt
                refine ⟨⟨k + 1, n, ⟨k, rf, rb2⟩, rt, by go_num, by omega, by omega, HRE.out, ?_, HNF.out, .inr ⟨hrt, by show k < l.length; omega, by rw [SP.out], hkF1⟩⟩, by simp [intOf]; omega⟩
                exact D3.out.cnt (by rw [tmT_ne hrt]; have : tmT 0 = 0 := rfl; omega)
            · have okx := HP.out.ok x (List.mem_of_getElem? hx)
              obtain ⟨D, hD⟩ : ∃ D : Nat, x.d = D := ⟨x.d.toNat, by have := okx.d; omega⟩
              obtain ⟨Im, hI⟩ : ∃ D : Nat, x.i = D := ⟨x.i.toNat, by have := okx.lo h23; omega⟩
              have hD64 : D < 64 := by have := okx.d; omega
              have hI1 : 1 ≤ Im ∧ Im ≤ 100000 := by have := okx.lo h23; omega
              have gD : (D : Int) < 64 := by omega
              have pD : (0 : Int) ≤ (D : Int) := by omega
              have wu : IntKind.u32.wrap (Im : Int) = Im := IntKind.wrap_u32 _ ▸ (by omega)
              have he1 := (mate_ge hmt).1
              have he2 := hb3.le
              have SP := Lib.hid (show ∀ f b, stepL K l E ⟨k, f, b⟩ = (0, ⟨k + 1, upd f D (Im : Int), b⟩) from fun f b => by
                have h1 := step_plain (K := K) (E := E) (s := ⟨k, f, b⟩) hx (by omega)
                rw [doT_plain (.inr h23) rfl] at h1
                rw [if_neg (by simp)] at h1
                simp only at h1
                rw [h1]
                have hv : valR x f = (Im : Int) := by unfold valR; rw [if_pos (.inr h23), hI]; omega
                rw [hv, hD, Int.toNat_natCast])
              have S24 := Lib.hid (fun f b => step24_at (K := K) (f := f) (b := b) HP.out hx h23 hmt hD hy h24)
              have CX := Lib.hid (HP.out.cn x (List.mem_of_getElem? hx))
              have WX := Lib.hid (writes_of CX.out (.inr h23))
              have HX := Lib.hid hx
              have EG := Lib.hid (show endG (l.drop (k + 1)) (k + 1) 0 = some e from hmt)
              have HNW := Lib.hid (show NoW l (k + 1) e (D : Int) by rw [← hD]; exact hnw)
              have HB2 := Lib.hid hb2
              have HB3 := Lib.hid hb3
              have HFR := Lib.hid hfr
              have CC := Lib.hid (fun W' (h : Out (SD0 RB X v0 W0) W0 W') => show W'.cell? ⟨b1, off + k * 5, none⟩ = some (.int .i64 23) ∧ W'.cell? ⟨b1, off + k * 5 + 1, none⟩ = some (.int .i64 (D : Int)) ∧ W'.cell? ⟨b1, off + k * 5 + 4, none⟩ = some (.int .i32 (Im : Int)) by
                obtain ⟨q0, q1, _, _, q4⟩ := l5_atW (l5_outW HL.out h hb1) hx
                rw [h23] at q0
                rw [hD] at q1
                rw [hI] at q4
                exact ⟨q0, q1, q4⟩)
              have nb : b1 ≠ RB := fun e => hb1 (.inl e)
              have e60 : e < l.length := by omega
              have HW0 := Lib.hid (show ∀ c : Nat, NoW l a0 b0 c → (D : Int) ≠ c from fun c hc => by
                have := hc k x hak hlt HX.out (by omega) (by rw [WX.out, hD]; omega)
                rw [WX.out, hD] at this
                exact this)
              clear okx hx h23 hmt hnw hb2 hy h24 hb3 hfr hbal hD hI HST CX WX
              go_wp2_with fail
              refine (rqe_no RB _ F f _ wr hkF1 HDM.out.m).mono ?_
              rintro e2 wa ⟨rfl, hbl⟩
              have D2 := Lib.hid (HDM.out.below hbl)
              clear hbl
              obtain ⟨c0', c1', c4'⟩ := CC.out _ D2.out.o
              go_wp2_with fail
              refine (rend_any (some ⟨b1, off, none⟩) cp l wa (k + 1) (l5_outW HL.out D2.out.o hb1) (by omega)).mono ?_
              rw [EG.out]
              rintro e2 w9 ⟨rfl, rfl⟩
              simp only [optI]
              have cD := D2.out.m.v D hD64
              have zD := D2.out.m.fz (1 + D) (by omega)
              have ltB := D2.out.m.lt
              go_wp2_with fail
              go_region
              have WI := Lib.hid (wordsF_upd D2.out.wf D (show (0 : Int) ≤ (Im : Int) ∧ (Im : Int) < 4294967296 by omega))
              have D3 := Lib.hid ((D2.out.set hRX hv0 hRB (machT_set (x := (Im : Int)) D2.out.m hD64) WI.out).below ((Below.refl _ _).drew))
              generalize World.drew (World.setCell _ _ _) = W3 at *
              clear c0' c1' c4' cD zD
              obtain ⟨c0', c1', c4'⟩ := CC.out _ D3.out.o
              obtain ⟨N, hN⟩ : ∃ N : Nat, N = k0 + n := ⟨_, rfl⟩
              have cs : W3.cell? ⟨RB, 65, none⟩ = some (.int .i64 (N : Int)) := by rw [hN]; exact D3.out.m.st
              have zs := D3.out.m.fz 65 (by omega)
              have us := IntWalk.i64_in ((N : Int) + 1) (by omega)
              have D4 := Lib.hid (D3.out.set hRX hv0 hRB (machT_step (s' := (N : Int) + 1) D3.out.m) WI.out)
              have ES := Lib.hid (show ((k0 + (n + 1) : Nat) : Int) = (N : Int) + 1 by rw [hN]; push_cast; omega)
              clear hN
              have INI2 := Lib.hid (show RchL K l E (n + 1) s0 ⟨k + 1, upd f D (Im : Int), rb⟩ by
                have := HRE.out.snoc (show (⟨k, f, rb⟩ : LS).p < l.length by show k < l.length; omega) (by rw [SP.out])
                rw [SP.out] at this
                exact this)
              have FD := Lib.hid (show upd f D (Im : Int) D = Im from if_pos rfl)
              have FRI := Lib.hid (show ∀ c : Nat, NoW l a0 b0 c → upd f D (Im : Int) c = s0.f c from fun c hc => by
                rw [← HFR.out c hc]
                unfold upd
                rw [if_neg (fun e => HW0.out c hc (by rw [e]))])
              go_wp2_with fail
              generalize World.setCell _ _ _ = W4 at *
              clear c0' c1' c4' cs zs us
              go_loopw [10] (fun v10 wr => ∃ (q n' : Nat) (f' : Nat → Int) (b' : List Nat), v10 = .int .i32 q ∧ q ≤ Im ∧ RchL K l E n' s0 ⟨if q = 0 then e + 1 else k + 1, f', b'⟩ ∧ DM RB X Bs F K n2 v0 W0 (c0 + 4 * (k0 + n')) f' b' ((k0 + n' : Nat) : Int) 0 wr ∧ ((k0 + n' : Nat) : Int) ≤ F ∧ f' D = (q : Int) ∧ ∀ c : Nat, NoW l a0 b0 c → f' c = s0.f c) (fun v10 _ => (intOf v10).toNat)
              case atStart => exact ⟨Im, n + 1, _, rb, rfl, Nat.le_refl _, by rw [if_neg (by omega)]; exact INI2.out, by rw [ES.out]; exact D4.out.cnt (by have : tmT 0 = 0 := rfl; omega), by push_cast at hkF1 ⊢; omega, FD.out, FRI.out⟩
              case round =>
                obtain ⟨q, n', f', b', rfl, hq, hre2, hdm2, hn2, hfq, hfr2⟩ := hrel
                have HRE2 := Lib.hid hre2
                have HDM2 := Lib.hid hdm2
                have HFQ := Lib.hid hfq
                have HFR2 := Lib.hid hfr2
                clear hre2 hdm2 hfq hfr2 D4 D3 D2 INI2 FD FRI
                by_cases hq0 : q = 0
                · subst hq0
                  have R3 := Lib.hid (show RchL K l E n' s0 ⟨e + 1, f', b'⟩ by have := HRE2.out; rwa [if_pos rfl] at this)
                  have ue := IntWalk.i64_in ((e : Int) + 1) (by omega)
                  go_wp2_with fail
                  refine ⟨⟨e + 1, n', ⟨e + 1, f', b'⟩, 0, by go_num, by omega, by omega, R3.out, HDM2.out.cnt (by omega), .inl hn2, .inl ⟨rfl, rfl, HB3.out, HFR2.out⟩⟩, by first | (simp [intOf]; done) | (simp [intOf]; omega)⟩
                · obtain ⟨q', rfl⟩ : ∃ q', q = q' + 1 := ⟨q - 1, by omega⟩
                  have R3 := Lib.hid (show RchL K l E n' s0 ⟨k + 1, f', b'⟩ by have := HRE2.out; rwa [if_neg (by omega)] at this)
                  have tq : decide ((0 : Int) < ((q' + 1 : Nat) : Int)) = true := by rw [decide_eq_true_eq]; omega
                  go_wp2_with fail
                  refine (IH.out (k + 1) e (k0 + n') ⟨k + 1, f', b'⟩ wr (by omega) HB2.out (by omega) rfl (by omega) HDM2.out).mono ?_
                  rintro e3 wb ⟨rfl, n3, ⟨p3, f3, b3⟩, t3, re3, dm3, ways, bd⟩
                  simp only at re3 dm3 ways bd
                  have HRE3 := Lib.hid (show RchL K l E (n' + n3) s0 ⟨p3, f3, b3⟩ from R3.out.trans re3)
                  have D3 := Lib.hid (show DM RB X Bs F K n2 v0 W0 (c0 + 4 * (k0 + (n' + n3)) + tmT t3) f3 b3 ((k0 + (n' + n3) : Nat) : Int) t3 wb by rw [← Nat.add_assoc k0 n' n3]; exact dm3)
                  have BD := Lib.hid (show ((k0 + (n' + n3) : Nat) : Int) ≤ F by rw [← Nat.add_assoc]; rcases bd with h | h; exact h; subst h; exact hn2)
                  have WAYS := Lib.hid ways
                  clear re3 dm3 ways bd
                  rcases WAYS.out with ⟨rfl, hp3, hfr3⟩ | ⟨rfl, hF3⟩ | ⟨ht3, hpl3, hst3, hk3⟩
                  · simp only at hp3
                    have hp3' := hp3.symm
                    subst hp3'
                    have FR3 := Lib.hid hfr3
                    clear hfr3
                    by_cases hF4 : F ≤ ((k0 + (n' + n3) : Nat) : Int)
                    · go_wp2_with fail
                      refine (rqe_yes RB _ F f3 _ wb hF4 D3.out.m).mono ?_
                      rintro e4 wc ⟨rfl, hbl⟩
                      have D5 := Lib.hid (D3.out.below hbl)
                      clear hbl
                      go_wp2_with fail
                      refine ⟨rfl, _, (results_none rfl _ _ _), ?_⟩
                      exact ⟨rfl, n' + n3, ⟨e, f3, b3⟩, 0, HRE3.out, D5.out, .inr (.inl ⟨rfl, hF4⟩), .inl BD.out⟩
                    · have hF5 : ((k0 + (n' + n3) : Nat) : Int) < F := by omega
                      go_wp2_with fail
                      refine (rqe_no RB _ F f3 _ wb hF5 D3.out.m).mono ?_
                      rintro e4 wc ⟨rfl, hbl⟩
                      have D5 := Lib.hid (D3.out.below hbl)
                      clear hbl
                      obtain ⟨c0', c1', c4'⟩ := CC.out _ D5.out.o
                      have cD := D5.out.m.v D hD64
                      have zD := D5.out.m.fz (1 + D) (by omega)
                      have F3 := Lib.hid (show f3 D = ((q' + 1 : Nat) : Int) by rw [FR3.out D HNW.out]; exact HFQ.out)
                      have hw3 := D5.out.wf D
                      go_wp2_with fail
                      go_region
                      have EV := Lib.hid (show (f3 D - 1) % 4294967296 = ((q' : Nat) : Int) by rw [F3.out]; push_cast; omega)
                      rw [EV.out]
                      clear hw3
                      have S25 := Lib.hid (show stepL K l E ⟨e, f3, b3⟩ = (0, ⟨if q' = 0 then e + 1 else k + 1, upd f3 D ((q' : Nat) : Int), b3⟩) by
                        rw [S24.out f3 b3, EV.out]
                        by_cases h : q' = 0
                        · subst h; rfl
                        · rw [if_neg h, if_neg (by omega)])
                      have WI3 := Lib.hid (wordsF_upd D5.out.wf D (show (0 : Int) ≤ ((q' : Nat) : Int) ∧ ((q' : Nat) : Int) < 4294967296 by omega))
                      have D6 := Lib.hid ((D5.out.set hRX hv0 hRB (machT_set (x := ((q' : Nat) : Int)) D5.out.m hD64) WI3.out).below ((Below.refl _ _).drew))
                      generalize World.drew (World.setCell _ _ _) = W6 at *
                      clear c0' c1' c4' cD zD D5
                      have cs := D6.out.m.st
                      have zs := D6.out.m.fz 65 (by omega)
                      have us := IntWalk.i64_in (((k0 + (n' + n3) : Nat) : Int) + 1) (by omega)
                      have D7 := Lib.hid (D6.out.set hRX hv0 hRB (machT_step (s' := ((k0 + (n' + n3 + 1) : Nat) : Int)) D6.out.m) WI3.out)
                      have ES3 := Lib.hid (show (k0 : Int) + ((n' : Int) + (n3 : Int)) + 1 = ((k0 + (n' + n3 + 1) : Nat) : Int) by push_cast; omega)
                      have ui := IntWalk.i32_in (((q' + 1 : Nat) : Int) - 1) (by omega)
                      go_wp2_with fail
                      rw [ES3.out]
                      have RR7 := Lib.hid (show RchL K l E (n' + n3 + 1) s0 ⟨if q' = 0 then e + 1 else k + 1, upd f3 D ((q' : Nat) : Int), b3⟩ by
                        have := HRE3.out.snoc (show (⟨e, f3, b3⟩ : LS).p < l.length from e60) (by rw [S25.out])
                        rw [S25.out] at this
                        exact this)
                      have FF7 := Lib.hid (show ∀ c : Nat, NoW l a0 b0 c → upd f3 D ((q' : Nat) : Int) c = s0.f c from fun c hc => by
                        have h1 := HFR2.out c hc
                        have h2 := FR3.out c (noW_sub hc (by omega) (by omega))
                        rw [← h1, ← h2]
                        unfold upd
                        rw [if_neg (fun e => HW0.out c hc (by rw [e]))])
                      have BB7 : ((k0 + (n' + n3 + 1) : Nat) : Int) ≤ F := by push_cast at hF5 ⊢; omega
                      go_roundw
                      case rel => exact ⟨q', n' + n3 + 1, upd f3 D ((q' : Nat) : Int), b3, by go_num, by omega, RR7.out, D7.out.cnt (by have : tmT 0 = 0 := rfl; omega), BB7, if_pos rfl, FF7.out⟩
                      case measure => first | (simp [intOf]; done) | (simp [intOf]; omega)
                  · go_wp2_with fail
                    refine (rqe_yes RB _ F f3 _ wb (by rw [← Nat.add_assoc]; exact hF3) D3.out.m).mono ?_
                    rintro e4 wc ⟨rfl, hbl⟩
                    have D5 := Lib.hid (D3.out.below hbl)
                    clear hbl
                    go_wp2_with fail
                    refine ⟨rfl, _, (results_none rfl _ _ _), ?_⟩
                    exact ⟨rfl, n' + n3, ⟨p3, f3, b3⟩, 0, HRE3.out, D5.out, .inr (.inl ⟨rfl, by rw [← Nat.add_assoc]; exact hF3⟩), .inl BD.out⟩
                  · have ht4 : (t3 == 0) = false := by simpa using ht3
                    go_wp2_with fail
                    refine (rqe_trap RB _ F f3 _ t3 wb ht4 D3.out.m).mono ?_
                    rintro e4 wc ⟨rfl, hbl⟩
                    have D5 := Lib.hid (D3.out.below hbl)
                    clear hbl
                    go_wp2_with fail
                    refine ⟨rfl, _, (results_none rfl _ _ _), ?_⟩
                    exact ⟨rfl, n' + n3, ⟨p3, f3, b3⟩, t3, HRE3.out, D5.out, .inr (.inr ⟨ht3, hpl3, hst3, by rw [← Nat.add_assoc]; exact hk3⟩), .inl BD.out⟩
        · have ht1 : (t == 0) = false := by simpa using ht
          go_wp2_with fail
          refine (rqe_trap RB _ F f _ t wr ht1 HDM.out.m).mono ?_
          rintro e wa ⟨rfl, hbl⟩
          have D2 := Lib.hid (HDM.out.below hbl)
          clear hbl
          go_wp2_with fail
          refine ⟨rfl, _, (results_none rfl _ _ _), ?_⟩
          exact ⟨rfl, n, ⟨p, f, rb⟩, t, HRE.out, D2.out, .inr (.inr ⟨ht, hpl, hstp, hkF⟩), HNF.out⟩
      · obtain rfl : k = b0 := by omega
        have t1 : decide ((k : Int) < (k : Int)) = false := by simp
        go_wp2_with fail
        refine Go.Great.bodyPost_end0 (by rfl) (by rfl) ⟨rfl, n, ⟨p, f, rb⟩, t, HRE.out, HDM.out, ?_, HNF.out⟩
        rcases HST.out with ⟨rfl, hpk, hbal, hfr⟩ | ⟨ht, hpl, hstp, hkF⟩
        · exact .inl ⟨rfl, hpk, hfr⟩
        · exact .inr (.inr ⟨ht, hpl, hstp, hkF⟩)
end Go.Proofs.Ytghclbeoabkgcaa
