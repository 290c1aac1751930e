/- relax.targets. -/
import Derived.Test.YtipecnofjdhobaaDoorRxC
namespace Go.Proofs.YtipecnofjdhobaaDoor
open Go Go.RowKit Go.Maps Pl
set_option linter.unusedVariables false
set_option linter.unusedSimpArgs false
set_option maxRecDepth 100000

/-- no label twice -/
def Uniq (l : List It) : Prop := ∀ (i j : Nat) (x y : It), l[i]? = some x → l[j]? = some y → x.kd = 2 → y.kd = 2 → x.lb = y.lb → i = j
/-- every branch and jump has its label -/
def Present (l : List It) : Prop := ∀ (i : Nat) (x : It), l[i]? = some x → x.kd = 3 ∨ x.kd = 4 → ∃ (t : Nat) (y : It), l[t]? = some y ∧ y.kd = 2 ∧ y.lb = x.lb
def InvM (l : List It) (k : Nat) (K : List Int) (f : Int → Int) : Prop :=
  (∀ (i : Nat) (x : It), i < k → l[i]? = some x → x.kd = 2 → x.lb ∈ K ∧ f x.lb = (i : Int)) ∧ (∀ y ∈ K, ∃ (i : Nat) (x : It), i < k ∧ l[i]? = some x ∧ x.kd = 2 ∧ x.lb = y)
theorem invM_0 (l : List It) (f : Int → Int) : InvM l 0 [] f := ⟨fun i x h => by omega, fun y h => by simp at h⟩
theorem invM_skip {l : List It} {k : Nat} {K : List Int} {f : Int → Int} {x : It} (h : InvM l k K f) (hx : l[k]? = some x) (h2 : x.kd ≠ 2) : InvM l (k + 1) K f := by
  refine ⟨fun i y hi hy hk => ?_, fun y hy => ?_⟩
  · by_cases e : i = k
    · subst e; rw [hx] at hy; injection hy with hy; subst hy; exact absurd hk h2
    · exact h.1 i y (by omega) hy hk
  · obtain ⟨i, z, q, r⟩ := h.2 y hy
    exact ⟨i, z, by omega, r⟩
theorem invM_put {l : List It} {k : Nat} {K : List Int} {f : Int → Int} {x : It} (h : InvM l k K f) (hx : l[k]? = some x) (h2 : x.kd = 2) (hn : x.lb ∉ K) : InvM l (k + 1) (if x.lb ∈ K then K else K ++ [x.lb]) (fun y => if x.lb = y then (k : Int) else f y) := by
  rw [if_neg hn]
  refine ⟨fun i y hi hy hk => ?_, fun y hy => ?_⟩
  · by_cases e : i = k
    · subst e; rw [hx] at hy; injection hy with hy; subst hy; exact ⟨by simp, if_pos rfl⟩
    · obtain ⟨a, b⟩ := h.1 i y (by omega) hy hk
      refine ⟨by simp [a], ?_⟩
      dsimp only
      rw [if_neg (fun (e : x.lb = y.lb) => hn (by rw [e]; exact a)), b]
  · rcases List.mem_append.1 hy with hy | hy
    · obtain ⟨i, z, q, r⟩ := h.2 y hy
      exact ⟨i, z, by omega, r⟩
    · obtain rfl : y = x.lb := by simpa using hy
      exact ⟨k, x, by omega, hx, h2, rfl⟩
theorem invM_dup {l : List It} {k : Nat} {K : List Int} {f : Int → Int} {x : It} (h : InvM l k K f) (hx : l[k]? = some x) (h2 : x.kd = 2) (hn : x.lb ∈ K) : ¬ Uniq l := fun hu => by
  obtain ⟨i, z, q, r, r2, r3⟩ := h.2 _ hn
  have := hu i k z x r hx r2 h2 r3
  omega
theorem invM_uniq {l : List It} {K : List Int} {f : Int → Int} (h : InvM l l.length K f) : Uniq l := fun i j x y hx hy h2 h3 e => by
  have a := (h.1 i x (List.getElem?_eq_some_iff.1 hx).1 hx h2).2
  have b := (h.1 j y (List.getElem?_eq_some_iff.1 hy).1 hy h3).2
  rw [e] at a
  omega
def tgF (l : List It) (f : Int → Int) (j : Nat) : Int := match l[j]? with | some x => if x.kd = 3 ∨ x.kd = 4 then f x.lb else -1 | none => 0
theorem tgF_yes {l : List It} {f : Int → Int} {j : Nat} {x : It} (h : l[j]? = some x) (hk : x.kd = 3 ∨ x.kd = 4) : tgF l f j = f x.lb := by unfold tgF; rw [h]; exact if_pos hk
theorem tgF_no {l : List It} {f : Int → Int} {j : Nat} {x : It} (h : l[j]? = some x) (hk : ¬ (x.kd = 3 ∨ x.kd = 4)) : tgF l f j = -1 := by unfold tgF; rw [h]; exact if_neg hk
/-- the targets -/
structure TgOk (l : List It) (tg : Nat → Int) : Prop where
  u : Uniq l
  t : ∀ (i : Nat) (x : It), l[i]? = some x → x.kd = 3 ∨ x.kd = 4 → ∃ (t : Nat) (y : It), tg i = (t : Int) ∧ t < l.length ∧ l[t]? = some y ∧ y.kd = 2 ∧ y.lb = x.lb
theorem tg_ok {l : List It} {K : List Int} {f : Int → Int} (h : InvM l l.length K f) (hp : ∀ (i : Nat) (x : It), i < l.length → l[i]? = some x → x.kd = 3 ∨ x.kd = 4 → x.lb ∈ K) : TgOk l (tgF l f) := by
  refine ⟨invM_uniq h, fun i x hx hk => ?_⟩
  have hi := (List.getElem?_eq_some_iff.1 hx).1
  obtain ⟨t, y, q1, q2, q3, q4⟩ := h.2 _ (hp i x hi hx hk)
  refine ⟨t, y, ?_, q1, q2, q3, q4⟩
  rw [tgF_yes hx hk, ← q4]
  exact (h.1 t y q1 q2 q3).2
theorem no_label {l : List It} {K : List Int} {f : Int → Int} (h : InvM l l.length K f) {i : Nat} {x : It} (hx : l[i]? = some x) (hk : x.kd = 3 ∨ x.kd = 4) (hn : x.lb ∉ K) : ¬ Present l := fun hp => by
  obtain ⟨t, y, q1, q2, q3⟩ := hp i x hx hk
  have := (h.1 t y (List.getElem?_eq_some_iff.1 q1).1 q1 q2).1
  rw [q3] at this
  exact hn this
theorem part_if {g : Nat → Int} (k j : Nat) : (if j < k + 1 then g j else 0) = if j = k then g k else if j < k then g j else 0 := by
  by_cases e : j = k
  · subst e; rw [if_pos (by omega), if_pos rfl]
  · rw [if_neg e]
    by_cases h : j < k
    · rw [if_pos h, if_pos (by omega)]
    · rw [if_neg h, if_neg (by omega)]
theorem mapG_more {w : World} {b n m : Nat} {K : List Int} {f : Int → Int} (h : MapG w b n K f) (hm : n ≤ m) : MapG w b m K f := by
  obtain ⟨D, ⟨es, clock, q1, q2, q3, q4⟩, q5⟩ := h
  exact ⟨D, ⟨es, clock, q1, q2, Nat.le_trans q3 hm, q4⟩, q5⟩
theorem tg_0 (g : Nat → Int) (n : Nat) : iR n (fun j => if j < 0 then g j else 0) = iR n fun _ => 0 := iR_eq fun j _ => by rw [if_neg (by omega)]
def TgPost (l : List It) (w : World) (e : Ending) (w' : World) : Prop :=
  Below w.heap.size w w' ∧ ((∃ (b : Nat) (tg : Nat → Int), e = .returned (.tuple #[.slice (some ⟨b, 0, none⟩) l.length l.length, .int .i64 0]) ∧ w.heap.size ≤ b ∧ RowAt w' b (iR l.length tg) ∧ TgOk l tg) ∨ (e = .returned (.tuple #[.slice none 0 0, .int .i64 8]) ∧ ¬ (Uniq l ∧ Present l)))
theorem tg_err {l : List It} {w w' : World} (hb : Below w.heap.size w w') (h : ¬ (Uniq l ∧ Present l)) : TgPost l w (.returned (.tuple #[.slice none 0 0, .int .i64 8])) w' := ⟨hb, .inr ⟨rfl, h⟩⟩
theorem tg_yes {l : List It} {w w' : World} {b : Nat} {tg : Nat → Int} (hb : Below w.heap.size w w') (h1 : w.heap.size ≤ b) (h2 : RowAt w' b (iR l.length tg)) (h3 : TgOk l tg) : TgPost l w (.returned (.tuple #[.slice (some ⟨b, 0, none⟩) l.length l.length, .int .i64 0])) w' := ⟨hb, .inl ⟨b, tg, rfl, h1, h2, h3⟩⟩
set_option maxHeartbeats 8000000 in
theorem targets_any (l : List It) (hok : ∀ x ∈ l, x.okay) (at0 : Option Addr) (c : Nat) (w : World) (hA : ItAt w at0 l) (hl : l.length ≤ 4000) (hc : c ≤ 9223372036854775807) :
    Calls Tryd.prog 29 #[.slice at0 l.length c] w (TgPost l w) := by
  have HA := Lib.hid hA
  have HOK := Lib.hid hok
  have hli : (l.length : Int) ≤ 4000 := by omega
  have hmp := fun (W : World) => run_makeMap (P := Tryd.prog) 46 W
  clear hA hok
  go_enter Tryd.func29, Tryd.ntmps29
  go_upto_region 2 with fail
  have HM1 := Lib.hid (MapG.made w)
  have HB1 := Lib.hid (Below.alloc (Below.refl w.heap.size w) (Nat.le_refl _) (.map #[] 0))
  obtain ⟨b, hb⟩ : ∃ b, b = w.heap.size := ⟨_, rfl⟩
  rw [← hb] at HM1 ⊢
  have HBB := Lib.hid (show w.heap.size ≤ b by rw [hb]; exact Nat.le_refl _)
  clear hb hmp
  generalize w.alloc (.map #[] 0) = W1 at *
  go_wp2_with fail
  go_loopw [17] (fun s17 wr => ∃ (k n : Nat) (K : List Int) (f : Int → Int), k ≤ l.length ∧ s17 = .int .i64 k ∧ n ≤ k ∧ MapG wr b n K f ∧ InvM l k K f ∧ Out (fun j => j = b) W1 wr) (fun s17 _ => l.length - (intOf s17).toNat)
  case atStart => exact ⟨0, 0, [], _, Nat.zero_le _, rfl, Nat.zero_le _, HM1.out, invM_0 _ _, Out.refl _ _⟩
  case round =>
    obtain ⟨k, n, K, f, hk, rfl, hn, hmp, hI, hO⟩ := hrel
    have HMP := Lib.hid hmp
    have HI := Lib.hid hI
    have HU := Lib.hid hO
    have HN := Lib.hid hn
    have HBr := Lib.hid (hO.below HB1.out (Nat.le_refl _) (fun j hj => by subst hj; exact HBB.out))
    clear hmp hO hI hn
    by_cases hkl : k < l.length
    · obtain ⟨x, hx⟩ : ∃ x, l[k]? = some x := ⟨_, List.getElem?_eq_getElem hkl⟩
      obtain ⟨g, off, hat, hg, c0, c1, c2, c3, c4, c5, c6⟩ := (HA.out.later HBr.out) k x hx
      subst hat
      have HX := Lib.hid (HOK.out x (List.mem_of_getElem? hx))
      have HKL := Lib.hid hkl
      have HXI := Lib.hid hx
      have k0 : (0 : Int) ≤ (k : Int) := by omega
      have k1 : (k : Int) < (l.length : Int) := by omega
      obtain ⟨kd, o, d, a, b', i, lb⟩ := x
      dsimp only at c0 c1 c2 c3 c4 c5 c6
      clear hx hkl hk
      go_upto_region 5 with fail
      have hal : Below wr.heap.size wr (wr.alloc (.cells #[.int .i64 kd, .int .i64 o, .int .i64 d, .int .i64 a, .int .i64 b', .int .i32 i, .int .i64 lb] 41)) := Below.alloc (Below.refl _ _) (Nat.le_refl _) _
      have RA := Lib.hid (RowAt.new wr [.int .i64 kd, .int .i64 o, .int .i64 d, .int .i64 a, .int .i64 b', .int .i32 i, .int .i64 lb] 41)
      have HMA := Lib.hid (HMP.out.over hal)
      have HOA := Lib.hid (HU.out.trans (Out.of_below (fun j => j = b) hal))
      obtain ⟨A, hA⟩ : ∃ A, A = wr.heap.size := ⟨_, rfl⟩
      rw [← hA] at RA ⊢
      obtain ⟨W, hW⟩ : ∃ W, W = wr.alloc (.cells #[.int .i64 kd, .int .i64 o, .int .i64 d, .int .i64 a, .int .i64 b', .int .i32 i, .int .i64 lb] 41) := ⟨_, rfl⟩
      have hE : wr.alloc (.cells [Value.int .i64 kd, .int .i64 o, .int .i64 d, .int .i64 a, .int .i64 b', .int .i32 i, .int .i64 lb].toArray 41) = W := by rw [hW]
      rw [hE] at RA
      rw [← hW] at HMA HOA ⊢
      clear hal hA hW hE c0 c1 c2 c3 c4 c5 c6
      have a0 := RA.out.cell 0 _ rfl
      have a6 := RA.out.cell 6 _ rfl
      have al := RA.out.lt
      by_cases h2 : kd = 2
      · have t2 : (kd == 2) = true := by simp [h2]
        have HK2 := Lib.hid h2
        clear h2
        by_cases hm : lb ∈ K
        · have tm : decide (lb ∈ K) = true := by simp [hm]
          have HNU := Lib.hid (invM_dup HI.out HXI.out HK2.out hm)
          have HBW := Lib.hid (HOA.out.below HB1.out (Nat.le_refl _) (fun j hj => by subst hj; exact HBB.out))
          clear hm
          go_wp2_with (at_lookup; refine look_gok _ rfl _ _ 46 rfl Tryd.underlying46 b n _ _ rfl HMA.out lb rfl HX.out.2.2.2.2.2.2 ?_; rw [tm])
          go_returns
          exact tg_err HBW.out (fun h => HNU.out h.1)
        · have tm : decide (lb ∈ K) = false := by simp [hm]
          have HPI := Lib.hid (invM_put HI.out HXI.out HK2.out hm)
          have HKI := Lib.hid (show In64 (k : Int) by unfold In64; omega)
          clear hm
          go_wp2_with (first
            | (at_lookup; refine look_gok _ rfl _ _ 46 rfl Tryd.underlying46 b n _ _ rfl HMA.out lb rfl HX.out.2.2.2.2.2.2 ?_; rw [tm])
            | (at_mapUpdate; refine store_g _ rfl _ _ _ 46 rfl Tryd.underlying46 b n _ _ rfl HMA.out (by have := HKL.out; have := HN.out; omega) lb k rfl rfl HX.out.2.2.2.2.2.2 HKI.out ?_; intro w8 hm8 ho8; have HM8 := Lib.hid hm8; have HO8 := Lib.hid ho8; clear hm8 ho8))
          exact ⟨⟨k + 1, n + 1, _, _, HKL.out, rfl, by have := HN.out; omega, HM8.out, HPI.out, HOA.out.trans HO8.out⟩, by have := HKL.out; simp [intOf]; omega⟩
      · have t2 : (kd == 2) = false := by simp [h2]
        have HPI := Lib.hid (invM_skip HI.out HXI.out h2)
        clear h2
        go_wp2_with fail
        exact ⟨⟨k + 1, n, _, _, HKL.out, rfl, by have := HN.out; omega, HMA.out, HPI.out, HOA.out⟩, by have := HKL.out; simp [intOf]; omega⟩
    · obtain rfl : k = l.length := by omega
      have kx : ¬ ((l.length : Int) < (l.length : Int)) := by omega
      clear hkl hk
      have hmk := fun W => run_make_row' (P := Tryd.prog) 31 3 (.int .i64 0) 8 Tryd.underlying31 info_intO rfl .i64 .i64 l.length (by omega) (by omega) W
      go_upto_region 12 with fail
      have RB := Lib.hid (iR_made wr l.length)
      have HBa := Lib.hid (Below.alloc (Below.refl wr.heap.size wr) (Nat.le_refl _) (.cells (madeCells #[Value.int .i64 0] l.length) 3))
      have HB3 := Lib.hid (below_call HBr.out HBa.out)
      have HM3 := Lib.hid (HMP.out.over HBa.out)
      obtain ⟨B, hB⟩ : ∃ B, B = wr.heap.size := ⟨_, rfl⟩
      rw [← hB] at RB ⊢
      have HWB := Lib.hid (show w.heap.size ≤ B by rw [hB]; exact HBr.out.size)
      have HNB := Lib.hid (show ¬ b = B by have := HMP.out.lt; omega)
      clear hmk hB HBa HMP HU HBr
      generalize wr.alloc (.cells (madeCells #[Value.int .i64 0] l.length) 3) = W3 at *
      go_wp2_with fail
      go_loopw [43] (fun s43 wx => ∃ k : Nat, k ≤ l.length ∧ s43 = .int .i64 k ∧ RowAt wx B (iR l.length (fun j => if j < k then tgF l f j else 0)) ∧ (∀ (i : Nat) (x : It), i < k → l[i]? = some x → x.kd = 3 ∨ x.kd = 4 → x.lb ∈ K) ∧ Out (fun j => j = B) W3 wx) (fun s43 _ => l.length - (intOf s43).toNat)
      case atStart => exact ⟨0, Nat.zero_le _, rfl, by rw [tg_0]; exact RB.out, fun i x h => by omega, Out.refl _ _⟩
      case round =>
        obtain ⟨k, hk, rfl, hRr, hp, hO⟩ := hrel
        have HR := Lib.hid hRr
        have HU := Lib.hid hO
        have HP := Lib.hid hp
        have HBr := Lib.hid (hO.below HB3.out (Nat.le_refl _) (fun j hj => by subst hj; exact HWB.out))
        clear hRr hO hp
        by_cases hkl : k < l.length
        · obtain ⟨x, hx⟩ : ∃ x, l[k]? = some x := ⟨_, List.getElem?_eq_getElem hkl⟩
          obtain ⟨g, off, hat, hg, c0, c1, c2, c3, c4, c5, c6⟩ := (HA.out.later HBr.out) k x hx
          subst hat
          have HX := Lib.hid (HOK.out x (List.mem_of_getElem? hx))
          have HKL := Lib.hid hkl
          have HXI := Lib.hid hx
          have k0 : (0 : Int) ≤ (k : Int) := by omega
          have k1 : (k : Int) < (l.length : Int) := by omega
          obtain ⟨kd, o, d, a, b', i, lb⟩ := x
          dsimp only at c0 c1 c2 c3 c4 c5 c6
          clear hx hkl hk
          go_upto_region 15 with fail
          have hal : Below wr.heap.size wr (wr.alloc (.cells #[.int .i64 kd, .int .i64 o, .int .i64 d, .int .i64 a, .int .i64 b', .int .i32 i, .int .i64 lb] 41)) := Below.alloc (Below.refl _ _) (Nat.le_refl _) _
          have RA := Lib.hid (RowAt.new wr [.int .i64 kd, .int .i64 o, .int .i64 d, .int .i64 a, .int .i64 b', .int .i32 i, .int .i64 lb] 41)
          have HRA := Lib.hid (HR.out.over hal)
          have HOA := Lib.hid (HU.out.trans (Out.of_below (fun j => j = B) hal))
          obtain ⟨A, hA⟩ : ∃ A, A = wr.heap.size := ⟨_, rfl⟩
          have HAB := Lib.hid (show ¬ A = B by have := HR.out.lt; omega)
          rw [← hA] at RA ⊢
          obtain ⟨W, hW⟩ : ∃ W, W = wr.alloc (.cells #[.int .i64 kd, .int .i64 o, .int .i64 d, .int .i64 a, .int .i64 b', .int .i32 i, .int .i64 lb] 41) := ⟨_, rfl⟩
          have hE : wr.alloc (.cells [Value.int .i64 kd, .int .i64 o, .int .i64 d, .int .i64 a, .int .i64 b', .int .i32 i, .int .i64 lb].toArray 41) = W := by rw [hW]
          rw [hE] at RA
          rw [← hW] at HRA HOA ⊢
          clear hal hA hW hE c0 c1 c2 c3 c4 c5 c6
          have d0 := HRA.out.cell k _ (iR_at _ HKL.out)
          rw [if_neg (Nat.lt_irrefl k)] at d0
          have df := HRA.out.fr k
          have dl := HRA.out.lt
          go_upto_region 16 with fail
          have R1 := Lib.hid (iR_row (f' := fun j => if j = k then -1 else if j < k then tgF l f j else 0) (x := -1) HRA.out HKL.out (fun j _ => rfl))
          have RA1 := Lib.hid (RA.out.aside B k (.int .i64 (-1)) (fun e => HAB.out e.symm))
          have HO1 := Lib.hid (HOA.out.trans (out_setB W B k (.int .i64 (-1))))
          clear d0 df dl RA HRA HOA HR
          generalize W.setCell ⟨B, k, none⟩ (.int .i64 (-1)) = W5 at *
          have a0 := RA1.out.cell 0 _ rfl
          have a6 := RA1.out.cell 6 _ rfl
          have al := RA1.out.lt
          by_cases h2 : kd = 3 ∨ kd = 4
          · have HTY := Lib.hid (tgF_yes (f := f) HXI.out h2)
            have HHK := Lib.hid h2
            obtain ⟨p, t3, t4⟩ : ∃ p : Bool, (kd != 3) = p ∧ (p = true → (kd != 4) = false) := ⟨_, rfl, by rcases h2 with h | h <;> subst h <;> simp⟩
            clear h2
            have d0 := R1.out.cell k _ (iR_at _ HKL.out)
            rw [if_pos rfl] at d0
            have df := R1.out.fr k
            have dl := R1.out.lt
            have HMX := Lib.hid (HM3.out.outN HO1.out HNB.out)
            by_cases hm : lb ∈ K
            · have tm : decide (lb ∈ K) = true := by simp [hm]
              have HFF := Lib.hid (fun j (_ : j < l.length) => part_if (g := tgF l f) k j)
              rw [HTY.out] at HFF
              have HRN := Lib.hid (iR_row (f' := fun j => if j < k + 1 then tgF l f j else 0) (x := f lb) R1.out HKL.out (fun j hj => by rw [HFF.out j hj]; dsimp only; split <;> rfl))
              have HPN := Lib.hid (show ∀ (i : Nat) (x : It), i < k + 1 → l[i]? = some x → x.kd = 3 ∨ x.kd = 4 → x.lb ∈ K from fun i x hi hx hh => by
                by_cases e : i = k
                · subst e; rw [HXI.out] at hx; injection hx with hx; subst hx; exact hm
                · exact HP.out i x (by omega) hx hh)
              clear hm
              cases p
              · clear t4
                go_wp2_with (at_lookup; refine look_gok _ rfl _ _ 46 rfl Tryd.underlying46 b n _ _ rfl HMX.out lb rfl HX.out.2.2.2.2.2.2 ?_; rw [tm])
                exact ⟨⟨k + 1, HKL.out, rfl, HRN.out, HPN.out, HO1.out.trans (out_setB W5 B k (.int .i64 (f lb)))⟩, by have := HKL.out; simp [intOf]; omega⟩
              · have t5 := t4 rfl
                clear t4
                go_wp2_with (at_lookup; refine look_gok _ rfl _ _ 46 rfl Tryd.underlying46 b n _ _ rfl HMX.out lb rfl HX.out.2.2.2.2.2.2 ?_; rw [tm])
                exact ⟨⟨k + 1, HKL.out, rfl, HRN.out, HPN.out, HO1.out.trans (out_setB W5 B k (.int .i64 (f lb)))⟩, by have := HKL.out; simp [intOf]; omega⟩
            · have tm : decide (lb ∈ K) = false := by simp [hm]
              have HNP := Lib.hid (no_label HI.out HXI.out HHK.out hm)
              have HBW := Lib.hid (HO1.out.below HB3.out (Nat.le_refl _) (fun j hj => by subst hj; exact HWB.out))
              clear hm
              cases p
              · clear t4
                go_wp2_with (at_lookup; refine look_gok _ rfl _ _ 46 rfl Tryd.underlying46 b n _ _ rfl HMX.out lb rfl HX.out.2.2.2.2.2.2 ?_; rw [tm])
                go_returns
                exact tg_err HBW.out (fun h => HNP.out h.2)
              · have t5 := t4 rfl
                clear t4
                go_wp2_with (at_lookup; refine look_gok _ rfl _ _ 46 rfl Tryd.underlying46 b n _ _ rfl HMX.out lb rfl HX.out.2.2.2.2.2.2 ?_; rw [tm])
                go_returns
                exact tg_err HBW.out (fun h => HNP.out h.2)
          · have t3 : (kd != 3) = true := by simp; omega
            have t4 : (kd != 4) = true := by simp; omega
            have HTN := Lib.hid (tgF_no (f := f) HXI.out h2)
            have HRN := Lib.hid (show RowAt W5 B (iR l.length (fun j => if j < k + 1 then tgF l f j else 0)) by
              rw [iR_eq (g := fun j => if j = k then -1 else if j < k then tgF l f j else 0) (fun j _ => by rw [part_if, HTN.out])]
              exact R1.out)
            have HPN := Lib.hid (show ∀ (i : Nat) (x : It), i < k + 1 → l[i]? = some x → x.kd = 3 ∨ x.kd = 4 → x.lb ∈ K from fun i x hi hx hh => by
              by_cases e : i = k
              · subst e; rw [HXI.out] at hx; injection hx with hx; subst hx; exact absurd hh h2
              · exact HP.out i x (by omega) hx hh)
            clear h2
            go_wp2_with fail
            exact ⟨⟨k + 1, HKL.out, rfl, HRN.out, HPN.out, HO1.out⟩, by have := HKL.out; simp [intOf]; omega⟩
        · obtain rfl : k = l.length := by omega
          have kx : ¬ ((l.length : Int) < (l.length : Int)) := by omega
          have RF := Lib.hid (show RowAt wr B (iR l.length (tgF l f)) by
            have h := HR.out
            rw [iR_eq (g := tgF l f) (fun j hj => by rw [if_pos (by omega)])] at h
            exact h)
          have HTK := Lib.hid (tg_ok HI.out HP.out)
          clear hkl hk
          go_wp2_with fail
          go_returns
          exact tg_yes HBr.out HWB.out RF.out HTK.out
end Go.Proofs.YtipecnofjdhobaaDoor
