/- pintlelaw13.Items. -/
import Derived.Test.YtipecnofjdhobaaDoorRxH
import Derived.Test.YtipecnofjdhobaaDoorFlat
import Derived.WideShapes
namespace Go.Proofs.YtipecnofjdhobaaDoor
open Go Go.RowKit Go.Maps Pl
set_option linter.unusedVariables false
set_option linter.unusedSimpArgs false
set_option maxRecDepth 100000

/-- an item, so many times -/
structure Sm where
  n : Int
  x : It
def Sm.okay (s : Sm) : Prop := In64 s.n ∧ s.x.okay
def SmAt (w : World) (a : Option Addr) (l : List Sm) : Prop :=
  ∀ (k : Nat) (s : Sm), l[k]? = some s → ∃ g off, a = some ⟨g, off, none⟩ ∧ g < w.heap.size ∧ w.cell? ⟨g, off + k * 8, none⟩ = some (.int .i64 s.n) ∧ w.cell? ⟨g, off + k * 8 + 1, none⟩ = some (.int .i64 s.x.kd) ∧ w.cell? ⟨g, off + k * 8 + 2, none⟩ = some (.int .i64 s.x.op) ∧ w.cell? ⟨g, off + k * 8 + 3, none⟩ = some (.int .i64 s.x.rd) ∧ w.cell? ⟨g, off + k * 8 + 4, none⟩ = some (.int .i64 s.x.ra) ∧ w.cell? ⟨g, off + k * 8 + 5, none⟩ = some (.int .i64 s.x.rb) ∧ w.cell? ⟨g, off + k * 8 + 6, none⟩ = some (.int .i32 s.x.im) ∧ w.cell? ⟨g, off + k * 8 + 7, none⟩ = some (.int .i64 s.x.lb)
theorem SmAt.later {w w' : World} {a : Option Addr} {l : List Sm} (h : SmAt w a l) (k : Below w.heap.size w w') : SmAt w' a l := fun i x hx => by
  obtain ⟨g, off, h0, h1, c0, c1, c2, c3, c4, c5, c6, c7⟩ := h i x hx
  exact ⟨g, off, h0, Nat.lt_of_lt_of_le h1 k.size, (k.cell (p := ⟨g, _, none⟩) h1).trans c0, (k.cell (p := ⟨g, _, none⟩) h1).trans c1, (k.cell (p := ⟨g, _, none⟩) h1).trans c2, (k.cell (p := ⟨g, _, none⟩) h1).trans c3, (k.cell (p := ⟨g, _, none⟩) h1).trans c4, (k.cell (p := ⟨g, _, none⟩) h1).trans c5, (k.cell (p := ⟨g, _, none⟩) h1).trans c6, (k.cell (p := ⟨g, _, none⟩) h1).trans c7⟩
def itV (l : List It) : List Value := l.flatMap It.cells
theorem itV_len (ls : List It) : (itV ls).length = ls.length * 7 := by
  induction ls with
  | nil => rfl
  | cons x r ih =>
    show (x.cells ++ itV r).length = _
    rw [List.length_append, ih]
    simp [It.cells]
    omega
theorem itV_at : ∀ (ls : List It) (k : Nat) (x : It), ls[k]? = some x → ∀ j u, x.cells[j]? = some u → (itV ls)[k * 7 + j]? = some u
  | [], k, x, h, _, _, _ => by simp at h
  | y :: r, 0, x, h, j, u, hu => by
    obtain rfl : y = x := by simpa using h
    have hj : j < y.cells.length := (List.getElem?_eq_some_iff.1 hu).1
    show (y.cells ++ itV r)[0 * 7 + j]? = _
    rw [Nat.zero_mul, Nat.zero_add, List.getElem?_append_left hj, hu]
  | y :: r, k + 1, x, h, j, u, hu => by
    show (y.cells ++ itV r)[(k + 1) * 7 + j]? = _
    rw [List.getElem?_append_right (by simp [It.cells]; omega)]
    have := itV_at r k x (by simpa using h) j u hu
    rw [show (k + 1) * 7 + j - y.cells.length = k * 7 + j by simp [It.cells]; omega]
    exact this
abbrev OwnI (w : World) (B : Nat) (v : Value) (l : List It) : Prop := w.ownsRow B 41 7 v l.length (itV l)
theorem own_slT {w : World} {B : Nat} {v : Value} {l : List It} (h : OwnI w B v l) : ∃ a c, v = .slice a l.length c ∧ c ≤ 9223372036854775807 := by
  obtain ⟨h1, ⟨rfl, h2⟩ | ⟨g, c, cur, rfl, hb, hg, hc, hm, _⟩⟩ := h
  · rw [h2]; exact ⟨none, 0, rfl, by omega⟩
  · exact ⟨_, c, rfl, hm⟩
theorem own_itA {w : World} {B : Nat} {a : Option Addr} {n c : Nat} {ls : List It} (h : OwnI w B (.slice a n c) ls) : ItAt w a ls := by
  have h' := h
  obtain ⟨h1, ⟨h0, h2⟩ | ⟨g, c, cur, h0, hb, hg, hc, hm, hs, ht⟩⟩ := h
  · intro k x hx
    rw [List.eq_nil_of_length_eq_zero h2] at hx
    simp at hx
  · intro k x hx
    injection h0 with h0 hn0 hc0
    subst h0 hc0 hn0
    have hk := (List.getElem?_eq_some_iff.1 hx).1
    have ha : ∀ j u, x.cells[j]? = some u → w.cell? ⟨g, 0 + k * 7 + j, none⟩ = some u := fun j u hu => by
      have hj : j < x.cells.length := (List.getElem?_eq_some_iff.1 hu).1
      have hj7 : j < 7 := by simpa [It.cells] using hj
      rw [Nat.zero_add, h'.cellAt (k * 7 + j) (by omega)]
      exact itV_at ls k x hx j u hu
    exact ⟨g, 0, rfl, (Array.getElem?_eq_some_iff.1 hg).1, ha 0 _ rfl, ha 1 _ rfl, ha 2 _ rfl, ha 3 _ rfl, ha 4 _ rfl, ha 5 _ rfl, ha 6 _ rfl⟩
theorem own_emptyI (w : World) (base : Nat) (hb : base ≤ w.heap.size) : OwnI (w.alloc (.cells #[] 41)) base (.slice (some ⟨w.heap.size, 0, none⟩) 0 0) [] :=
  ⟨rfl, Or.inr ⟨w.heap.size, 0, #[], rfl, hb, by show (w.heap.push _)[w.heap.size]? = _; simp, Nat.le_refl _, by simp [maxLen], rfl, rfl⟩⟩
theorem own_overI {w w' : World} {B : Nat} {v : Value} {l : List It} (h : OwnI w B v l) {S : Nat → Prop} (k : Out S w w') (hs : ∀ g, v.ownBlock = some g → ¬ S g) : OwnI w' B v l := by
  obtain ⟨h1, h2 | ⟨g, c, cur, rfl, hb, hg, hr⟩⟩ := h
  · exact ⟨h1, .inl h2⟩
  · exact ⟨h1, .inr ⟨g, c, cur, rfl, hb, (k.block g (Array.getElem?_eq_some_iff.1 hg).1 (hs g rfl)).trans hg, hr⟩⟩
theorem app_item {ops : Array Oper} {rest : List Oper} {o : Oper} {a : Act} {Q : Exit → Act → World → Prop} (w : World) (hgd : o.guard = none) (s x : Operand)
    (ho : o.op = .call { callee := .builtin .append, args := #[s, x], argTypes := #[23, 23] }) (B : Nat) (v : Value) (ls : List It) (hs : a.eval s = v) (hown : OwnI w B v ls) (l : It) (A : Nat)
    (hx : a.eval x = .slice (some ⟨A, 0, none⟩) 1 1) (hA : RowAt w A l.cells) (hl : ls.length ≤ 1000000) (hB : B ≤ w.heap.size)
    (h : ∀ v' w', OwnI w' B v' (ls ++ [l]) → Out (fun j => B ≤ j) w w' → wpList Tryd.prog ops Q rest (a.put o.dst v') w') :
    wpList Tryd.prog ops Q (o :: rest) a w := by
  obtain ⟨i1, z1, hi1, hz1, hz2, hz3, hz4⟩ : ∃ i z, Tryd.prog.info? 41 = some i ∧ i.zero = some z ∧ i.size = 7 ∧ i.bytes = 56 ∧ z.cells.size = 7 := ⟨(Tryd.prog.info? 41).get!, (Tryd.prog.info? 41).get!.zero.get!, by kernel_rfl, by kernel_rfl, by kernel_rfl, by kernel_rfl, by kernel_rfl⟩
  refine wpList_append_own _ hgd s x 23 ho B 41 i1 z1 7 56 Tryd.underlying23 hi1 hz1 hz2 hz3 hz4 (by decide) v ls.length (itV ls) hs hown ⟨A, 0, none⟩ 1 1 l.cells hx rfl (fun j u hu => by rw [addr_add0]; exact hA.cell j u hu) (fun u hu => by simp [It.cells] at hu; rcases hu with rfl | rfl | rfl | rfl | rfl | rfl | rfl <;> rfl) (by unfold maxLen; omega) (by omega) hB ?_
  intro v' w' h1 h2 h3
  refine h v' w' ?_ (Out.of_grown h2 (fun k e => (World.ownsRow.lt hown k e).1))
  unfold OwnI
  rw [List.length_append, show itV (ls ++ [l]) = itV ls ++ l.cells by simp [itV]]
  exact h1
def timesOf (s : Sm) : Int := if s.n < 1 ∨ s.x.kd ≠ 1 then 1 else s.n
def itStep (out : List It) (s : Sm) : List It := out ++ List.replicate (min (timesOf s).toNat (4000 - out.length)) s.x
def itemsL (l : List Sm) : List It := (l.take 24).foldl itStep []
def itemsK (l : List Sm) (k : Nat) : List It := (l.take k).foldl itStep []
theorem itemsK_succ {l : List Sm} {k : Nat} {s : Sm} (h : l[k]? = some s) : itemsK l (k + 1) = itStep (itemsK l k) s := by
  unfold itemsK
  rw [List.take_add_one, h, List.foldl_append]; rfl
theorem itStep_len (out : List It) (s : Sm) (h : out.length ≤ 4000) : (itStep out s).length ≤ 4000 := by
  unfold itStep; rw [List.length_append, List.length_replicate]; omega
theorem itemsK_len (l : List Sm) : ∀ k, (itemsK l k).length ≤ 4000
  | 0 => by unfold itemsK; simp
  | k + 1 => by
    cases h : l[k]? with
    | none =>
      have e : itemsK l (k + 1) = itemsK l k := by unfold itemsK; rw [List.take_add_one, h]; simp
      rw [e]; exact itemsK_len l k
    | some s => rw [itemsK_succ h]; exact itStep_len _ _ (itemsK_len l k)
theorem itemsK_ok {l : List Sm} (hl : ∀ s ∈ l, s.okay) : ∀ k, ∀ x ∈ itemsK l k, x.okay
  | 0, x, hx => by unfold itemsK at hx; simp at hx
  | k + 1, x, hx => by
    cases h : l[k]? with
    | none =>
      have e : itemsK l (k + 1) = itemsK l k := by unfold itemsK; rw [List.take_add_one, h]; simp
      rw [e] at hx; exact itemsK_ok hl k x hx
    | some s =>
      rw [itemsK_succ h] at hx
      rcases List.mem_append.1 hx with hx | hx
      · exact itemsK_ok hl k x hx
      · rw [(List.mem_replicate.1 hx).2]; exact (hl s (List.mem_of_getElem? h)).2
theorem itemsK_all {l : List Sm} {k : Nat} (h : l.length ≤ k) (h2 : k ≤ 24) : itemsK l k = itemsL l := by
  unfold itemsK itemsL; rw [List.take_of_length_le h, List.take_of_length_le (by omega)]
set_option maxHeartbeats 8000000 in
theorem items_any (l : List Sm) (at0 : Option Addr) (c : Nat) (w : World) (hA : SmAt w at0 l) (hok : ∀ s ∈ l, s.okay) (hl : l.length ≤ 9223372036854775807) (hc : c ≤ 9223372036854775807) :
    Calls Tryd.prog 5 #[.slice at0 l.length c] w fun e w' => ∃ a c', e = .returned (.slice a (itemsL l).length c') ∧ c' ≤ 9223372036854775807 ∧ ItAt w' a (itemsL l) ∧ Below w.heap.size w w' := by
  have HA := Lib.hid hA
  have HOK := Lib.hid hok
  have hli : (l.length : Int) ≤ 9223372036854775807 := by omega
  clear hA hok
  go_enter Tryd.func5, Tryd.ntmps5
  go_upto_region 2 with fail
  have HO0 := Lib.hid (own_emptyI w w.heap.size (Nat.le_refl _))
  have HB0 := Lib.hid (Below.alloc (Below.refl w.heap.size w) (Nat.le_refl _) (.cells #[] 41))
  generalize w.alloc (.cells #[] 41) = W1 at *
  go_wp2_with fail
  go_loopw [3, 4] (fun s3 s4 wr => ∃ k : Nat, k ≤ l.length ∧ k ≤ 24 ∧ s4 = .int .i64 k ∧ OwnI wr w.heap.size s3 (itemsK l k) ∧ Below w.heap.size w wr) (fun _ s4 _ => 24 - (intOf s4).toNat)
  case atStart => exact ⟨0, Nat.zero_le _, by omega, rfl, HO0.out, HB0.out⟩
  case round =>
    obtain ⟨k, hk, hk2, rfl, hO, hB⟩ := hrel
    obtain ⟨sa, sc, rfl, hsc⟩ := own_slT hO
    have HO := Lib.hid hO
    have HB := Lib.hid hB
    clear hO hB
    by_cases hkl : k < l.length
    · have k0 : (0 : Int) ≤ (k : Int) := by omega
      have k1 : (k : Int) < (l.length : Int) := by omega
      by_cases hk24 : k < 24
      · have k2 : (k : Int) < 24 := by omega
        obtain ⟨s, hs⟩ : ∃ x, l[k]? = some x := ⟨_, List.getElem?_eq_getElem hkl⟩
        have HKL := Lib.hid hkl
        have HK24 := Lib.hid hk24
        have HSK := Lib.hid (itemsK_succ hs)
        have HIC := Lib.hid (fun W (h : Below w.heap.size w W) => (HA.out.later h) k s hs)
        obtain ⟨g, off, hat, hg, c0, c1, -⟩ := HIC.out wr HB.out
        subst hat
        have HBL := Lib.hid (itemsK_len l k)
        obtain ⟨base, hbase⟩ : ∃ b, b = itemsK l k := ⟨_, rfl⟩
        rw [← hbase] at HO HSK HBL ⊢
        have HSE := Lib.hid hs
        clear hbase hs hkl hk hk24 hk2
        have HX := Lib.hid (HOK.out s (List.mem_of_getElem? HSE.out))
        go_upto_region 6 with fail
        go_cut [33] (fun s33 wx => s33 = .bool (decide (s.n < 1) || (s.x.kd != 1)) ∧ wx = wr)
        case first =>
          by_cases h1 : s.n < 1
          · have HB1 := Lib.hid (show true = (decide (s.n < 1) || (s.x.kd != 1)) by simp [h1])
            have t1 : decide (s.n < 1) = true := by simp [h1]
            go_wp2_with fail
            all_goals go_meet
            all_goals exact ⟨congrArg Value.bool HB1.out, rfl⟩
          · have t1 : decide (s.n < 1) = false := by simp; omega
            obtain ⟨kb, t2⟩ : ∃ b, (s.x.kd != 1) = b := ⟨_, rfl⟩
            have HB1 := Lib.hid (show kb = (decide (s.n < 1) || (s.x.kd != 1)) by rw [t1, t2]; rfl)
            clear h1
            cases kb
            all_goals (go_wp2_with fail)
            all_goals go_meet
            all_goals exact ⟨congrArg Value.bool HB1.out, rfl⟩
        case rest =>
          obtain ⟨h33, hwc⟩ := hcut
          subst h33 hwc
          have HTB := Lib.hid (show timesOf s = if (decide (s.n < 1) || (s.x.kd != 1)) = true then 1 else s.n by unfold timesOf; simp)
          generalize (decide (s.n < 1) || (s.x.kd != 1)) = tb at *
          clear c1
          go_upto_if 33 with fail
          go_cut [5] (fun s5 wx => s5 = .int .i64 (timesOf s) ∧ wx = wc)
          case first =>
            cases tb
            all_goals (go_wp2_with fail)
            all_goals go_meet
            all_goals exact ⟨by rw [HTB.out]; rfl, rfl⟩
          case rest =>
          obtain ⟨h5, hwc⟩ := hcut
          subst h5 hwc
          have ht1 : 1 ≤ timesOf s := by unfold timesOf; split <;> omega
          have ht2 : timesOf s ≤ 9223372036854775807 := by unfold timesOf; have := HX.out.1.2; split <;> omega
          unfold itStep at HSK
          obtain ⟨T, hT⟩ : ∃ T : Nat, timesOf s = (T : Int) := ⟨(timesOf s).toNat, by omega⟩
          rw [hT] at HSK ht1 ht2 ⊢
          clear hT c0 HTB
          go_wp2_with fail
          go_loopw [3, 6] (fun s3 s6 wx => ∃ j : Nat, j ≤ T ∧ j ≤ 4000 - base.length ∧ s6 = .int .i64 j ∧ OwnI wx w.heap.size s3 (base ++ List.replicate j s.x) ∧ Below w.heap.size w wx) (fun _ s6 _ => 4000 - base.length - (intOf s6).toNat)
          case atStart => exact ⟨0, Nat.zero_le _, Nat.zero_le _, rfl, by rw [List.replicate_zero, List.append_nil]; exact HO.out, HB.out⟩
          case round =>
            obtain ⟨j, hj1, hj2, rfl, hO, hB⟩ := hrel
            obtain ⟨va, vc, rfl, hvc⟩ := own_slT hO
            have hll : (base ++ List.replicate j s.x).length = base.length + j := by simp
            have HO2 := Lib.hid (show OwnI wr w.heap.size (.slice va (base.length + j) vc) (base ++ List.replicate j s.x) by rw [hll] at hO; exact hO)
            have HB2 := Lib.hid hB
            simp only [hll]
            have HLL := Lib.hid hll
            have hbl := HBL.out
            clear hO hB hll
            have j0 : (0 : Int) ≤ (j : Int) := by omega
            have j5 : (base.length : Int) + (j : Int) ≤ 4000 := by omega
            obtain ⟨M, hM⟩ : ∃ M, M = base.length + j := ⟨_, rfl⟩
            rw [← hM] at HLL HO2 ⊢
            have HMM := Lib.hid hM
            have m1 : (M : Int) ≤ 4000 := by omega
            have m0 : (0 : Int) ≤ (M : Int) := by omega
            by_cases h1 : j < T
            · have j1 : (j : Int) < (T : Int) := by omega
              by_cases h2 : M < 4000
              · have j2 : (M : Int) < 4000 := by omega
                have HJ := Lib.hid (show j < T ∧ j < 4000 - base.length by omega)
                clear h1 h2 hj1 hj2 hM hbl j5
                go_upto_region 11 with fail
                obtain ⟨g', off', hat, hg, c0, c1, c2, c3, c4, c5, c6, c7⟩ := HIC.out wr HB2.out
                injection hat with hat; injection hat with q1 q2; subst q1 q2
                obtain ⟨sn, kd, o, d, a, b', i, lb⟩ := s
                dsimp only at c0 c1 c2 c3 c4 c5 c6 c7 HSK HO2 HIC HLL HX ⊢
                obtain ⟨wo, hwo⟩ : ∃ W : World, W = wr := ⟨_, rfl⟩
                rw [← hwo] at HO2 HB2 c0 c1 c2 c3 c4 c5 c6 c7 hg ⊢
                clear hwo
                have HAL := Lib.hid (Below.alloc (Below.refl wo.heap.size wo) (Nat.le_refl _) (.cells #[.int .i64 kd, .int .i64 o, .int .i64 d, .int .i64 a, .int .i64 b', .int .i32 i, .int .i64 lb] 41))
                have HRN := Lib.hid (RowAt.new wo (It.cells ⟨kd, o, d, a, b', i, lb⟩) 41)
                have HOA := Lib.hid (own_overI HO2.out (Out.of_below (fun _ => False) HAL.out) (fun _ _ => id))
                have HSW := Lib.hid (show w.heap.size ≤ (wo.alloc (.cells #[.int .i64 kd, .int .i64 o, .int .i64 d, .int .i64 a, .int .i64 b', .int .i32 i, .int .i64 lb] 41)).heap.size from Nat.le_trans HB2.out.size HAL.out.size)
                go_wp2_with (at_builtin; refine app_item _ rfl (.tmp 44) (.tmp 50) rfl w.heap.size (.slice va M vc) _ rfl HOA.out ⟨kd, o, d, a, b', i, lb⟩ wo.heap.size rfl HRN.out (by rw [HLL.out]; omega) HSW.out ?_; intro v' w' h1 h2; have HV := Lib.hid h1; have HQ2 := Lib.hid h2; clear h1 h2)
                exact ⟨⟨j + 1, HJ.out.1, HJ.out.2, rfl, by rw [List.replicate_succ', ← List.append_assoc]; exact HV.out, HQ2.out.below (below_call HB2.out HAL.out) (Nat.le_refl _) (fun j hj => hj)⟩, by have := HJ.out; simp [intOf]; omega⟩
              · have j2 : ¬ (M : Int) < 4000 := by omega
                have HST := Lib.hid (show base ++ List.replicate j s.x = itemsK l (k + 1) by rw [HSK.out]; congr 2; rw [Int.toNat_natCast]; omega)
                rw [HST.out] at HO2
                clear h1 h2 hj1 hj2 hM hbl j5
                go_wp2_with fail
                exact ⟨⟨k + 1, HKL.out, HK24.out, rfl, HO2.out, HB2.out⟩, by have := HK24.out; simp [intOf]; omega⟩
            · have j1 : ¬ (j : Int) < (T : Int) := by omega
              have HST := Lib.hid (show base ++ List.replicate j s.x = itemsK l (k + 1) by rw [HSK.out]; congr 2; rw [Int.toNat_natCast]; omega)
              rw [HST.out] at HO2
              clear h1 hj1 hj2 hM hbl j5
              go_wp2_with fail
              exact ⟨⟨k + 1, HKL.out, HK24.out, rfl, HO2.out, HB2.out⟩, by have := HK24.out; simp [intOf]; omega⟩
      · have k2 : ¬ (k : Int) < 24 := by omega
        have HAL := Lib.hid (show itemsK l k = itemsL l by obtain rfl : k = 24 := by omega
                                                           rfl)
        rw [HAL.out] at HO ⊢
        clear hk hk24 hk2 hkl
        go_wp2_with fail
        go_ret
        exact ⟨_, _, rfl, hsc, own_itA HO.out, HB.out⟩
    · obtain rfl : k = l.length := by omega
      have kx : ¬ ((l.length : Int) < (l.length : Int)) := by omega
      have HAL := Lib.hid (itemsK_all (Nat.le_refl l.length) hk2)
      rw [HAL.out] at HO ⊢
      clear hkl hk
      go_wp2_with fail
      go_ret
      exact ⟨_, _, rfl, hsc, own_itA HO.out, HB.out⟩
end Go.Proofs.YtipecnofjdhobaaDoor

namespace Go.Proofs.YtipecnofjdhobaaDoor
open Go Go.RowKit Go.Maps Pl
set_option linter.unusedVariables false
set_option linter.unusedSimpArgs false
set_option maxRecDepth 100000

def lbI : It := ⟨2, 0, 0, 0, 0, 0, 7⟩
def npI : It := ⟨1, 19, 0, 0, 0, 0, 0⟩
def bqI : It := ⟨3, 36, 0, 0, 0, 0, 7⟩
def livL (m : Nat) : List It := lbI :: (List.replicate m npI ++ [bqI])
theorem livL_len (m : Nat) : (livL m).length = m + 2 := by simp [livL]
theorem livL_end (m : Nat) : (livL m)[m + 1]? = some bqI := by simp [livL]
theorem livL_mid {m i : Nat} (h : i < m) : (livL m)[i + 1]? = some npI := by
  simp [livL, List.getElem?_append_left, h]
theorem livL_all {m : Nat} {P : It → Prop} (h1 : P lbI) (h2 : P npI) (h3 : P bqI) : ∀ x ∈ livL m, P x := fun x hx => by
  simp only [livL, List.mem_cons, List.mem_append, List.mem_replicate, List.mem_nil_iff, or_false] at hx
  rcases hx with rfl | ⟨_, rfl⟩ | rfl <;> assumption
theorem livL_lab {m i : Nat} {x : It} (h : (livL m)[i]? = some x) (hk : x.kd = 2) : i = 0 := by
  cases i with
  | zero => rfl
  | succ i =>
    exfalso
    by_cases e : i < m
    · rw [livL_mid e] at h; injection h with h; subst h; exact absurd hk (by decide)
    · by_cases e2 : i = m
      · subst e2; rw [livL_end] at h; injection h with h; subst h; exact absurd hk (by decide)
      · have := (List.getElem?_eq_some_iff.1 h).1
        rw [livL_len] at this
        omega
theorem livL_uniq (m : Nat) : Uniq (livL m) := fun i j x y hx hy h2 h3 _ => by rw [livL_lab hx h2, livL_lab hy h3]
theorem livL_present (m : Nat) : Present (livL m) := fun i x hx hk => by
  refine ⟨0, lbI, rfl, rfl, ?_⟩
  cases i with
  | zero => simp [livL] at hx; subst hx; exact absurd hk (by decide)
  | succ i =>
    by_cases e : i < m
    · rw [livL_mid e] at hx; injection hx with hx; subst hx; exact absurd hk (by decide)
    · by_cases e2 : i = m
      · subst e2; rw [livL_end] at hx; injection hx with hx; subst hx; rfl
      · have := (List.getElem?_eq_some_iff.1 hx).1
        rw [livL_len] at this
        omega
theorem livL_can (m : Nat) : CanAll (livL m) := livL_all (by decide) (by decide) (by decide)
theorem livL_okay (m : Nat) : ∀ x ∈ livL m, x.okay := livL_all (by simp [It.okay, In64, lbI]) (by simp [It.okay, In64, npI]) (by simp [It.okay, In64, bqI])
theorem livL_br {m i : Nat} (h : brL (livL m) i = true) : i = m + 1 := by
  obtain ⟨x, hx, hk⟩ := brL_some h
  cases i with
  | zero => simp [livL] at hx; subst hx; exact absurd hk (by decide)
  | succ i =>
    by_cases e : i < m
    · rw [livL_mid e] at hx; injection hx with hx; subst hx; exact absurd hk (by decide)
    · have := (List.getElem?_eq_some_iff.1 hx).1
      rw [livL_len] at this
      omega
theorem livL_pl {m : Nat} {F : Nat → Bool} (hF : ∀ i, F i = true → i < (livL m).length ∧ brL (livL m) i = true) : ∀ k, k ≤ m → plR (szR (szL (livL m)) F) (k + 1) = 4 * (k : Int) := by
  have hno : ∀ i, i ≤ m → F i = false := fun i hi => by
    cases h : F i with
    | false => rfl
    | true => have := livL_br (hF i h).2; omega
  intro k
  induction k with
  | zero =>
    intro _
    show 0 + szR (szL (livL m)) F 0 = _
    unfold szR
    rw [hno 0 (by omega), szL_at (x := lbI) rfl]; decide
  | succ k ih =>
    intro hk
    show plR _ (k + 1) + szR (szL (livL m)) F (k + 1) = _
    rw [ih (by omega)]
    unfold szR
    rw [hno (k + 1) hk, szL_at (livL_mid (by omega)), show szI npI = 4 by decide]
    simp only [Bool.false_eq_true, if_false]
    omega
theorem livL_to {m : Nat} {tg : Nat → Int} (h : TgOk (livL m) tg) : (rxM (livL m) tg).to (m + 1) = 0 := by
  obtain ⟨t, y, h1, _, h2, h3, _⟩ := h.t (m + 1) bqI (livL_end m) (.inl rfl)
  show (tg (m + 1)).toNat = 0
  rw [h1, livL_lab h2 h3]; rfl
theorem livL_far {m : Nat} {tg : Nat → Int} (h : TgOk (livL m) tg) {F : Nat → Bool} (hc : (rxM (livL m) tg).closed F) (hl : ∀ G, (rxM (livL m) tg).closed G → ∀ i, F i = true → G i = true) (hF : ∀ i, F i = true → i < (livL m).length ∧ brL (livL m) i = true) : F (m + 1) = decide (1024 < m) := by
  by_cases e : 1024 < m
  · rw [show decide (1024 < m) = true by simp [e]]
    cases hf : F (m + 1) with
    | true => rfl
    | false =>
      exfalso
      have := hc (m + 1) (by show m + 1 < (livL m).length; rw [livL_len]; omega) (by show brL (livL m) (m + 1) = true; rw [brL_at (livL_end m)]; rfl) hf
      rw [livL_to h] at this
      unfold nearR RxI.pl at this
      rw [show plR (szR (rxM (livL m) tg).s F) (m + 1) = 4 * (m : Int) from livL_pl hF m (Nat.le_refl m)] at this
      simp [plR] at this
      omega
  · rw [show decide (1024 < m) = false by simp; omega]
    cases hf : F (m + 1) with
    | false => rfl
    | true =>
      have hG : (rxM (livL m) tg).closed (fun _ => false) := fun i hi hb _ => by
        have := livL_br (show brL (livL m) i = true from hb)
        subst this
        rw [livL_to h]
        unfold nearR RxI.pl
        rw [show plR (szR (rxM (livL m) tg).s fun _ => false) (m + 1) = 4 * (m : Int) from livL_pl (fun i h => (Bool.false_ne_true h).elim) m (Nat.le_refl m)]
        simp [plR]
        omega
      have := hl _ hG (m + 1) hf
      cases this
theorem layL_any (m : Nat) (hm : m ≤ 1025) (a : Option Addr) (c : Nat) (w : World) (hA : ItAt w a (livL m)) (hc : c ≤ 9223372036854775807) :
    Calls Tryd.prog 19 #[.slice a (m + 2) c] w fun e w' => ∃ b bf F, e = .returned (.tuple #[.slice (some ⟨b, 0, none⟩) (m + 3) (m + 3), .slice (some ⟨bf, 0, none⟩) (m + 2) (m + 2), .int .i64 0]) ∧ RowAt w' bf (bR (m + 2) F) ∧ F (m + 1) = decide (1024 < m) ∧ Below w.heap.size w w' := by
  have h := layout_any (livL m) (livL_okay m) a c w hA (by rw [livL_len]; omega) hc
  rw [livL_len] at h
  refine h.mono ?_
  rintro e w' ⟨hb, ⟨b, bf, tg, F, rfl, _, _, h3, h4, h5, h6, h7, h8, h9⟩ | ⟨_, hn⟩⟩
  · rw [livL_len] at h4 ⊢
    exact ⟨b, bf, F, rfl, h4, livL_far h6 h7 h8 h9, hb⟩
  · exact absurd ⟨livL_can m, livL_uniq m, livL_present m⟩ hn
def smL (m : Nat) : List Sm := [⟨0, lbI⟩, ⟨m, npI⟩, ⟨0, bqI⟩]
theorem items_liv {m : Nat} (h1 : 1 ≤ m) (h2 : m ≤ 1025) : itemsL (smL m) = livL m := by
  have t0 : timesOf ⟨0, lbI⟩ = 1 := by decide
  have t2 : timesOf ⟨0, bqI⟩ = 1 := by decide
  have t1 : timesOf ⟨(m : Int), npI⟩ = m := by unfold timesOf; dsimp only; rw [if_neg (by simp [npI]; omega)]
  have e0 : itStep [] ⟨0, lbI⟩ = [lbI] := by unfold itStep; rw [t0]; rfl
  have e1 : itStep [lbI] ⟨(m : Int), npI⟩ = lbI :: List.replicate m npI := by unfold itStep; rw [t1]; simp; omega
  have e2 : itStep (lbI :: List.replicate m npI) ⟨0, bqI⟩ = livL m := by
    unfold itStep; rw [t2, show min (1 : Int).toNat (4000 - (lbI :: List.replicate m npI).length) = 1 by simp; omega]; simp [livL]
  show itStep (itStep (itStep [] _) _) _ = _
  rw [e0, e1, e2]
def smC (m : Nat) : List Value := [.int .i64 0, .int .i64 2, .int .i64 0, .int .i64 0, .int .i64 0, .int .i64 0, .int .i32 0, .int .i64 7, .int .i64 m, .int .i64 1, .int .i64 19, .int .i64 0, .int .i64 0, .int .i64 0, .int .i32 0, .int .i64 0, .int .i64 0, .int .i64 3, .int .i64 36, .int .i64 0, .int .i64 0, .int .i64 0, .int .i32 0, .int .i64 7]
theorem itL_any (m : Nat) (h1 : 1 ≤ m) (hm : m ≤ 1025) (g : Nat) (w : World) (hR : RowAt w g (smC m)) :
    Calls Tryd.prog 5 #[.slice (some ⟨g, 0, none⟩) 3 3] w fun e w' => ∃ a c', e = .returned (.slice a (m + 2) c') ∧ c' ≤ 9223372036854775807 ∧ ItAt w' a (livL m) ∧ Below w.heap.size w w' := by
  have hS : SmAt w (some ⟨g, 0, none⟩) (smL m) := by
    intro k s hs
    match k, hs with
    | 0, hs => simp [smL] at hs; subst hs; exact ⟨g, 0, rfl, hR.lt, hR.cell 0 _ rfl, hR.cell 1 _ rfl, hR.cell 2 _ rfl, hR.cell 3 _ rfl, hR.cell 4 _ rfl, hR.cell 5 _ rfl, hR.cell 6 _ rfl, hR.cell 7 _ rfl⟩
    | 1, hs => simp [smL] at hs; subst hs; exact ⟨g, 0, rfl, hR.lt, hR.cell 8 _ rfl, hR.cell 9 _ rfl, hR.cell 10 _ rfl, hR.cell 11 _ rfl, hR.cell 12 _ rfl, hR.cell 13 _ rfl, hR.cell 14 _ rfl, hR.cell 15 _ rfl⟩
    | 2, hs => simp [smL] at hs; subst hs; exact ⟨g, 0, rfl, hR.lt, hR.cell 16 _ rfl, hR.cell 17 _ rfl, hR.cell 18 _ rfl, hR.cell 19 _ rfl, hR.cell 20 _ rfl, hR.cell 21 _ rfl, hR.cell 22 _ rfl, hR.cell 23 _ rfl⟩
    | k + 3, hs => simp [smL] at hs
  have h := items_any (smL m) (some ⟨g, 0, none⟩) 3 w hS (by
    intro s hs
    simp only [smL, List.mem_cons, List.mem_nil_iff, or_false] at hs
    rcases hs with rfl | rfl | rfl
    · exact ⟨by simp [In64], by simp [It.okay, In64, lbI]⟩
    · exact ⟨by simp [In64]; omega, by simp [It.okay, In64, npI]⟩
    · exact ⟨by simp [In64], by simp [It.okay, In64, bqI]⟩) (by simp [smL]) (by omega)
  rw [items_liv h1 hm, livL_len] at h
  exact h
end Go.Proofs.YtipecnofjdhobaaDoor

namespace Go.Proofs.YtipecnofjdhobaaDoor
open Go Go.RowKit Go.Maps Go.ChangeShapes Go.WideShapes Go.ChangeAt
set_option linter.unusedVariables false
set_option linter.unusedSimpArgs false
set_option maxRecDepth 100000

def Sm.cells (s : Sm) : List Value := .int .i64 s.n :: s.x.cells
structure SmIn (w : World) (a : Option Addr) (l : List Sm) (c : Nat) : Prop where
  len : l.length ≤ c
  cap : c ≤ 9223372036854775807
  ok : ∀ s ∈ l, s.okay
  cells : SmAt w a l
theorem of_wf32 {x : Int} (h : (Lit.int .i32 x).wf = true) : -2147483648 ≤ x ∧ x ≤ 2147483647 := by simp [Lit.wf, IntKind.min, IntKind.max, IntKind.signed, IntKind.bits] at h; omega
theorem eight_ints (q : List Value) : ∃ s : Sm, AreInts [.i64, .i64, .i64, .i64, .i64, .i64, .i32, .i64] q → q = s.cells ∧ s.okay := by
  by_cases hq : AreInts [.i64, .i64, .i64, .i64, .i64, .i64, .i32, .i64] q
  · have hl : q.length = 8 := areInts_len hq
    rcases q with _ | ⟨v0, _ | ⟨v1, _ | ⟨v2, _ | ⟨v3, _ | ⟨v4, _ | ⟨v5, _ | ⟨v6, _ | ⟨v7, _ | ⟨v8, r⟩⟩⟩⟩⟩⟩⟩⟩⟩ <;> simp at hl
    obtain ⟨⟨x0, h0, w0⟩, ⟨x1, h1, w1⟩, ⟨x2, h2, w2⟩, ⟨x3, h3, w3⟩, ⟨x4, h4, w4⟩, ⟨x5, h5, w5⟩, ⟨x6, h6, w6⟩, ⟨x7, h7, w7⟩, _⟩ := hq
    subst h0 h1 h2 h3 h4 h5 h6 h7
    exact ⟨⟨x0, ⟨x1, x2, x3, x4, x5, x6, x7⟩⟩, fun _ => ⟨rfl, of_wf64 w0, of_wf64 w1, of_wf64 w2, of_wf64 w3, of_wf64 w4, of_wf64 w5, of_wf32 w6, of_wf64 w7⟩⟩
  · exact ⟨⟨0, ⟨0, 0, 0, 0, 0, 0, 0⟩⟩, fun h => absurd h hq⟩
theorem some_in {H : Type} {enc : TypeId × Value → H} {w : World} {r : Reach} {b base : Nat} {spare : Nat → Bool} {held : Bool} {v : Value} {d : DataW H} {p : List MemPlace}
    (hv : Value.okWide Tryd.prog w r b 22 v) (h : DataW.Trod enc Tryd.prog w base spare held 22 v d p) : ∃ (a : Option Addr) (c : Nat) (l : List Sm), v = .slice a l.length c ∧ SmIn w a l c := by
  obtain ⟨a, len, cap, rfl⟩ := okWide_slice Tryd.underlying22 hv
  obtain ⟨fuel, hf⟩ := h
  obtain ⟨a', c', l', hcs, hF⟩ := flats_cell (ks := [.i64, .i64, .i64, .i64, .i64, .i64, .i32, .i64]) (n := 4) Tryd.underlying22 (by kernel_rfl) (by kernel_rfl) (by decide) hf
  simp [Value.cells] at hcs
  obtain ⟨rfl, rfl, rfl⟩ := hcs
  obtain ⟨f1, f2, f3, f4⟩ := hF
  have eight : ∀ q : List Value, ∃ x : Sm, AreInts [.i64, .i64, .i64, .i64, .i64, .i64, .i32, .i64] q → q = x.cells ∧ x.okay := eight_ints
  have ⟨f, hff⟩ := Classical.axiomOfChoice eight
  refine ⟨a, cap, l'.map f, by simp, by simpa using f1, f2, fun x hx => ?_, fun k x hx => ?_⟩
  · obtain ⟨q, hq, rfl⟩ := List.mem_map.1 hx
    exact (hff q (f3 q hq)).2
  · obtain ⟨q, hq, rfl⟩ : ∃ q, l'[k]? = some q ∧ f q = x := by simpa using hx
    have hqm := List.mem_of_getElem? hq
    obtain ⟨he, _⟩ := hff q (f3 q hqm)
    rcases f4 with ⟨_, h2, _⟩ | ⟨_, h2⟩ | ⟨bl, off, rfl, hlt, hc⟩
    · rw [h2] at hqm; simp at hqm
    · rw [h2] at hqm; simp at hqm
    · have hc' : ∀ j u, (f q).cells[j]? = some u → w.cell? ⟨bl, off + k * 8 + j, none⟩ = some u := fun j u hu => hc k q hq j u (by rw [he]; exact hu)
      exact ⟨bl, off, rfl, hlt, hc' 0 _ rfl, hc' 1 _ rfl, hc' 2 _ rfl, hc' 3 _ rfl, hc' 4 _ rfl, hc' 5 _ rfl, hc' 6 _ rfl, hc' 7 _ rfl⟩
end Go.Proofs.YtipecnofjdhobaaDoor

namespace Go.Proofs.YtipecnofjdhobaaDoor
open Go Go.RowKit Go.Maps Go.ChangeShapes Go.WideShapes Go.ChangeAt Go.Deep
set_option linter.unusedVariables false
set_option linter.unusedSimpArgs false
set_option maxRecDepth 100000

def BlAt (w : World) (a : Option Addr) (l : List Bool) : Prop :=
  ∀ (k : Nat) (b : Bool), l[k]? = some b → ∃ g off, a = some ⟨g, off, none⟩ ∧ g < w.heap.size ∧ w.cell? ⟨g, off + k, none⟩ = some (.bool b)
theorem BlAt.later {w w' : World} {a : Option Addr} {l : List Bool} (h : BlAt w a l) (k : Below w.heap.size w w') : BlAt w' a l := fun i x hx => by
  obtain ⟨g, off, h0, h1, c0⟩ := h i x hx
  exact ⟨g, off, h0, Nat.lt_of_lt_of_le h1 k.size, (k.cell (p := ⟨g, _, none⟩) h1).trans c0⟩
structure BlIn (w : World) (a : Option Addr) (l : List Bool) (c : Nat) : Prop where
  len : l.length ≤ c
  cap : c ≤ 9223372036854775807
  cells : BlAt w a l
theorem bools_in {H : Type} {enc : TypeId × Value → H} {w : World} {r : Reach} {b base : Nat} {spare : Nat → Bool} {held : Bool} {v : Value} {d : DataW H} {p : List MemPlace}
    (hv : Value.okWide Tryd.prog w r b 32 v) (h : DataW.Trod enc Tryd.prog w base spare held 32 v d p) : ∃ (a : Option Addr) (c : Nat) (l : List Bool), v = .slice a l.length c ∧ BlIn w a l c := by
  obtain ⟨a, len0, cap0, rfl⟩ := okWide_slice Tryd.underlying32 hv
  obtain ⟨fuel, hf⟩ := h
  have hC : Tryd.prog.cellsOf 4 = 1 := by kernel_rfl
  rcases Go.Deep.open_slice Tryd.underlying32 hf with ⟨hcs, _⟩ | ⟨x, len, cap, m, n', D, Pl, hcs, _, hl, hm, hmm, _, hi⟩
  · simp [Value.cells] at hcs
    obtain ⟨rfl, rfl, rfl⟩ := hcs
    exact ⟨none, 0, [], rfl, by simp, by omega, fun k b hb => by simp at hb⟩
  · simp [Value.cells] at hcs
    obtain ⟨rfl, rfl, rfl⟩ := hcs
    have hlm : len0 ≤ m := by rw [hmm]; split <;> omega
    have each : ∀ i, ∃ q : Bool, i < len0 → w.cell? (x.add i) = some (.bool q) := by
      intro i
      by_cases hlt : i < len0
      · obtain ⟨cs', hc, hd⟩ := hi i (by omega)
        rw [hC] at hc
        obtain ⟨_, _, hat⟩ := World.cells?_some hc
        obtain ⟨q, hq, _⟩ := DataW.trod_bool Tryd.underlying4 hd
        subst hq
        refine ⟨q, fun _ => ?_⟩
        have h0 := hat 0 (by omega)
        rw [Go.Deep.add_add, Nat.mul_one, Nat.add_zero] at h0
        exact h0
      · exact ⟨false, fun h => absurd h hlt⟩
    have ⟨f, hff⟩ := Classical.axiomOfChoice each
    refine ⟨some x, cap0, (List.range len0).map f, by simp, by simpa using hl, by simpa [maxLen] using hm, fun k b hb => ?_⟩
    have hk : k < len0 := by
      rcases Nat.lt_or_ge k len0 with g | g
      · exact g
      · rw [List.getElem?_eq_none (by simpa using g)] at hb; cases hb
    rw [List.getElem?_map, List.getElem?_range hk] at hb
    obtain rfl : f k = b := by simpa using hb
    obtain ⟨bl, off, spot⟩ := x
    have c0 := hff k hk
    have c00 := hff 0 (by omega)
    have hspot : spot = none := by simpa [Addr.add] using World.cell?_spot c00
    subst hspot
    have e1 : (⟨bl, off, none⟩ : Addr).add k = ⟨bl, off + k, none⟩ := by unfold Addr.add; split <;> simp_all
    rw [e1] at c0
    exact ⟨bl, off, rfl, block_lt_of_cell c0, c0⟩
end Go.Proofs.YtipecnofjdhobaaDoor
