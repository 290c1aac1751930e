/- pintlelaw13.Items. -/
import Derived.Test.YtldjidhdmbeidaaRxH
namespace Go.Proofs.Ytldjidhdmbeidaa
open Go Go.RowKit Go.Maps Pl
set_option linter.unusedVariables false
set_option linter.unusedSimpArgs false
set_option maxRecDepth 100000

/-- an item, so many times -/
structure Sm where
  n : Int
  x : It
def Sm.okay (s : Sm) : Prop := In64 s.n ∧ s.x.okay
def SmAt (w : World) (a : Option Addr) (l : List Sm) : Prop :=
  ∀ (k : Nat) (s : Sm), l[k]? = some s → ∃ g off, a = some ⟨g, off, none⟩ ∧ g < w.heap.size ∧ w.cell? ⟨g, off + k * 8, none⟩ = some (.int .i64 s.n) ∧ w.cell? ⟨g, off + k * 8 + 1, none⟩ = some (.int .i64 s.x.kd) ∧ w.cell? ⟨g, off + k * 8 + 2, none⟩ = some (.int .i64 s.x.op) ∧ w.cell? ⟨g, off + k * 8 + 3, none⟩ = some (.int .i64 s.x.rd) ∧ w.cell? ⟨g, off + k * 8 + 4, none⟩ = some (.int .i64 s.x.ra) ∧ w.cell? ⟨g, off + k * 8 + 5, none⟩ = some (.int .i64 s.x.rb) ∧ w.cell? ⟨g, off + k * 8 + 6, none⟩ = some (.int .i32 s.x.im) ∧ w.cell? ⟨g, off + k * 8 + 7, none⟩ = some (.int .i64 s.x.lb)
theorem SmAt.later {w w' : World} {a : Option Addr} {l : List Sm} (h : SmAt w a l) (k : Below w.heap.size w w') : SmAt w' a l := fun i x hx => by
  obtain ⟨g, off, h0, h1, c0, c1, c2, c3, c4, c5, c6, c7⟩ := h i x hx
  exact ⟨g, off, h0, Nat.lt_of_lt_of_le h1 k.size, (k.cell (p := ⟨g, _, none⟩) h1).trans c0, (k.cell (p := ⟨g, _, none⟩) h1).trans c1, (k.cell (p := ⟨g, _, none⟩) h1).trans c2, (k.cell (p := ⟨g, _, none⟩) h1).trans c3, (k.cell (p := ⟨g, _, none⟩) h1).trans c4, (k.cell (p := ⟨g, _, none⟩) h1).trans c5, (k.cell (p := ⟨g, _, none⟩) h1).trans c6, (k.cell (p := ⟨g, _, none⟩) h1).trans c7⟩
def itV (l : List It) : List Value := l.flatMap It.cells
theorem itV_len (ls : List It) : (itV ls).length = ls.length * 7 := by
  induction ls with
  | nil => rfl
  | cons x r ih =>
    show (x.cells ++ itV r).length = _
    rw [List.length_append, ih]
    simp [It.cells]
    omega
theorem itV_at : ∀ (ls : List It) (k : Nat) (x : It), ls[k]? = some x → ∀ j u, x.cells[j]? = some u → (itV ls)[k * 7 + j]? = some u
  | [], k, x, h, _, _, _ => by simp at h
  | y :: r, 0, x, h, j, u, hu => by
    obtain rfl : y = x := by simpa using h
    have hj : j < y.cells.length := (List.getElem?_eq_some_iff.1 hu).1
    show (y.cells ++ itV r)[0 * 7 + j]? = _
    rw [Nat.zero_mul, Nat.zero_add, List.getElem?_append_left hj, hu]
  | y :: r, k + 1, x, h, j, u, hu => by
    show (y.cells ++ itV r)[(k + 1) * 7 + j]? = _
    rw [List.getElem?_append_right (by simp [It.cells]; omega)]
    have := itV_at r k x (by simpa using h) j u hu
    rw [show (k + 1) * 7 + j - y.cells.length = k * 7 + j by simp [It.cells]; omega]
    exact this
abbrev OwnI (w : World) (B : Nat) (v : Value) (l : List It) : Prop := w.ownsRow B 34 7 v l.length (itV l)
theorem own_slT {w : World} {B : Nat} {v : Value} {l : List It} (h : OwnI w B v l) : ∃ a c, v = .slice a l.length c ∧ c ≤ 9223372036854775807 := by
  obtain ⟨h1, ⟨rfl, h2⟩ | ⟨g, c, cur, rfl, hb, hg, hc, hm, _⟩⟩ := h
  · rw [h2]; exact ⟨none, 0, rfl, by omega⟩
  · exact ⟨_, c, rfl, hm⟩
theorem own_itA {w : World} {B : Nat} {a : Option Addr} {n c : Nat} {ls : List It} (h : OwnI w B (.slice a n c) ls) : ItAt w a ls := by
  have h' := h
  obtain ⟨h1, ⟨h0, h2⟩ | ⟨g, c, cur, h0, hb, hg, hc, hm, hs, ht⟩⟩ := h
  · intro k x hx
    rw [List.eq_nil_of_length_eq_zero h2] at hx
    simp at hx
  · intro k x hx
    injection h0 with h0 hn0 hc0
    subst h0 hc0 hn0
    have hk := (List.getElem?_eq_some_iff.1 hx).1
    have ha : ∀ j u, x.cells[j]? = some u → w.cell? ⟨g, 0 + k * 7 + j, none⟩ = some u := fun j u hu => by
      have hj : j < x.cells.length := (List.getElem?_eq_some_iff.1 hu).1
      have hj7 : j < 7 := by simpa [It.cells] using hj
      rw [Nat.zero_add, h'.cellAt (k * 7 + j) (by omega)]
      exact itV_at ls k x hx j u hu
    exact ⟨g, 0, rfl, (Array.getElem?_eq_some_iff.1 hg).1, ha 0 _ rfl, ha 1 _ rfl, ha 2 _ rfl, ha 3 _ rfl, ha 4 _ rfl, ha 5 _ rfl, ha 6 _ rfl⟩
theorem own_emptyI (w : World) (base : Nat) (hb : base ≤ w.heap.size) : OwnI (w.alloc (.cells #[] 34)) base (.slice (some ⟨w.heap.size, 0, none⟩) 0 0) [] :=
  ⟨rfl, Or.inr ⟨w.heap.size, 0, #[], rfl, hb, by show (w.heap.push _)[w.heap.size]? = _; simp, Nat.le_refl _, by simp [maxLen], rfl, rfl⟩⟩
theorem own_overI {w w' : World} {B : Nat} {v : Value} {l : List It} (h : OwnI w B v l) {S : Nat → Prop} (k : Out S w w') (hs : ∀ g, v.ownBlock = some g → ¬ S g) : OwnI w' B v l := by
  obtain ⟨h1, h2 | ⟨g, c, cur, rfl, hb, hg, hr⟩⟩ := h
  · exact ⟨h1, .inl h2⟩
  · exact ⟨h1, .inr ⟨g, c, cur, rfl, hb, (k.block g (Array.getElem?_eq_some_iff.1 hg).1 (hs g rfl)).trans hg, hr⟩⟩
theorem app_item {ops : Array Oper} {rest : List Oper} {o : Oper} {a : Act} {Q : Exit → Act → World → Prop} (w : World) (hgd : o.guard = none) (s x : Operand)
    (ho : o.op = .call { callee := .builtin .append, args := #[s, x], argTypes := #[23, 23] }) (B : Nat) (v : Value) (ls : List It) (hs : a.eval s = v) (hown : OwnI w B v ls) (l : It) (A : Nat)
    (hx : a.eval x = .slice (some ⟨A, 0, none⟩) 1 1) (hA : RowAt w A l.cells) (hl : ls.length ≤ 1000000) (hB : B ≤ w.heap.size)
    (h : ∀ v' w', OwnI w' B v' (ls ++ [l]) → Out (fun j => B ≤ j) w w' → wpList Try.prog ops Q rest (a.put o.dst v') w') :
    wpList Try.prog ops Q (o :: rest) a w := by
  obtain ⟨i1, z1, hi1, hz1, hz2, hz3, hz4⟩ : ∃ i z, Try.prog.info? 34 = some i ∧ i.zero = some z ∧ i.size = 7 ∧ i.bytes = 56 ∧ z.cells.size = 7 := ⟨(Try.prog.info? 34).get!, (Try.prog.info? 34).get!.zero.get!, by kernel_rfl, by kernel_rfl, by kernel_rfl, by kernel_rfl, by kernel_rfl⟩
  refine wpList_append_own _ hgd s x 23 ho B 34 i1 z1 7 56 Try.underlying23 hi1 hz1 hz2 hz3 hz4 (by decide) v ls.length (itV ls) hs hown ⟨A, 0, none⟩ 1 1 l.cells hx rfl (fun j u hu => by rw [addr_add0]; exact hA.cell j u hu) (fun u hu => by simp [It.cells] at hu; rcases hu with rfl | rfl | rfl | rfl | rfl | rfl | rfl <;> rfl) (by unfold maxLen; omega) (by omega) hB ?_
  intro v' w' h1 h2 h3
  refine h v' w' ?_ (Out.of_grown h2 (fun k e => (World.ownsRow.lt hown k e).1))
  unfold OwnI
  rw [List.length_append, show itV (ls ++ [l]) = itV ls ++ l.cells by simp [itV]]
  exact h1
def timesOf (s : Sm) : Int := if s.n < 1 ∨ s.x.kd ≠ 1 then 1 else s.n
def itStep (out : List It) (s : Sm) : List It := out ++ List.replicate (min (timesOf s).toNat (4000 - out.length)) s.x
def itemsL (l : List Sm) : List It := (l.take 24).foldl itStep []
def itemsK (l : List Sm) (k : Nat) : List It := (l.take k).foldl itStep []
theorem itemsK_succ {l : List Sm} {k : Nat} {s : Sm} (h : l[k]? = some s) : itemsK l (k + 1) = itStep (itemsK l k) s := by
  unfold itemsK
  rw [List.take_add_one, h, List.foldl_append]; rfl
theorem itStep_len (out : List It) (s : Sm) (h : out.length ≤ 4000) : (itStep out s).length ≤ 4000 := by
  unfold itStep; rw [List.length_append, List.length_replicate]; omega
theorem itemsK_len (l : List Sm) : ∀ k, (itemsK l k).length ≤ 4000
  | 0 => by unfold itemsK; simp
  | k + 1 => by
    cases h : l[k]? with
    | none =>
      have e : itemsK l (k + 1) = itemsK l k := by unfold itemsK; rw [List.take_add_one, h]; simp
      rw [e]; exact itemsK_len l k
    | some s => rw [itemsK_succ h]; exact itStep_len _ _ (itemsK_len l k)
theorem itemsK_ok {l : List Sm} (hl : ∀ s ∈ l, s.okay) : ∀ k, ∀ x ∈ itemsK l k, x.okay
  | 0, x, hx => by unfold itemsK at hx; simp at hx
  | k + 1, x, hx => by
    cases h : l[k]? with
    | none =>
      have e : itemsK l (k + 1) = itemsK l k := by unfold itemsK; rw [List.take_add_one, h]; simp
      rw [e] at hx; exact itemsK_ok hl k x hx
    | some s =>
      rw [itemsK_succ h] at hx
      rcases List.mem_append.1 hx with hx | hx
      · exact itemsK_ok hl k x hx
      · rw [(List.mem_replicate.1 hx).2]; exact (hl s (List.mem_of_getElem? h)).2
theorem itemsK_all {l : List Sm} {k : Nat} (h : l.length ≤ k) (h2 : k ≤ 24) : itemsK l k = itemsL l := by
  unfold itemsK itemsL; rw [List.take_of_length_le h, List.take_of_length_le (by omega)]
set_option maxHeartbeats 8000000 in
theorem items_any (l : List Sm) (at0 : Option Addr) (c : Nat) (w : World) (hA : SmAt w at0 l) (hok : ∀ s ∈ l, s.okay) (hl : l.length ≤ 9223372036854775807) (hc : c ≤ 9223372036854775807) :
    Calls Try.prog 5 #[.slice at0 l.length c] w fun e w' => ∃ a c', e = .returned (.slice a (itemsL l).length c') ∧ c' ≤ 9223372036854775807 ∧ ItAt w' a (itemsL l) ∧ Below w.heap.size w w' := by
  have HA := Lib.hid hA
  have HOK := Lib.hid hok
  have hli : (l.length : Int) ≤ 9223372036854775807 := by omega
  clear hA hok
  go_enter Try.func5, Try.ntmps5
  go_upto_region 2 with fail
  have HO0 := Lib.hid (own_emptyI w w.heap.size (Nat.le_refl _))
  have HB0 := Lib.hid (Below.alloc (Below.refl w.heap.size w) (Nat.le_refl _) (.cells #[] 34))
  generalize w.alloc (.cells #[] 34) = W1 at *
  go_wp2_with fail
  go_loopw [3, 4] (fun s3 s4 wr => ∃ k : Nat, k ≤ l.length ∧ k ≤ 24 ∧ s4 = .int .i64 k ∧ OwnI wr w.heap.size s3 (itemsK l k) ∧ Below w.heap.size w wr) (fun _ s4 _ => 24 - (intOf s4).toNat)
  case atStart => exact ⟨0, Nat.zero_le _, by omega, rfl, HO0.out, HB0.out⟩
  case round =>
    obtain ⟨k, hk, hk2, rfl, hO, hB⟩ := hrel
    obtain ⟨sa, sc, rfl, hsc⟩ := own_slT hO
    have HO := Lib.hid hO
    have HB := Lib.hid hB
    clear hO hB
    by_cases hkl : k < l.length
    · have k0 : (0 : Int) ≤ (k : Int) := by omega
      have k1 : (k : Int) < (l.length : Int) := by omega
      by_cases hk24 : k < 24
      · have k2 : (k : Int) < 24 := by omega
        obtain ⟨s, hs⟩ : ∃ x, l[k]? = some x := ⟨_, List.getElem?_eq_getElem hkl⟩
        have HKL := Lib.hid hkl
        have HK24 := Lib.hid hk24
        have HSK := Lib.hid (itemsK_succ hs)
        have HIC := Lib.hid (fun W (h : Below w.heap.size w W) => (HA.out.later h) k s hs)
        obtain ⟨g, off, hat, hg, c0, c1, -⟩ := HIC.out wr HB.out
        subst hat
        have HBL := Lib.hid (itemsK_len l k)
        obtain ⟨base, hbase⟩ : ∃ b, b = itemsK l k := ⟨_, rfl⟩
        rw [← hbase] at HO HSK HBL ⊢
        have HSE := Lib.hid hs
        clear hbase hs hkl hk hk24 hk2
        have HX := Lib.hid (HOK.out s (List.mem_of_getElem? HSE.out))
        go_upto_region 6 with fail
        go_cut [33] (fun s33 wx => s33 = .bool (decide (s.n < 1) || (s.x.kd != 1)) ∧ wx = wr)
        case first =>
          by_cases h1 : s.n < 1
          · have HB1 := Lib.hid (show true = (decide (s.n < 1) || (s.x.kd != 1)) by simp [h1])
            have t1 : decide (s.n < 1) = true := by simp [h1]
            go_wp2_with fail
            all_goals go_meet
            all_goals exact ⟨congrArg Value.bool HB1.out, rfl⟩
          · have t1 : decide (s.n < 1) = false := by simp; omega
            obtain ⟨kb, t2⟩ : ∃ b, (s.x.kd != 1) = b := ⟨_, rfl⟩
            have HB1 := Lib.hid (show kb = (decide (s.n < 1) || (s.x.kd != 1)) by rw [t1, t2]; rfl)
            clear h1
            cases kb
            all_goals (go_wp2_with fail)
            all_goals go_meet
            all_goals exact ⟨congrArg Value.bool HB1.out, rfl⟩
        case rest =>
          obtain ⟨h33, hwc⟩ := hcut
          subst h33 hwc
          have HTB := Lib.hid (show timesOf s = if (decide (s.n < 1) || (s.x.kd != 1)) = true then 1 else s.n by unfold timesOf; simp)
          generalize (decide (s.n < 1) || (s.x.kd != 1)) = tb at *
          clear c1
          go_upto_if 33 with fail
          go_cut [5] (fun s5 wx => s5 = .int .i64 (timesOf s) ∧ wx = wc)
          case first =>
            cases tb
            all_goals (go_wp2_with fail)
            all_goals go_meet
            all_goals exact ⟨by rw [HTB.out]; rfl, rfl⟩
          case rest =>
          obtain ⟨h5, hwc⟩ := hcut
          subst h5 hwc
          have ht1 : 1 ≤ timesOf s := by unfold timesOf; split <;> omega
          have ht2 : timesOf s ≤ 9223372036854775807 := by unfold timesOf; have := HX.out.1.2; split <;> omega
          unfold itStep at HSK
          obtain ⟨T, hT⟩ : ∃ T : Nat, timesOf s = (T : Int) := ⟨(timesOf s).toNat, by omega⟩
          rw [hT] at HSK ht1 ht2 ⊢
          clear hT c0 HTB
          go_wp2_with fail
          go_loopw [3, 6] (fun s3 s6 wx => ∃ j : Nat, j ≤ T ∧ j ≤ 4000 - base.length ∧ s6 = .int .i64 j ∧ OwnI wx w.heap.size s3 (base ++ List.replicate j s.x) ∧ Below w.heap.size w wx) (fun _ s6 _ => 4000 - base.length - (intOf s6).toNat)
          case atStart => exact ⟨0, Nat.zero_le _, Nat.zero_le _, rfl, by rw [List.replicate_zero, List.append_nil]; exact HO.out, HB.out⟩
          case round =>
            obtain ⟨j, hj1, hj2, rfl, hO, hB⟩ := hrel
            obtain ⟨va, vc, rfl, hvc⟩ := own_slT hO
            have hll : (base ++ List.replicate j s.x).length = base.length + j := by simp
            have HO2 := Lib.hid (show OwnI wr w.heap.size (.slice va (base.length + j) vc) (base ++ List.replicate j s.x) by rw [hll] at hO; exact hO)
            have HB2 := Lib.hid hB
            simp only [hll]
            have HLL := Lib.hid hll
            have hbl := HBL.out
            clear hO hB hll
            have j0 : (0 : Int) ≤ (j : Int) := by omega
            have j5 : (base.length : Int) + (j : Int) ≤ 4000 := by omega
            obtain ⟨M, hM⟩ : ∃ M, M = base.length + j := ⟨_, rfl⟩
            rw [← hM] at HLL HO2 ⊢
            have HMM := Lib.hid hM
            have m1 : (M : Int) ≤ 4000 := by omega
            have m0 : (0 : Int) ≤ (M : Int) := by omega
            by_cases h1 : j < T
            · have j1 : (j : Int) < (T : Int) := by omega
              by_cases h2 : M < 4000
              · have j2 : (M : Int) < 4000 := by omega
                have HJ := Lib.hid (show j < T ∧ j < 4000 - base.length by omega)
                clear h1 h2 hj1 hj2 hM hbl j5
                go_upto_region 11 with fail
                obtain ⟨g', off', hat, hg, c0, c1, c2, c3, c4, c5, c6, c7⟩ := HIC.out wr HB2.out
                injection hat with hat; injection hat with q1 q2; subst q1 q2
                obtain ⟨sn, kd, o, d, a, b', i, lb⟩ := s
                dsimp only at c0 c1 c2 c3 c4 c5 c6 c7 HSK HO2 HIC HLL HX ⊢
                obtain ⟨wo, hwo⟩ : ∃ W : World, W = wr := ⟨_, rfl⟩
                rw [← hwo] at HO2 HB2 c0 c1 c2 c3 c4 c5 c6 c7 hg ⊢
                clear hwo
                have HAL := Lib.hid (Below.alloc (Below.refl wo.heap.size wo) (Nat.le_refl _) (.cells #[.int .i64 kd, .int .i64 o, .int .i64 d, .int .i64 a, .int .i64 b', .int .i32 i, .int .i64 lb] 34))
                have HRN := Lib.hid (RowAt.new wo (It.cells ⟨kd, o, d, a, b', i, lb⟩) 34)
                have HOA := Lib.hid (own_overI HO2.out (Out.of_below (fun _ => False) HAL.out) (fun _ _ => id))
                have HSW := Lib.hid (show w.heap.size ≤ (wo.alloc (.cells #[.int .i64 kd, .int .i64 o, .int .i64 d, .int .i64 a, .int .i64 b', .int .i32 i, .int .i64 lb] 34)).heap.size from Nat.le_trans HB2.out.size HAL.out.size)
                go_wp2_with (at_builtin; refine app_item _ rfl (.tmp 44) (.tmp 50) rfl w.heap.size (.slice va M vc) _ rfl HOA.out ⟨kd, o, d, a, b', i, lb⟩ wo.heap.size rfl HRN.out (by rw [HLL.out]; omega) HSW.out ?_; intro v' w' h1 h2; have HV := Lib.hid h1; have HQ2 := Lib.hid h2; clear h1 h2)
                exact ⟨⟨j + 1, HJ.out.1, HJ.out.2, rfl, by rw [List.replicate_succ', ← List.append_assoc]; exact HV.out, HQ2.out.below (below_call HB2.out HAL.out) (Nat.le_refl _) (fun j hj => hj)⟩, by have := HJ.out; simp [intOf]; omega⟩
              · have j2 : ¬ (M : Int) < 4000 := by omega
                have HST := Lib.hid (show base ++ List.replicate j s.x = itemsK l (k + 1) by rw [HSK.out]; congr 2; rw [Int.toNat_natCast]; omega)
                rw [HST.out] at HO2
                clear h1 h2 hj1 hj2 hM hbl j5
                go_wp2_with fail
                exact ⟨⟨k + 1, HKL.out, HK24.out, rfl, HO2.out, HB2.out⟩, by have := HK24.out; simp [intOf]; omega⟩
            · have j1 : ¬ (j : Int) < (T : Int) := by omega
              have HST := Lib.hid (show base ++ List.replicate j s.x = itemsK l (k + 1) by rw [HSK.out]; congr 2; rw [Int.toNat_natCast]; omega)
              rw [HST.out] at HO2
              clear h1 hj1 hj2 hM hbl j5
              go_wp2_with fail
              exact ⟨⟨k + 1, HKL.out, HK24.out, rfl, HO2.out, HB2.out⟩, by have := HK24.out; simp [intOf]; omega⟩
      · have k2 : ¬ (k : Int) < 24 := by omega
        have HAL := Lib.hid (show itemsK l k = itemsL l by obtain rfl : k = 24 := by omega
                                                           rfl)
        rw [HAL.out] at HO ⊢
        clear hk hk24 hk2 hkl
        go_wp2_with fail
        go_ret
        exact ⟨_, _, rfl, hsc, own_itA HO.out, HB.out⟩
    · obtain rfl : k = l.length := by omega
      have kx : ¬ ((l.length : Int) < (l.length : Int)) := by omega
      have HAL := Lib.hid (itemsK_all (Nat.le_refl l.length) hk2)
      rw [HAL.out] at HO ⊢
      clear hkl hk
      go_wp2_with fail
      go_ret
      exact ⟨_, _, rfl, hsc, own_itA HO.out, HB.out⟩
end Go.Proofs.Ytldjidhdmbeidaa
