/- The statements of layer 8 (sums of bytes): each law of package pintlelaw08 returns true for all inputs. -/
import Derived.Test.YtnhopdimhppnmaaRows
import Derived.Test.YtnhopdimhppnmaaCrcD
import Derived.ChangeOld
import Derived.Below
import Derived.ProofKit
namespace Go.Proofs.Ytnhopdimhppnmaa
open Go Go.RowKit Go.ChangeShapes Go.WideShapes Go.ChangeAt Pl
set_option linter.unusedVariables false

theorem few_in (a : Option Addr) (c : Nat) (l t : List Nat) (w : World) (hl : SliceIn w a l c) (ht : t = l.take 300) :
    Calls Try.prog 16 #[.slice a l.length c] w fun e w' => ∃ a' c', e = .returned (.slice a' t.length c') ∧ SliceIn w' a' t c' ∧ Below w.heap.size w w' := by
  subst ht
  exact (few_any a c l w hl).mono fun e w' ⟨v, he, ⟨ho, _⟩, hb⟩ => by
    obtain ⟨a', c', rfl, hs⟩ := own_at ho hb.size (by have := List.length_take (i := 300) (l := l); omega)
    exact ⟨a', c', he, hs, hb⟩

theorem bt {w a b : World} (h : Below w.heap.size w a) (k : Below a.heap.size a b) : Below w.heap.size w b := h.trans (k.mono h.size)

set_option maxHeartbeats 400000 in
theorem walk_CrcSums (w : World) (a0 : Option Addr) (c0 : Nat) (l0 : List Nat) (w0 : SliceIn w a0 l0 c0) :
    Calls Try.prog 3 #[.slice a0 l0.length c0] w fun e w' => e = .returned (.bool true) ∧ Below w.heap.size w w' := by
  obtain ⟨t, ht⟩ : ∃ t, t = l0.take 300 := ⟨_, rfl⟩
  have HT := Lib.hid ht
  clear ht
  go_enter Try.func3, Try.ntmps3
  go_wp2_with fail
  refine (few_in a0 c0 l0 t w w0 HT.out).mono ?_
  rintro e w1 ⟨a1, c1, rfl, s1, b1⟩
  go_wp2_with fail
  refine (sum_any a1 c1 _ w1 s1.bytes).mono ?_
  rintro e w2 ⟨rfl, b2⟩
  have s2 := w0.later (bt b1 b2)
  go_wp2_with fail
  refine (few_in a0 c0 l0 t w2 s2 HT.out).mono ?_
  rintro e w3 ⟨a3, c3, rfl, s3, b3⟩
  go_wp2_with fail
  refine (ref08_more 0 a3 c3 _ w3 (by omega) s3.bytes).mono ?_
  rintro e w4 ⟨rfl, rfl⟩
  generalize crcS 0 t = v
  go_wp2_with fail
  refine (law8_lives w3).mono ?_
  rintro e w5 ⟨rfl, b5⟩
  go_wp2_with fail
  go_ret
  exact ⟨rfl, bt (bt (bt b1 b2) b3) b5⟩

set_option maxHeartbeats 400000 in
theorem walk_CrcMore (w : World) (s : Int) (a0 : Option Addr) (c0 : Nat) (l0 : List Nat) (ws : (Lit.int .u32 s).wf = true) (w0 : SliceIn w a0 l0 c0) :
    Calls Try.prog 4 #[.int .u32 s, .slice a0 l0.length c0] w fun e w' => e = .returned (.bool true) ∧ Below w.heap.size w w' := by
  have : 0 ≤ s ∧ s ≤ 4294967295 := by simpa [Lit.wf, IntKind.min, IntKind.max, IntKind.signed, IntKind.bits] using ws
  obtain ⟨n, rfl⟩ : ∃ n : Nat, s = n := ⟨s.toNat, by omega⟩
  have hn : n < 4294967296 := by omega
  clear ws this
  obtain ⟨t, ht⟩ : ∃ t, t = l0.take 300 := ⟨_, rfl⟩
  have HT := Lib.hid ht
  clear ht
  go_enter Try.func4, Try.ntmps4
  go_wp2_with fail
  refine (few_in a0 c0 l0 t w w0 HT.out).mono ?_
  rintro e w1 ⟨a1, c1, rfl, s1, b1⟩
  go_wp2_with fail
  refine (more_any n a1 c1 _ w1 hn s1.bytes).mono ?_
  rintro e w2 ⟨rfl, b2⟩
  have s2 := w0.later (bt b1 b2)
  go_wp2_with fail
  refine (few_in a0 c0 l0 t w2 s2 HT.out).mono ?_
  rintro e w3 ⟨a3, c3, rfl, s3, b3⟩
  go_wp2_with fail
  refine (ref08_more n a3 c3 _ w3 hn s3.bytes).mono ?_
  rintro e w4 ⟨rfl, rfl⟩
  generalize crcS n t = v
  go_wp2_with fail
  refine (law8_lives w3).mono ?_
  rintro e w5 ⟨rfl, b5⟩
  go_wp2_with fail
  go_ret
  exact ⟨rfl, bt (bt (bt b1 b2) b3) b5⟩

/-- bytes at an address, as an append wants them -/
def NewsAt (w : World) (ad : Addr) (t : List Nat) : Prop := ad.block < w.heap.size ∧ ∀ j u, (t.map u8v)[j]? = some u → w.cell? (ad.add j) = some u
theorem addb (ad : Addr) (j : Nat) : (ad.add j).block = ad.block := by unfold Addr.add; split <;> rfl
theorem NewsAt.later {w w' : World} {ad : Addr} {t : List Nat} (h : NewsAt w ad t) (hb : Below w.heap.size w w') : NewsAt w' ad t :=
  ⟨Nat.lt_of_lt_of_le h.1 hb.size, fun j u hj => (hb.cell (p := ad.add j) (show (ad.add j).block < _ from (addb ad j).symm ▸ h.1)).trans (h.2 j u hj)⟩
theorem few_own (a : Option Addr) (c : Nat) (l t : List Nat) (w : World) (hl : SliceIn w a l c) (ht : t = l.take 300) :
    Calls Try.prog 16 #[.slice a l.length c] w fun e w' => ∃ ad c', e = .returned (.slice (some ad) t.length c') ∧ SliceIn w' (some ad) t c' ∧ NewsAt w' ad t ∧ Below w.heap.size w w' := by
  subst ht
  exact (few_any a c l w hl).mono fun e w' ⟨v, he, ⟨ho, hv⟩, hb⟩ => by
    obtain ⟨a', c', rfl, hs⟩ := own_at ho hb.size (by have := List.length_take (i := 300) (l := l); omega)
    have h := ho.1
    have hlt := h.lt
    have h' := h
    obtain ⟨_, ⟨h1, _⟩ | ⟨g, cap, cur, h1, _⟩⟩ := h
    · exact absurd h1 hv
    · obtain ⟨rfl, _, rfl⟩ : a' = some ⟨g, 0, none⟩ ∧ (l.take 300).length = (l.take 300).length ∧ c' = cap := by simpa using h1
      exact ⟨_, c', he, hs, ⟨(hlt g rfl).2, h'.cells (g := g) rfl⟩, hb⟩
theorem own_join {w : World} {b : Nat} {v : Value} {t1 t2 u : List Nat} {n : Nat} (h : w.ownsRow b 5 1 v n ([] ++ t1.map u8v ++ t2.map u8v)) (hn : n = t1.length + t2.length) (hu : u = t1 ++ t2)
    (h1 : ∀ x ∈ t1, x < 256) (h2 : ∀ x ∈ t2, x < 256) : OwnBytes w b v u := by
  subst hu
  subst hn
  refine ⟨by simpa using h, fun x hx => ?_⟩
  rcases List.mem_append.1 hx with g | g
  · exact h1 x g
  · exact h2 x g

set_option maxHeartbeats 400000 in
theorem walk_CrcParts (w : World) (a0 : Option Addr) (c0 : Nat) (l0 : List Nat) (a1 : Option Addr) (c1 : Nat) (l1 : List Nat) (w0 : SliceIn w a0 l0 c0) (w1 : SliceIn w a1 l1 c1) :
    Calls Try.prog 5 #[.slice a0 l0.length c0, .slice a1 l1.length c1] w fun e w' => e = .returned (.bool true) ∧ Below w.heap.size w w' := by
  obtain ⟨i0, hi, hz0, hz1, hz2⟩ := info_parts info_u8
  obtain ⟨t0, ht0⟩ : ∃ t, t = l0.take 300 := ⟨_, rfl⟩
  obtain ⟨t1, ht1⟩ : ∃ t, t = l1.take 300 := ⟨_, rfl⟩
  obtain ⟨u, hu⟩ : ∃ u, u = t0 ++ t1 := ⟨_, rfl⟩
  have m0 : t0.length ≤ 300 := by rw [ht0]; simp; omega
  have m1 : t1.length ≤ 300 := by rw [ht1]; simp; omega
  have L0 := Lib.hid (show (t0.map u8v).length = t0.length * 1 by simp)
  have L1 := Lib.hid (show (t1.map u8v).length = t1.length * 1 by simp)
  have D1 := Lib.hid (show 0 + t0.length ≤ maxLen by simp only [maxLen]; omega)
  have D2 := Lib.hid (show (0 + t0.length) * 1 ≤ 140737488355328 by omega)
  have D3 := Lib.hid (show 0 + t0.length + t1.length ≤ maxLen by simp only [maxLen]; omega)
  have D4 := Lib.hid (show (0 + t0.length + t1.length) * 1 ≤ 140737488355328 by omega)
  have LU := Lib.hid (show u.length ≤ 9223372036854775807 by rw [hu, List.length_append]; omega)
  have HU := Lib.hid hu
  have H0 := Lib.hid ht0
  have H1 := Lib.hid ht1
  have X0 := Lib.hid (show ∀ x ∈ t0, x < 256 from fun x hx => w0.1 x (List.mem_of_mem_take (ht0 ▸ hx)))
  have X1 := Lib.hid (show ∀ x ∈ t1, x < 256 from fun x hx => w1.1 x (List.mem_of_mem_take (ht1 ▸ hx)))
  have EQ := Lib.hid (show crcS (crcS 0 t0) t1 = crcS 0 u by rw [hu]; exact crc_parts (by omega) t0 t1 X0.out)
  clear hu ht0 ht1 m0 m1
  go_enter Try.func5, Try.ntmps5
  go_wp2_with fail
  refine (few_own a0 c0 l0 t0 w w0 H0.out).mono ?_
  rintro e w2 ⟨a2, c2, rfl, s2, n2, b2⟩
  have s1 := w1.later b2
  go_wp2_with fail
  refine (few_own a1 c1 l1 t1 w2 s1 H1.out).mono ?_
  rintro e w3 ⟨a3, c3, rfl, s3, n3, b3⟩
  have n23 := n2.later b3
  have s23 := s2.later b3
  clear n2 s2
  go_wp2_with fail
  refine (sum_any (some a2) c2 t0 w3 s23.bytes).mono ?_
  rintro e w4 ⟨rfl, b4⟩
  have n24 := n23.later b4
  have n34 := n3.later b4
  have s34 := s3.later b4
  clear n23 n3 s3
  go_wp2_with fail
  refine (more_any (crcS 0 t0) (some a3) c3 t1 w4 crcS_lt s34.bytes).mono ?_
  rintro e w5 ⟨rfl, b5⟩
  have n25 := n24.later b5
  have n35 := n34.later b5
  have B5 := Lib.hid (bt (bt (bt b2 b3) b4) b5)
  clear n24 n34 b2 b3 b4 b5
  rw [EQ.out]
  have OWN := Lib.hid (own_empty w5 w5.heap.size (Nat.le_refl _))
  have BA := Lib.hid (show Below w5.heap.size w5 (w5.alloc (.cells #[] 5)) from (Below.refl _ _).alloc (Nat.le_refl _) _)
  have n26 := n25.later BA.out
  go_wp2_with (at_builtin; first | (refine wpList_append_own (w5.alloc (.cells #[] 5)) rfl _ _ 22 rfl w5.heap.size 5 i0 (.int .u8 0) 1 1 Try.underlying22 hi hz0 hz1 hz2 rfl Nat.one_pos (.slice (some ⟨w5.heap.size, 0, none⟩) 0 0) 0 [] rfl OWN.out a2 t0.length c2 (t0.map u8v) rfl L0.out n26.2 (one_cell _) D1.out D2.out BA.out.size ?_; intro v6 w6 hown6 hg6 _; have b6 := grown_below hg6; have n36 := n35.later b6; have hb6 := b6.size) | (refine wpList_append_own w6 rfl _ _ 22 rfl w5.heap.size 5 i0 (.int .u8 0) 1 1 Try.underlying22 hi hz0 hz1 hz2 rfl Nat.one_pos v6 (0 + t0.length) ([] ++ t0.map u8v) rfl hown6 a3 t1.length c3 (t1.map u8v) rfl L1.out n36.2 (one_cell _) D3.out D4.out hb6 ?_; intro v7 w7 hown7 hg7 _))
  have o7 := own_join hown7 (by omega) HU.out X0.out X1.out
  have b7 : Below w5.heap.size w5 w7 := below_grown b6 hg7 (fun k hk => (hown6.lt k hk).1)
  obtain ⟨a7, c7, rfl, s7⟩ := own_at o7 b7.size LU.out
  refine (sum_any a7 c7 u w7 s7.bytes).mono ?_
  rintro e w8 ⟨rfl, b8⟩
  generalize crcS 0 u = q
  go_wp2_with fail
  refine (law8_lives w8).mono ?_
  rintro e w9 ⟨rfl, b9⟩
  go_wp2_with fail
  go_ret
  exact ⟨rfl, bt (bt (bt B5.out b7) b8) b9⟩

theorem own : ownKnob Try.prog.godebug = none := by kernel_rfl
theorem laidOut : laidOutB Try.prog = true := by kernel_rfl
set_option maxRecDepth 100000 in
theorem lifted_CrcSums (os : Os) (started : os.Started) (H : Type) (enc : TypeId × Value → H) :
    ReturnsInHanded {} Try.checked os 3 .any (Rows.crcSumsSpec.pre6 enc Try.prog Try.f3 Rows.crcSumsRow.domain false) (Rows.crcSumsSpec.post enc Try.prog Try.f3 false true false false) := by
  refine returnsInHanded_of_change (C := Try.checked) own started (by kernel_rfl) Try.func3
    (ChangeSpec.witness6 (enc := enc) (C := Try.checked) false ⟨#[], #[.slice none 0 0], []⟩ 8 (by kernel_rfl) (by kernel_rfl) (by kernel_rfl) (by kernel_rfl)) ?_
  intro W base args ds gs before hval0 hW hcnd _
  have hval : ∀ (j : Nat) t v, Try.f3.params[j]? = some t → args[j]? = some v → Value.okWide Try.prog W .any base t v := hval0
  have hW' := hW
  obtain ⟨p, q, hA0, hV, rfl, hfz, hnd⟩ := hW
  have hA : DataW.TrodAll enc Try.prog W 0 (fun _ => true) true Try.f3.params.toList args.toList ds p := hA0
  rw [Try.params3] at hA hval
  obtain ⟨v0, vs0, d0, ds0, p0, q0, hargs, rfl, rfl, h0, r0⟩ := trodAll_cons hA
  obtain ⟨rfl, rfl, rfl⟩ := trodAll_nil r0
  obtain rfl : args = #[v0] := by cases args; simp_all
  obtain ⟨rfl, rfl⟩ := trodVars_none hV
  have k0 := h0
  have lt0 : ∀ x ∈ p0, x.block < W.heap.size := by obtain ⟨m, hm⟩ := k0; exact DataW.trod_lt m _ _ _ hm
  obtain ⟨a0, c0, l0, rfl, w0⟩ := bytes_in Try.underlying22 Try.underlying5 (by kernel_rfl) (hval 0 22 v0 rfl rfl) h0
  clear hA0 hval0
  refine (walk_CrcSums W a0 c0 l0 w0).mono fun e W' ⟨he, bel⟩ => ?_
  subst he
  exact ⟨_, rfl, _, _, _, [], _, [], hW', trodAll_mk1 (shut_bool Try.underlying4 _), (trodAll_cons_mk (Below.trod laidOut (by kernel_rfl) (of_decide_eq_true (by kernel_rfl)) k0 bel lt0) trodAll_mk0), rfl, bel.frame _, fun h => by cases h⟩

theorem holds_CrcSums : Rows.CrcSumsSaid :=
  OpenClaim.holds_of_wide 3 Try.f3 rfl rfl rfl rfl rfl rfl rfl ⟨rfl, rfl, rfl, rfl, rfl⟩ rfl rfl rfl rfl rfl (by kernel_rfl) Try.func3 (by kernel_rfl)
    (of_decide_eq_true (by kernel_rfl)) (by unfold Func.isWrapper; first | (rw [if_pos (by decide +kernel)]; kernel_rfl) | (rw [if_neg (by decide +kernel)]; exact ⟨rfl, rfl⟩))
    (fun os started H enc _ => lifted_CrcSums os started H enc)

set_option maxRecDepth 100000 in
theorem lifted_CrcMore (os : Os) (started : os.Started) (H : Type) (enc : TypeId × Value → H) :
    ReturnsInHanded {} Try.checked os 4 .any (Rows.crcMoreSpec.pre6 enc Try.prog Try.f4 Rows.crcMoreRow.domain false) (Rows.crcMoreSpec.post enc Try.prog Try.f4 false true false false) := by
  refine returnsInHanded_of_change (C := Try.checked) own started (by kernel_rfl) Try.func4
    (ChangeSpec.witness6 (enc := enc) (C := Try.checked) false ⟨#[], #[.int .u32 0, .slice none 0 0], []⟩ 8 (by kernel_rfl) (by kernel_rfl) (by kernel_rfl) (by kernel_rfl)) ?_
  intro W base args ds gs before hval0 hW hcnd _
  have hval : ∀ (j : Nat) t v, Try.f4.params[j]? = some t → args[j]? = some v → Value.okWide Try.prog W .any base t v := hval0
  have hW' := hW
  obtain ⟨p, q, hA0, hV, rfl, hfz, hnd⟩ := hW
  have hA : DataW.TrodAll enc Try.prog W 0 (fun _ => true) true Try.f4.params.toList args.toList ds p := hA0
  rw [Try.params4] at hA hval
  obtain ⟨v0, vs0, d0, ds0, p0, q0, hargs, rfl, rfl, h0, r0⟩ := trodAll_cons hA
  obtain ⟨v1, vs1, d1, ds1, p1, q1, rfl, rfl, rfl, h1, r1⟩ := trodAll_cons r0
  obtain ⟨rfl, rfl, rfl⟩ := trodAll_nil r1
  obtain rfl : args = #[v0, v1] := by cases args; simp_all
  obtain ⟨rfl, rfl⟩ := trodVars_none hV
  obtain ⟨a0, rfl, rfl, rfl, w0⟩ := open_int Try.underlying23 (hval 0 23 v0 rfl rfl) h0
  have k1 := h1
  have lt1 : ∀ x ∈ p1, x.block < W.heap.size := by obtain ⟨m, hm⟩ := k1; exact DataW.trod_lt m _ _ _ hm
  obtain ⟨a1, c1, l1, rfl, w1⟩ := bytes_in Try.underlying22 Try.underlying5 (by kernel_rfl) (hval 1 22 v1 rfl rfl) h1
  clear hA0 hval0
  refine (walk_CrcMore W a0 a1 c1 l1 w0 w1).mono fun e W' ⟨he, bel⟩ => ?_
  subst he
  exact ⟨_, rfl, _, _, _, [], _, [], hW', trodAll_mk1 (shut_bool Try.underlying4 _), (trodAll_cons_mk (shut_int Try.underlying23 w0) (trodAll_cons_mk (Below.trod laidOut (by kernel_rfl) (of_decide_eq_true (by kernel_rfl)) k1 bel lt1) trodAll_mk0)), rfl, bel.frame _, fun h => by cases h⟩

theorem holds_CrcMore : Rows.CrcMoreSaid :=
  OpenClaim.holds_of_wide 4 Try.f4 rfl rfl rfl rfl rfl rfl rfl ⟨rfl, rfl, rfl, rfl, rfl⟩ rfl rfl rfl rfl rfl (by kernel_rfl) Try.func4 (by kernel_rfl)
    (of_decide_eq_true (by kernel_rfl)) (by unfold Func.isWrapper; first | (rw [if_pos (by decide +kernel)]; kernel_rfl) | (rw [if_neg (by decide +kernel)]; exact ⟨rfl, rfl⟩))
    (fun os started H enc _ => lifted_CrcMore os started H enc)

set_option maxRecDepth 100000 in
theorem lifted_CrcParts (os : Os) (started : os.Started) (H : Type) (enc : TypeId × Value → H) :
    ReturnsInHanded {} Try.checked os 5 .any (Rows.crcPartsSpec.pre6 enc Try.prog Try.f5 Rows.crcPartsRow.domain false) (Rows.crcPartsSpec.post enc Try.prog Try.f5 false true false false) := by
  refine returnsInHanded_of_change (C := Try.checked) own started (by kernel_rfl) Try.func5
    (ChangeSpec.witness6 (enc := enc) (C := Try.checked) false ⟨#[], #[.slice none 0 0, .slice none 0 0], []⟩ 8 (by kernel_rfl) (by kernel_rfl) (by kernel_rfl) (by kernel_rfl)) ?_
  intro W base args ds gs before hval0 hW hcnd _
  have hval : ∀ (j : Nat) t v, Try.f5.params[j]? = some t → args[j]? = some v → Value.okWide Try.prog W .any base t v := hval0
  have hW' := hW
  obtain ⟨p, q, hA0, hV, rfl, hfz, hnd⟩ := hW
  have hA : DataW.TrodAll enc Try.prog W 0 (fun _ => true) true Try.f5.params.toList args.toList ds p := hA0
  rw [Try.params5] at hA hval
  obtain ⟨v0, vs0, d0, ds0, p0, q0, hargs, rfl, rfl, h0, r0⟩ := trodAll_cons hA
  obtain ⟨v1, vs1, d1, ds1, p1, q1, rfl, rfl, rfl, h1, r1⟩ := trodAll_cons r0
  obtain ⟨rfl, rfl, rfl⟩ := trodAll_nil r1
  obtain rfl : args = #[v0, v1] := by cases args; simp_all
  obtain ⟨rfl, rfl⟩ := trodVars_none hV
  have k0 := h0
  have lt0 : ∀ x ∈ p0, x.block < W.heap.size := by obtain ⟨m, hm⟩ := k0; exact DataW.trod_lt m _ _ _ hm
  obtain ⟨a0, c0, l0, rfl, w0⟩ := bytes_in Try.underlying22 Try.underlying5 (by kernel_rfl) (hval 0 22 v0 rfl rfl) h0
  have k1 := h1
  have lt1 : ∀ x ∈ p1, x.block < W.heap.size := by obtain ⟨m, hm⟩ := k1; exact DataW.trod_lt m _ _ _ hm
  obtain ⟨a1, c1, l1, rfl, w1⟩ := bytes_in Try.underlying22 Try.underlying5 (by kernel_rfl) (hval 1 22 v1 rfl rfl) h1
  clear hA0 hval0
  refine (walk_CrcParts W a0 c0 l0 a1 c1 l1 w0 w1).mono fun e W' ⟨he, bel⟩ => ?_
  subst he
  exact ⟨_, rfl, _, _, _, [], _, [], hW', trodAll_mk1 (shut_bool Try.underlying4 _), (trodAll_cons_mk (Below.trod laidOut (by kernel_rfl) (of_decide_eq_true (by kernel_rfl)) k0 bel lt0) (trodAll_cons_mk (Below.trod laidOut (by kernel_rfl) (of_decide_eq_true (by kernel_rfl)) k1 bel lt1) trodAll_mk0)), rfl, bel.frame _, fun h => by cases h⟩

theorem holds_CrcParts : Rows.CrcPartsSaid :=
  OpenClaim.holds_of_wide 5 Try.f5 rfl rfl rfl rfl rfl rfl rfl ⟨rfl, rfl, rfl, rfl, rfl⟩ rfl rfl rfl rfl rfl (by kernel_rfl) Try.func5 (by kernel_rfl)
    (of_decide_eq_true (by kernel_rfl)) (by unfold Func.isWrapper; first | (rw [if_pos (by decide +kernel)]; kernel_rfl) | (rw [if_neg (by decide +kernel)]; exact ⟨rfl, rfl⟩))
    (fun os started H enc _ => lifted_CrcParts os started H enc)

end Go.Proofs.Ytnhopdimhppnmaa
