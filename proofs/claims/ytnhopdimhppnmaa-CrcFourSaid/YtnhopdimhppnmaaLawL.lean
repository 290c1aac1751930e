/- P8.3: CrcFour returns true for all inputs. -/
import Derived.Test.YtnhopdimhppnmaaLawK
import Derived.Test.YtnhopdimhppnmaaPlainM
import Derived.Test.YtnhopdimhppnmaaOpen
import Derived.Laws.StructEq
import Derived.BigRegion
namespace Go.Proofs.Ytnhopdimhppnmaa
open Go Go.RowKit Go.ChangeShapes Go.WideShapes Go.ChangeAt Pl
set_option linter.unusedVariables false
-- theorem own , theorem laidOut : they stand in LawK

theorem part8 {P : Program} {e : TypeId} (he : P.underlying e = some (.int .u8)) (xs : Array Value) (k : Nat) (v : Value) (h : xs[k]? = some v) (w : World) : (Go.part e xs k).run P w = .ok v w := by
  simp [Go.part, Go.isAgg, run_underlying he, h]
theorem eqB4 {P : Program} {t e : TypeId} {i : TypeInfo} (hu : P.underlying t = some (.array 4 e)) (he : P.underlying e = some (.int .u8)) (hi : P.info? e = some i) (hC : P.cellsOf e = 1) (x y z v a b c d : Int) (w : World) :
    (Op.equalIn 10000 t (.agg #[.int .u8 x, .int .u8 y, .int .u8 z, .int .u8 v]) (.agg #[.int .u8 a, .int .u8 b, .int .u8 c, .int .u8 d])).run P w = .ok (x == a && (y == b && (z == c && v == d))) w := by
  rw [run_equalIn_array w 9999 _ _ hu hi, hC, show List.range 4 = [0, 1, 2, 3] from rfl]
  have pe : ∀ u v : Int, (Op.equalIn 9999 e (.int .u8 u) (.int .u8 v)).run P w = .ok (u == v) w := fun u v => run_equalIn_int w 9998 e .u8 .u8 u v he
  have p0 := fun (x y z v : Int) => part8 he #[.int .u8 x, .int .u8 y, .int .u8 z, .int .u8 v] (0 * 1) (.int .u8 x) rfl w
  have p1 := fun (x y z v : Int) => part8 he #[.int .u8 x, .int .u8 y, .int .u8 z, .int .u8 v] (1 * 1) (.int .u8 y) rfl w
  have p2 := fun (x y z v : Int) => part8 he #[.int .u8 x, .int .u8 y, .int .u8 z, .int .u8 v] (2 * 1) (.int .u8 z) rfl w
  have p3 := fun (x y z v : Int) => part8 he #[.int .u8 x, .int .u8 y, .int .u8 z, .int .u8 v] (3 * 1) (.int .u8 v) rfl w
  simp only [Op.eqItems, Sem.run_bind, p0, p1, p2, p3, pe, Result.andThen_ok, Sem.run_ite, Sem.run_pure]
  cases h1 : (x == a) <;> cases h2 : (y == b) <;> cases h3 : (z == c) <;> cases h4 : (v == d) <;> simp

set_option maxRecDepth 100000 in
set_option maxHeartbeats 1000000 in
theorem walk_CrcFour (w : World) (a0 : Option Addr) (c0 : Nat) (l0 : List Nat) (k : Int) (b0 b1 b2 b3 : Int) (w0 : SliceIn w a0 l0 c0) (wk : (Lit.int .i64 k).wf = true)
    (v0 : (Lit.int .u8 b0).wf = true) (v1 : (Lit.int .u8 b1).wf = true) (v2 : (Lit.int .u8 b2).wf = true) (v3 : (Lit.int .u8 b3).wf = true) :
    Calls Try.prog 6 #[.slice a0 l0.length c0, .int .i64 k, .agg #[.int .u8 b0, .int .u8 b1, .int .u8 b2, .int .u8 b3]] w fun e w' => e = .returned (.bool true) ∧ Below w.heap.size w w' := by
  obtain ⟨i0, hi, hz0, hz1, hz2⟩ := info_parts info_u8
  obtain ⟨t, ht⟩ : ∃ t, t = l0.take 300 := ⟨_, rfl⟩
  have m0 : t.length ≤ 300 := by rw [ht]; simp; omega
  have HT := Lib.hid ht
  have X0 := Lib.hid (show ∀ x ∈ t, x < 256 from fun x hx => w0.1 x (List.mem_of_mem_take (ht ▸ hx)))
  clear ht
  go_enter Try.func6, Try.ntmps6
  go_wp2_with fail
  obtain ⟨wA, hA⟩ : ∃ wA, wA = w.alloc (.cells #[.int .u8 b0, .int .u8 b1, .int .u8 b2, .int .u8 b3] 31) := ⟨_, rfl⟩
  have bA : Below w.heap.size w wA := by rw [hA]; exact (Below.refl _ _).alloc (Nat.le_refl _) _
  have zA : w.heap.size < wA.heap.size := by rw [hA]; simp
  have d0 : wA.cell? ⟨w.heap.size, 0, none⟩ = some (.int .u8 b0) := by rw [hA, World.cell?_alloc_new]; rfl
  have d1 : wA.cell? ⟨w.heap.size, 1, none⟩ = some (.int .u8 b1) := by rw [hA, World.cell?_alloc_new]; rfl
  have d2 : wA.cell? ⟨w.heap.size, 2, none⟩ = some (.int .u8 b2) := by rw [hA, World.cell?_alloc_new]; rfl
  have d3 : wA.cell? ⟨w.heap.size, 3, none⟩ = some (.int .u8 b3) := by rw [hA, World.cell?_alloc_new]; rfl
  rw [← hA]
  have sA := w0.later bA
  clear hA w0
  have q0 : 0 ≤ b0 ∧ b0 ≤ 255 := by simpa [Lit.wf, IntKind.min, IntKind.max, IntKind.signed, IntKind.bits] using v0
  have q1 : 0 ≤ b1 ∧ b1 ≤ 255 := by simpa [Lit.wf, IntKind.min, IntKind.max, IntKind.signed, IntKind.bits] using v1
  have q2 : 0 ≤ b2 ∧ b2 ≤ 255 := by simpa [Lit.wf, IntKind.min, IntKind.max, IntKind.signed, IntKind.bits] using v2
  have q3 : 0 ≤ b3 ∧ b3 ≤ 255 := by simpa [Lit.wf, IntKind.min, IntKind.max, IntKind.signed, IntKind.bits] using v3
  clear v0 v1 v2 v3
  refine (few_own a0 c0 l0 t wA sA HT.out).mono ?_
  rintro e w2 ⟨a2, c2, rfl, s2, n2, b2⟩
  replace d0 := (b2.cell (show w.heap.size < _ from zA)).trans d0
  replace d1 := (b2.cell (show w.heap.size < _ from zA)).trans d1
  replace d2 := (b2.cell (show w.heap.size < _ from zA)).trans d2
  replace d3 := (b2.cell (show w.heap.size < _ from zA)).trans d3
  have z2 : w.heap.size < w2.heap.size := Nat.lt_of_lt_of_le zA b2.size
  have B2 := Lib.hid (bt bA b2)
  clear bA b2 sA zA
  have E4 := fun w => eqB4 (P := Try.prog) Try.underlying31 Try.underlying5 hi (by kernel_rfl) b0 b1 b2 b3 0 0 0 0 w
  by_cases h0 : t.length = 0
  · have h0b : (((t.length : Nat) : Int) == 0) = true := by simp [h0]
    go_wp2_with (go_at_call 18; refine (law8_lives _).mono ?_; rintro e w8 ⟨rfl, b8⟩)
    go_ret
    exact ⟨rfl, bt B2.out b8⟩
  have h0b : (((t.length : Nat) : Int) == 0) = false := by rw [beq_eq_false_iff_ne]; omega
  have OWN := Lib.hid (own_empty w2 w2.heap.size (Nat.le_refl _))
  have BA := Lib.hid (show Below w2.heap.size w2 (w2.alloc (.cells #[] 5)) from (Below.refl _ _).alloc (Nat.le_refl _) _)
  have N2 := Lib.hid (n2.later BA.out)
  have L0 := Lib.hid (show (t.map u8v).length = t.length * 1 by simp)
  have D1 := Lib.hid (show 0 + t.length ≤ maxLen by simp only [maxLen]; omega)
  have D2 := Lib.hid (show (0 + t.length) * 1 ≤ 140737488355328 by omega)
  have tm1 := Int.tmod_lt_of_pos k (show (0 : Int) < (t.length : Int) by omega)
  have tm2 := Int.lt_tmod_of_pos k (show (0 : Int) < (t.length : Int) by omega)
  obtain ⟨kk, hkk, hr⟩ : ∃ kk : Nat, kk < t.length ∧ (k.tmod t.length = kk ∨ (k.tmod t.length = (kk : Int) - t.length)) := by
    by_cases g : 0 ≤ k.tmod t.length
    · exact ⟨(k.tmod t.length).toNat, by omega, Or.inl (by omega)⟩
    · exact ⟨(k.tmod t.length + t.length).toNat, by omega, Or.inr (by omega)⟩
  clear tm1 tm2
  have ew : wrap64 ((kk : Int) - t.length + t.length) = kk := by unfold wrap64; omega
  obtain ⟨n0, rfl⟩ : ∃ n : Nat, b0 = n := ⟨b0.toNat, by omega⟩
  obtain ⟨n1, rfl⟩ : ∃ n : Nat, b1 = n := ⟨b1.toNat, by omega⟩
  obtain ⟨n2', rfl⟩ : ∃ n : Nat, b2 = n := ⟨b2.toNat, by omega⟩
  obtain ⟨n3, rfl⟩ : ∃ n : Nat, b3 = n := ⟨b3.toNat, by omega⟩
  have DB := Lib.hid (show ∀ j, j < 4 → w2.cell? ⟨w.heap.size, j, none⟩ = some (.int .u8 (([n0, n1, n2', n3] : List Nat).getD j 0 : Nat)) from fun j hj => by
    obtain rfl | rfl | rfl | rfl : j = 0 ∨ j = 1 ∨ j = 2 ∨ j = 3 := by omega
    · exact d0
    · exact d1
    · exact d2
    · exact d3)
  have BS := Lib.hid (show ∀ j, ([n0, n1, n2', n3] : List Nat).getD j 0 < 256 from fun j => by
    match j with
    | 0 => show n0 < 256; omega
    | 1 => show n1 < 256; omega
    | 2 => show n2' < 256; omega
    | 3 => show n3 < 256; omega
    | j + 4 => simp)
  rcases hr with hr | hr
  · go_wp2_with (first | (go_at_call 18; refine (law8_lives _).mono ?_; rintro e w8 ⟨rfl, b8⟩) | (at_builtin; refine wpList_append_own (w2.alloc (.cells #[] 5)) rfl _ _ 22 rfl w2.heap.size 5 i0 (.int .u8 0) 1 1 Try.underlying22 hi hz0 hz1 hz2 rfl Nat.one_pos (.slice (some ⟨w2.heap.size, 0, none⟩) 0 0) 0 [] rfl OWN.out a2 t.length c2 (t.map u8v) rfl L0.out N2.out.2 (one_cell _) D1.out D2.out BA.out.size ?_; intro v3 w3 hown3 hg3 _))
    · go_ret
      exact ⟨rfl, bt B2.out b8⟩
    · have b3 := grown_below hg3
      rw [Nat.zero_add, List.nil_append] at hown3
      obtain ⟨g, cap, rfl⟩ : ∃ g cap, v3 = .slice (some ⟨g, 0, none⟩) t.length cap := by
        obtain ⟨_, ⟨_, h2⟩ | ⟨g, cap, cur, h2, _⟩⟩ := hown3
        · exact absurd h2 h0
        · exact ⟨g, cap, h2⟩
      generalize ([n0, n1, n2', n3] : List Nat) = bs at *
      rw [show t.map u8v = (chg t kk bs 0).map u8v by rw [chg_zero]] at hown3
      go_loopw [8, 9] (fun o i wr => ∃ j : Nat, j ≤ 4 ∧ i = .int .i64 j ∧ o = .bool ((!decide (chg t kk bs j = t))) ∧ wr.ownsRow w2.heap.size 5 1 (.slice (some ⟨g, 0, none⟩) t.length cap) t.length ((chg t kk bs j).map u8v) ∧ Below w2.heap.size w2 wr) (fun _ i _ => 4 - (intOf i).toNat)
      case atStart => exact ⟨0, by omega, rfl, by simp [chg_zero], hown3, b3⟩
      case round =>
        obtain ⟨j, hj, rfl, rfl, own, bw⟩ := hrel
        have hg := own.lt g rfl
        by_cases h4 : j < 4
        · by_cases hn : kk + j < t.length
          · have dj := (bw.cell (show w.heap.size < _ from z2)).trans (DB.out j h4)
            have dj0 := DB.out j h4
            have cj := own.cellAt (kk + j) (by omega)
            rw [List.getElem?_map, chg_at hn, if_neg (by omega), Option.map_some] at cj
            have fz := own.frozenAt (kk + j)
            have ST := Lib.hid (own.stored (kk + j))
            have bj := BS.out j
            have tj : t.getD (kk + j) 0 < 256 := by
              apply X0.out
              simp only [List.getD, List.getElem?_eq_getElem hn, Option.getD_some]
              exact List.getElem_mem _
            have CS := Lib.hid (chg_same (bs := bs) hn X0.out bj)
            have CN := Lib.hid (chg_next (bs := bs) hn)
            generalize bs.getD j 0 = y at *
            generalize t.getD (kk + j) 0 = x at *
            unfold u8v at cj
            go_wp2_with fail
            go_region
            rw [show Value.int .u8 (((x : Int) + (y : Int)) % 256) = u8v ((x + y) % 256) by unfold u8v; congr 1]
            obtain ⟨o5, g5⟩ := ST.out (u8v ((x + y) % 256))
            rw [← List.map_set, CN.out] at o5
            have b5 := (bw.grown g5 bw.size (fun k hk => by cases hk; exact hg.1)).drew
            replace o5 := o5.drew
            generalize (wr.setCell ⟨g, kk + j, none⟩ (u8v ((x + y) % 256))).drew = w5 at *
            have dj5 := (b5.cell (show w.heap.size < _ from z2)).trans dj0
            have z5 : w.heap.size < w5.heap.size := Nat.lt_of_lt_of_le z2 b5.size
            clear dj cj fz own bw dj0
            by_cases hc : chg t kk bs j = t
            · have ho : (!decide (chg t kk bs j = t)) = false := by simp [hc]
              by_cases hy : y = 0
              · have hc5 : (!decide (chg t kk bs (j + 1) = t)) = false := by simp [CS.out.2 ⟨hc, hy⟩]
                have hy2 : ((y : Int) == 0) = true := by simp [hy]
                have hy3 : ((y : Int) != 0) = false := by simp [hy]
                rw [ho]
                have HC5 := Lib.hid hc5
                clear hc hc5 hy
                go_wp2
                go_roundw
                case measure => simp [intOf]; omega
                case rel => exact ⟨j + 1, by omega, by go_num, by rw [HC5.out], o5, b5⟩
              · have hc5 : (!decide (chg t kk bs (j + 1) = t)) = true := by simp only [Bool.not_eq_true', decide_eq_false_iff_not]; intro h; exact hy (CS.out.1 h).2
                have hy2 : ((y : Int) == 0) = false := by rw [beq_eq_false_iff_ne]; omega
                have hy3 : ((y : Int) != 0) = true := by rw [bne, hy2]; rfl
                rw [ho]
                have HC5 := Lib.hid hc5
                clear hc hc5 hy
                go_wp2
                go_roundw
                case measure => simp [intOf]; omega
                case rel => exact ⟨j + 1, by omega, by go_num, by rw [HC5.out], o5, b5⟩
            · have ho : (!decide (chg t kk bs j = t)) = true := by simp [hc]
              have hc5 : (!decide (chg t kk bs (j + 1) = t)) = true := by simp only [Bool.not_eq_true', decide_eq_false_iff_not]; intro h; exact hc (CS.out.1 h).1
              rw [ho]
              have HC5 := Lib.hid hc5
              clear hc hc5
              go_wp2
              go_roundw
              case measure => simp [intOf]; omega
              case rel => exact ⟨j + 1, by omega, by go_num, by rw [HC5.out], o5, b5⟩
          · skip
            have sB := s2.later bw
            have oc : OwnBytes wr w2.heap.size (.slice (some ⟨g, 0, none⟩) t.length cap) (chg t kk bs j) := ⟨by rw [chg_length]; exact own, chg_256 X0.out⟩
            obtain ⟨a7, c7, e7, s7⟩ := own_at oc bw.size (by rw [chg_length]; omega)
            obtain ⟨rfl, rfl⟩ : a7 = some ⟨g, 0, none⟩ ∧ c7 = cap := by
              simp only [Value.slice.injEq] at e7
              exact ⟨e7.1.symm, e7.2.2.symm⟩
            have EQ := Lib.hid (chg_sum (k := kk) (bs := bs) (i := j) X0.out hj)
            have CL := Lib.hid (chg_length t kk bs j)
            have SC := Lib.hid (fun w6 b6 => CL.out ▸ sum_any (some ⟨g, 0, none⟩) c7 (chg t kk bs j) w6 (s7.later b6).bytes)
            clear e7 oc
            go_wp2_with fail
            refine (sum_any (some a2) c2 t wr sB.bytes).mono ?_
            rintro e w6 ⟨rfl, b6⟩
            go_wp2_with fail
            refine (SC.out w6 b6).mono ?_
            rintro e w7 ⟨rfl, b7⟩
            have hb := bt (bt (bt B2.out bw) b6) b7
            by_cases hc : chg t kk bs j = t
            · have e0 : crcS 0 (chg t kk bs j) = crcS 0 t := (EQ.out.2 hc).symm
              have ho : (!decide (chg t kk bs j = t)) = false := by simp [hc]
              rw [ho, e0]
              generalize crcS 0 t = u
              have hu : ((u : Int) != (u : Int)) = false := by simp
              have hu2 : ((u : Int) == (u : Int)) = true := by simp
              go_wp2_with (go_at_call 18; refine (law8_lives _).mono ?_; rintro e w8 ⟨rfl, b8⟩)
              go_ret
              exact ⟨rfl, bt hb b8⟩
            · have e0 : ¬ crcS 0 t = crcS 0 (chg t kk bs j) := fun h => hc (EQ.out.1 h)
              have ho : (!decide (chg t kk bs j = t)) = true := by simp [hc]
              rw [ho]
              generalize crcS 0 t = u at *
              generalize crcS 0 (chg t kk bs j) = v at *
              have hu2 : ((u : Int) == (v : Int)) = false := by rw [beq_eq_false_iff_ne]; omega
              have hu : ((u : Int) != (v : Int)) = true := by rw [bne, hu2]; rfl
              go_wp2_with (go_at_call 18; refine (law8_lives _).mono ?_; rintro e w8 ⟨rfl, b8⟩)
              go_ret
              exact ⟨rfl, bt hb b8⟩
        · skip
          have sB := s2.later bw
          have oc : OwnBytes wr w2.heap.size (.slice (some ⟨g, 0, none⟩) t.length cap) (chg t kk bs j) := ⟨by rw [chg_length]; exact own, chg_256 X0.out⟩
          obtain ⟨a7, c7, e7, s7⟩ := own_at oc bw.size (by rw [chg_length]; omega)
          obtain ⟨rfl, rfl⟩ : a7 = some ⟨g, 0, none⟩ ∧ c7 = cap := by
            simp only [Value.slice.injEq] at e7
            exact ⟨e7.1.symm, e7.2.2.symm⟩
          have EQ := Lib.hid (chg_sum (k := kk) (bs := bs) (i := j) X0.out hj)
          have CL := Lib.hid (chg_length t kk bs j)
          have SC := Lib.hid (fun w6 b6 => CL.out ▸ sum_any (some ⟨g, 0, none⟩) c7 (chg t kk bs j) w6 (s7.later b6).bytes)
          clear e7 oc
          go_wp2_with fail
          refine (sum_any (some a2) c2 t wr sB.bytes).mono ?_
          rintro e w6 ⟨rfl, b6⟩
          go_wp2_with fail
          refine (SC.out w6 b6).mono ?_
          rintro e w7 ⟨rfl, b7⟩
          have hb := bt (bt (bt B2.out bw) b6) b7
          by_cases hc : chg t kk bs j = t
          · have e0 : crcS 0 (chg t kk bs j) = crcS 0 t := (EQ.out.2 hc).symm
            have ho : (!decide (chg t kk bs j = t)) = false := by simp [hc]
            rw [ho, e0]
            generalize crcS 0 t = u
            have hu : ((u : Int) != (u : Int)) = false := by simp
            have hu2 : ((u : Int) == (u : Int)) = true := by simp
            go_wp2_with (go_at_call 18; refine (law8_lives _).mono ?_; rintro e w8 ⟨rfl, b8⟩)
            go_ret
            exact ⟨rfl, bt hb b8⟩
          · have e0 : ¬ crcS 0 t = crcS 0 (chg t kk bs j) := fun h => hc (EQ.out.1 h)
            have ho : (!decide (chg t kk bs j = t)) = true := by simp [hc]
            rw [ho]
            generalize crcS 0 t = u at *
            generalize crcS 0 (chg t kk bs j) = v at *
            have hu2 : ((u : Int) == (v : Int)) = false := by rw [beq_eq_false_iff_ne]; omega
            have hu : ((u : Int) != (v : Int)) = true := by rw [bne, hu2]; rfl
            go_wp2_with (go_at_call 18; refine (law8_lives _).mono ?_; rintro e w8 ⟨rfl, b8⟩)
            go_ret
            exact ⟨rfl, bt hb b8⟩
  · go_wp2_with (first | (go_at_call 18; refine (law8_lives _).mono ?_; rintro e w8 ⟨rfl, b8⟩) | (at_builtin; refine wpList_append_own (w2.alloc (.cells #[] 5)) rfl _ _ 22 rfl w2.heap.size 5 i0 (.int .u8 0) 1 1 Try.underlying22 hi hz0 hz1 hz2 rfl Nat.one_pos (.slice (some ⟨w2.heap.size, 0, none⟩) 0 0) 0 [] rfl OWN.out a2 t.length c2 (t.map u8v) rfl L0.out N2.out.2 (one_cell _) D1.out D2.out BA.out.size ?_; intro v3 w3 hown3 hg3 _))
    · go_ret
      exact ⟨rfl, bt B2.out b8⟩
    · have b3 := grown_below hg3
      rw [Nat.zero_add, List.nil_append] at hown3
      obtain ⟨g, cap, rfl⟩ : ∃ g cap, v3 = .slice (some ⟨g, 0, none⟩) t.length cap := by
        obtain ⟨_, ⟨_, h2⟩ | ⟨g, cap, cur, h2, _⟩⟩ := hown3
        · exact absurd h2 h0
        · exact ⟨g, cap, h2⟩
      generalize ([n0, n1, n2', n3] : List Nat) = bs at *
      rw [show t.map u8v = (chg t kk bs 0).map u8v by rw [chg_zero]] at hown3
      go_loopw [8, 9] (fun o i wr => ∃ j : Nat, j ≤ 4 ∧ i = .int .i64 j ∧ o = .bool ((!decide (chg t kk bs j = t))) ∧ wr.ownsRow w2.heap.size 5 1 (.slice (some ⟨g, 0, none⟩) t.length cap) t.length ((chg t kk bs j).map u8v) ∧ Below w2.heap.size w2 wr) (fun _ i _ => 4 - (intOf i).toNat)
      case atStart => exact ⟨0, by omega, rfl, by simp [chg_zero], hown3, b3⟩
      case round =>
        obtain ⟨j, hj, rfl, rfl, own, bw⟩ := hrel
        have hg := own.lt g rfl
        by_cases h4 : j < 4
        · by_cases hn : kk + j < t.length
          · have dj := (bw.cell (show w.heap.size < _ from z2)).trans (DB.out j h4)
            have dj0 := DB.out j h4
            have cj := own.cellAt (kk + j) (by omega)
            rw [List.getElem?_map, chg_at hn, if_neg (by omega), Option.map_some] at cj
            have fz := own.frozenAt (kk + j)
            have ST := Lib.hid (own.stored (kk + j))
            have bj := BS.out j
            have tj : t.getD (kk + j) 0 < 256 := by
              apply X0.out
              simp only [List.getD, List.getElem?_eq_getElem hn, Option.getD_some]
              exact List.getElem_mem _
            have CS := Lib.hid (chg_same (bs := bs) hn X0.out bj)
            have CN := Lib.hid (chg_next (bs := bs) hn)
            generalize bs.getD j 0 = y at *
            generalize t.getD (kk + j) 0 = x at *
            unfold u8v at cj
            go_wp2_with fail
            go_region
            rw [show Value.int .u8 (((x : Int) + (y : Int)) % 256) = u8v ((x + y) % 256) by unfold u8v; congr 1]
            obtain ⟨o5, g5⟩ := ST.out (u8v ((x + y) % 256))
            rw [← List.map_set, CN.out] at o5
            have b5 := (bw.grown g5 bw.size (fun k hk => by cases hk; exact hg.1)).drew
            replace o5 := o5.drew
            generalize (wr.setCell ⟨g, kk + j, none⟩ (u8v ((x + y) % 256))).drew = w5 at *
            have dj5 := (b5.cell (show w.heap.size < _ from z2)).trans dj0
            have z5 : w.heap.size < w5.heap.size := Nat.lt_of_lt_of_le z2 b5.size
            clear dj cj fz own bw dj0
            by_cases hc : chg t kk bs j = t
            · have ho : (!decide (chg t kk bs j = t)) = false := by simp [hc]
              by_cases hy : y = 0
              · have hc5 : (!decide (chg t kk bs (j + 1) = t)) = false := by simp [CS.out.2 ⟨hc, hy⟩]
                have hy2 : ((y : Int) == 0) = true := by simp [hy]
                have hy3 : ((y : Int) != 0) = false := by simp [hy]
                rw [ho]
                have HC5 := Lib.hid hc5
                clear hc hc5 hy
                go_wp2
                go_roundw
                case measure => simp [intOf]; omega
                case rel => exact ⟨j + 1, by omega, by go_num, by rw [HC5.out], o5, b5⟩
              · have hc5 : (!decide (chg t kk bs (j + 1) = t)) = true := by simp only [Bool.not_eq_true', decide_eq_false_iff_not]; intro h; exact hy (CS.out.1 h).2
                have hy2 : ((y : Int) == 0) = false := by rw [beq_eq_false_iff_ne]; omega
                have hy3 : ((y : Int) != 0) = true := by rw [bne, hy2]; rfl
                rw [ho]
                have HC5 := Lib.hid hc5
                clear hc hc5 hy
                go_wp2
                go_roundw
                case measure => simp [intOf]; omega
                case rel => exact ⟨j + 1, by omega, by go_num, by rw [HC5.out], o5, b5⟩
            · have ho : (!decide (chg t kk bs j = t)) = true := by simp [hc]
              have hc5 : (!decide (chg t kk bs (j + 1) = t)) = true := by simp only [Bool.not_eq_true', decide_eq_false_iff_not]; intro h; exact hc (CS.out.1 h).1
              rw [ho]
              have HC5 := Lib.hid hc5
              clear hc hc5
              go_wp2
              go_roundw
              case measure => simp [intOf]; omega
              case rel => exact ⟨j + 1, by omega, by go_num, by rw [HC5.out], o5, b5⟩
          · skip
            have sB := s2.later bw
            have oc : OwnBytes wr w2.heap.size (.slice (some ⟨g, 0, none⟩) t.length cap) (chg t kk bs j) := ⟨by rw [chg_length]; exact own, chg_256 X0.out⟩
            obtain ⟨a7, c7, e7, s7⟩ := own_at oc bw.size (by rw [chg_length]; omega)
            obtain ⟨rfl, rfl⟩ : a7 = some ⟨g, 0, none⟩ ∧ c7 = cap := by
              simp only [Value.slice.injEq] at e7
              exact ⟨e7.1.symm, e7.2.2.symm⟩
            have EQ := Lib.hid (chg_sum (k := kk) (bs := bs) (i := j) X0.out hj)
            have CL := Lib.hid (chg_length t kk bs j)
            have SC := Lib.hid (fun w6 b6 => CL.out ▸ sum_any (some ⟨g, 0, none⟩) c7 (chg t kk bs j) w6 (s7.later b6).bytes)
            clear e7 oc
            go_wp2_with fail
            refine (sum_any (some a2) c2 t wr sB.bytes).mono ?_
            rintro e w6 ⟨rfl, b6⟩
            go_wp2_with fail
            refine (SC.out w6 b6).mono ?_
            rintro e w7 ⟨rfl, b7⟩
            have hb := bt (bt (bt B2.out bw) b6) b7
            by_cases hc : chg t kk bs j = t
            · have e0 : crcS 0 (chg t kk bs j) = crcS 0 t := (EQ.out.2 hc).symm
              have ho : (!decide (chg t kk bs j = t)) = false := by simp [hc]
              rw [ho, e0]
              generalize crcS 0 t = u
              have hu : ((u : Int) != (u : Int)) = false := by simp
              have hu2 : ((u : Int) == (u : Int)) = true := by simp
              go_wp2_with (go_at_call 18; refine (law8_lives _).mono ?_; rintro e w8 ⟨rfl, b8⟩)
              go_ret
              exact ⟨rfl, bt hb b8⟩
            · have e0 : ¬ crcS 0 t = crcS 0 (chg t kk bs j) := fun h => hc (EQ.out.1 h)
              have ho : (!decide (chg t kk bs j = t)) = true := by simp [hc]
              rw [ho]
              generalize crcS 0 t = u at *
              generalize crcS 0 (chg t kk bs j) = v at *
              have hu2 : ((u : Int) == (v : Int)) = false := by rw [beq_eq_false_iff_ne]; omega
              have hu : ((u : Int) != (v : Int)) = true := by rw [bne, hu2]; rfl
              go_wp2_with (go_at_call 18; refine (law8_lives _).mono ?_; rintro e w8 ⟨rfl, b8⟩)
              go_ret
              exact ⟨rfl, bt hb b8⟩
        · skip
          have sB := s2.later bw
          have oc : OwnBytes wr w2.heap.size (.slice (some ⟨g, 0, none⟩) t.length cap) (chg t kk bs j) := ⟨by rw [chg_length]; exact own, chg_256 X0.out⟩
          obtain ⟨a7, c7, e7, s7⟩ := own_at oc bw.size (by rw [chg_length]; omega)
          obtain ⟨rfl, rfl⟩ : a7 = some ⟨g, 0, none⟩ ∧ c7 = cap := by
            simp only [Value.slice.injEq] at e7
            exact ⟨e7.1.symm, e7.2.2.symm⟩
          have EQ := Lib.hid (chg_sum (k := kk) (bs := bs) (i := j) X0.out hj)
          have CL := Lib.hid (chg_length t kk bs j)
          have SC := Lib.hid (fun w6 b6 => CL.out ▸ sum_any (some ⟨g, 0, none⟩) c7 (chg t kk bs j) w6 (s7.later b6).bytes)
          clear e7 oc
          go_wp2_with fail
          refine (sum_any (some a2) c2 t wr sB.bytes).mono ?_
          rintro e w6 ⟨rfl, b6⟩
          go_wp2_with fail
          refine (SC.out w6 b6).mono ?_
          rintro e w7 ⟨rfl, b7⟩
          have hb := bt (bt (bt B2.out bw) b6) b7
          by_cases hc : chg t kk bs j = t
          · have e0 : crcS 0 (chg t kk bs j) = crcS 0 t := (EQ.out.2 hc).symm
            have ho : (!decide (chg t kk bs j = t)) = false := by simp [hc]
            rw [ho, e0]
            generalize crcS 0 t = u
            have hu : ((u : Int) != (u : Int)) = false := by simp
            have hu2 : ((u : Int) == (u : Int)) = true := by simp
            go_wp2_with (go_at_call 18; refine (law8_lives _).mono ?_; rintro e w8 ⟨rfl, b8⟩)
            go_ret
            exact ⟨rfl, bt hb b8⟩
          · have e0 : ¬ crcS 0 t = crcS 0 (chg t kk bs j) := fun h => hc (EQ.out.1 h)
            have ho : (!decide (chg t kk bs j = t)) = true := by simp [hc]
            rw [ho]
            generalize crcS 0 t = u at *
            generalize crcS 0 (chg t kk bs j) = v at *
            have hu2 : ((u : Int) == (v : Int)) = false := by rw [beq_eq_false_iff_ne]; omega
            have hu : ((u : Int) != (v : Int)) = true := by rw [bne, hu2]; rfl
            go_wp2_with (go_at_call 18; refine (law8_lives _).mono ?_; rintro e w8 ⟨rfl, b8⟩)
            go_ret
            exact ⟨rfl, bt hb b8⟩

set_option maxRecDepth 100000 in
theorem lifted_CrcFour (os : Os) (started : os.Started) (H : Type) (enc : TypeId × Value → H) :
    ReturnsInHanded {} Try.checked os 6 .any (Rows.crcFourSpec.pre6 enc Try.prog Try.f6 Rows.crcFourRow.domain false) (Rows.crcFourSpec.post enc Try.prog Try.f6 false true false false) := by
  refine returnsInHanded_of_change (C := Try.checked) own started (by kernel_rfl) Try.func6
    (ChangeSpec.witness6 (enc := enc) (C := Try.checked) false ⟨#[], #[.slice none 0 0, .int .i64 0, .agg #[.int .u8 0, .int .u8 0, .int .u8 0, .int .u8 0]], []⟩ 8 (by kernel_rfl) (by kernel_rfl) (by kernel_rfl) (by kernel_rfl)) ?_
  intro W base args ds gs before hval0 hW hcnd _
  have hval : ∀ (j : Nat) t v, Try.f6.params[j]? = some t → args[j]? = some v → Value.okWide Try.prog W .any base t v := hval0
  have hW' := hW
  obtain ⟨p, q, hA0, hV, rfl, hfz, hnd⟩ := hW
  have hA : DataW.TrodAll enc Try.prog W 0 (fun _ => true) true Try.f6.params.toList args.toList ds p := hA0
  rw [Try.params6] at hA hval
  obtain ⟨v0, vs0, d0, ds0, p0, q0, hargs, rfl, rfl, h0, r0⟩ := trodAll_cons hA
  obtain ⟨v1, vs1, d1, ds1, p1, q1, rfl, rfl, rfl, h1, r1⟩ := trodAll_cons r0
  obtain ⟨v2, vs2, d2, ds2, p2, q2, rfl, rfl, rfl, h2, r2⟩ := trodAll_cons r1
  obtain ⟨rfl, rfl, rfl⟩ := trodAll_nil r2
  obtain rfl : args = #[v0, v1, v2] := by cases args; simp_all
  obtain ⟨rfl, rfl⟩ := trodVars_none hV
  have k0 := h0
  have lt0 : ∀ x ∈ p0, x.block < W.heap.size := by obtain ⟨m, hm⟩ := k0; exact DataW.trod_lt m _ _ _ hm
  obtain ⟨a0, c0, l0, rfl, w0⟩ := bytes_in Try.underlying22 Try.underlying5 (by kernel_rfl) (hval 0 22 v0 rfl rfl) h0
  obtain ⟨a1, rfl, rfl, rfl, w1⟩ := open_int Try.underlying3 (hval 1 3 v1 rfl rfl) h1
  have k2 := h2
  have lt2 : ∀ x ∈ p2, x.block < W.heap.size := by obtain ⟨m, hm⟩ := k2; exact DataW.trod_lt m _ _ _ hm
  obtain ⟨zs2, zl2, rfl, zw2⟩ := flat_ints [.u8, .u8, .u8, .u8] (ts := [5, 5, 5, 5]) (Or.inr ⟨_, _, Try.underlying31⟩) (by kernel_rfl) (by kernel_rfl) (by kernel_rfl) (hval 2 31 v2 rfl rfl)
  obtain ⟨a2_0, a2_1, a2_2, a2_3, rfl⟩ := len4 zl2
  clear hA0 hval0
  refine (walk_CrcFour W a0 c0 l0 a1 a2_0 a2_1 a2_2 a2_3 w0 w1 (zw2 0 .u8 _ rfl rfl) (zw2 1 .u8 _ rfl rfl) (zw2 2 .u8 _ rfl rfl) (zw2 3 .u8 _ rfl rfl)).mono fun e W' ⟨he, bel⟩ => ?_
  subst he
  exact ⟨_, rfl, _, _, _, [], _, [], hW', trodAll_mk1 (shut_bool Try.underlying4 _), (trodAll_cons_mk (Below.trod laidOut (by kernel_rfl) (of_decide_eq_true (by kernel_rfl)) k0 bel lt0) (trodAll_cons_mk (shut_int Try.underlying3 w1) (trodAll_cons_mk (Below.trod laidOut (by kernel_rfl) (of_decide_eq_true (by kernel_rfl)) k2 bel lt2) trodAll_mk0))), rfl, bel.frame _, fun h => by cases h⟩

theorem holds_CrcFour : Rows.CrcFourSaid :=
  OpenClaim.holds_of_wide 6 Try.f6 rfl rfl rfl rfl rfl rfl rfl ⟨rfl, rfl, rfl, rfl, rfl⟩ rfl rfl rfl rfl rfl (by kernel_rfl) Try.func6 (by kernel_rfl)
    (of_decide_eq_true (by kernel_rfl)) (by unfold Func.isWrapper; first | (rw [if_pos (by decide +kernel)]; kernel_rfl) | (rw [if_neg (by decide +kernel)]; exact ⟨rfl, rfl⟩))
    (fun os started H enc _ => lifted_CrcFour os started H enc)

end Go.Proofs.Ytnhopdimhppnmaa
