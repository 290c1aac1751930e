/- SchedLine: the walk. -/
import Derived.Test.YtdbfakllcaojcaaSlP
import Derived.Test.YtdbfakllcaojcaaLv28
import Derived.Handy
namespace Go.Proofs.Ytdbfakllcaojcaa
open Go Go.RowKit
set_option linter.unusedVariables false
set_option linter.unusedSimpArgs false
set_option maxRecDepth 100000

theorem ownL_shape {w : World} {b n s : Nat} {e : TypeId} {v : Value} {xs : List Value} (h : w.ownsRow b e s v n xs) : ∃ a c, v = .slice a n c := by
  obtain ⟨_, ⟨rfl, rfl⟩ | ⟨g, c, cur, rfl, _⟩⟩ := h
  · exact ⟨none, 0, rfl⟩
  · exact ⟨_, c, rfl⟩
theorem ownL_set {w : World} {b n s B j : Nat} {e : TypeId} {v u : Value} {xs : List Value} (h : w.ownsRow b e s v n xs) (hB : B < b) : (w.setCell ⟨B, j, none⟩ u).ownsRow b e s v n xs := by
  obtain ⟨h1, h2 | ⟨g, c, cur, rfl, hb, hg, hr⟩⟩ := h
  · exact ⟨h1, .inl h2⟩
  · exact ⟨h1, .inr ⟨g, c, cur, rfl, hb, ((out_setB w B j u 0).block g (Array.getElem?_eq_some_iff.1 hg).1 (by omega)).trans hg, hr⟩⟩
theorem ownL_row {w : World} {B n s g c : Nat} {e : TypeId} {xs : List Value} (h : w.ownsRow B e s (.slice (some ⟨g, 0, none⟩) n c) n xs) : RowAt w g xs ∧ n ≤ c ∧ c ≤ maxLen := by
  obtain ⟨h1, ⟨h2, _⟩ | ⟨g', c', cur, h2, hb, hh, hc, hm, hs, ht⟩⟩ := h
  · simp at h2
  · injection h2 with h3 _ h5
    injection h3 with h3
    injection h3 with h3 _ _
    subst h3 h5
    refine ⟨⟨(Array.getElem?_eq_some_iff.1 hh).1, fun j => by simp [World.frozen?, hh], fun j u hu => ?_⟩, hc, hm⟩
    rw [← ht] at hu
    rw [List.getElem?_take_of_lt (by
      refine Decidable.byContradiction fun e => ?_
      rw [List.getElem?_eq_none (by simp; omega)] at hu; simp at hu)] at hu
    simp only [World.cell?, hh]
    simpa using hu
def chL (n : Nat) : List Nd := (List.range' 0 n).map chNd
theorem chL_len (n : Nat) : (chL n).length = n := by simp [chL]
theorem chL_at {n i : Nat} (h : i < n) : (chL n)[i]? = some (chNd i) := by
  simp [chL, h]
theorem chL_succ (n : Nat) : chL (n + 1) = chL n ++ [chNd n] := by
  unfold chL; rw [List.range'_1_concat]; simp
theorem ins_ch {n i : Nat} (h : i < n) : insF (chL n) i = [i] := by rw [insF_at (chL_at h)]; simp [insN, chNd, hB]
def gCh (G c n o : Nat) : GrQ := ⟨2, 1, 1, none, 0, [], some ⟨G, 0, none⟩, c, chL n, (o : Int)⟩
theorem gCh_ok {G c n o : Nat} (ho : o ≤ n) : (graphE (gCh G c n o).gr).1 = 0 := by
  have h := ch_graph n o ho
  show (graphE ⟨s211, [], (List.range' 0 n).map chNd, (o : Int)⟩).1 = 0
  rw [h]
theorem gCh_order {G c n o : Nat} (ho : o ≤ n) : (ordG (gCh G c n o)).length = o ∧ ∀ i, i < o → (ordG (gCh G c n o))[i]? = some (i + 1) := by
  have he := gCh_ok (G := G) (c := c) ho
  have H := odM_ok he
  have hNl : (gCh G c n o).ns.length = n := chL_len n
  have hr : ∀ v, 1 ≤ v → v ≤ n → (odM (gCh G c n o) (needL (gCh G c n o))).rd v = [v - 1] := fun v h1 h2 => by
    show (if v = 0 then [] else insF (chL n) (v - 1)) = _
    rw [if_neg (by omega), ins_ch (by omega)]
  have hf : ∀ v, 1 ≤ v → v ≤ n → (odM (gCh G c n o) (needL (gCh G c n o))).free v = false := fun v h1 h2 => by
    show (decide (v = 0) || decide (opF (chL n) (v - 1) = 1)) = false
    rw [opF_at (chL_at (show v - 1 < n by omega))]
    simp [chNd]; omega
  have hreach : ∀ v, RchN (insF (chL n)) n o v ↔ v ≤ o := by
    have hle : ∀ i, i < n → ∀ x ∈ insF (chL n) i, x ≤ i := fun i hi x hx => by rw [ins_ch hi] at hx; simp at hx; omega
    intro v
    constructor
    · exact fun h => rch_le hle ho h
    · intro h
      have : ∀ k, k ≤ o → RchN (insF (chL n)) n o (o - k) := by
        intro k
        induction k with
        | zero => exact fun _ => .out
        | succ k ih =>
          intro hk
          have h1 := ih (by omega)
          refine .step (i := o - (k + 1)) ?_ (by omega) (by rw [ins_ch (by omega)]; simp)
          rw [show o - (k + 1) + 1 = o - k by omega]; exact h1
      have h2 := this (o - v) (by omega)
      rw [show o - (o - v) = v by omega] at h2
      exact h2
  have hw : ∀ v, (odM (gCh G c n o) (needL (gCh G c n o))).want v = true ↔ 1 ≤ v ∧ v ≤ o := by
    intro v
    have hn : (odM (gCh G c n o) (needL (gCh G c n o))).need v = true ↔ v ≤ o := by
      show (needL (gCh G c n o)).getD v false = true ↔ _
      rw [needL_iff he]
      show RchN (insF (chL n)) (chL n).length ((o : Int)).toNat v ↔ _
      rw [chL_len, Int.toNat_natCast]
      exact hreach v
    unfold Od.want
    rw [Bool.and_eq_true, hn]
    constructor
    · rintro ⟨h1, h2⟩
      refine ⟨?_, h1⟩
      refine Decidable.byContradiction fun e => ?_
      have : v = 0 := by omega
      subst this
      rw [H.f0] at h2; simp at h2
    · rintro ⟨h1, h2⟩
      exact ⟨h2, by rw [hf v h1 (by omega)]; rfl⟩
  have h := line_order H (o := o) (by show o ≤ (chL n).length; rw [chL_len]; exact ho) hw (fun v h1 h2 => hr v h1 (by omega)) (fun v h1 h2 => hf v h1 (by omega))
  have h3 := (order_spec H _ (Nat.le_refl _)).2.1
  refine ⟨?_, h.2⟩
  show ((odM (gCh G c n o) (needL (gCh G c n o))).order (odM (gCh G c n o) (needL (gCh G c n o))).todo.length).length = o
  rw [h3, h.1]
theorem bd_u8L {x : Int} (h : (Lit.int .u8 x).wf = true) : 0 ≤ x ∧ x ≤ 255 := by
  simp [Lit.wf, IntKind.min, IntKind.max, IntKind.signed, IntKind.bits] at h
  omega
theorem z64 : (Lit.int .i64 0).wf = true := by decide
theorem z32 : (Lit.int .i32 0).wf = true := by decide
theorem z9 : (Lit.int .i64 9).wf = true := by decide
theorem ch_wf (n : Nat) (hn : n ≤ 1000) : ∀ x ∈ chL n, AreInts kN x.cells := by
  intro x hx
  obtain ⟨i, hi, rfl⟩ := List.mem_map.1 hx
  have h2 : i < n := by simpa [List.mem_range'] using hi
  refine ⟨⟨_, rfl, z9⟩, ⟨_, rfl, ?_⟩, ⟨_, rfl, z64⟩, ⟨_, rfl, z64⟩, ⟨_, rfl, z64⟩, ⟨_, rfl, z64⟩, ⟨_, rfl, z64⟩, ⟨_, rfl, z64⟩, ⟨_, rfl, z64⟩, ⟨_, rfl, z64⟩, ⟨_, rfl, z64⟩, ⟨_, rfl, z64⟩, ⟨_, rfl, z64⟩, ⟨_, rfl, z64⟩, ⟨_, rfl, z32⟩, ⟨_, rfl, z32⟩, ⟨_, rfl, z64⟩, ⟨_, rfl, z64⟩, ⟨_, rfl, z64⟩, ⟨_, rfl, z64⟩, ⟨_, rfl, z64⟩, ⟨_, rfl, z64⟩, ⟨_, rfl, z64⟩, ⟨_, rfl, z64⟩, ⟨_, rfl, z64⟩, ⟨_, rfl, z64⟩, trivial⟩
  show (Lit.int .i64 (i : Int)).wf = true
  simp [Lit.wf, IntKind.min, IntKind.max, IntKind.signed, IntKind.bits]
  omega
theorem nd26_snoc (l : List Nd) (n : Nd) : nd26 (l ++ [n]) = nd26 l ++ n.cells := by simp [nd26]
set_option maxHeartbeats 8000000 in
theorem walk_line (many out : Int) (w0 : (Lit.int .u8 many).wf = true) (w1 : (Lit.int .u8 out).wf = true) (w : World) :
    Calls Try.prog 9 #[.int .u8 many, .int .u8 out] w fun e w' => e = .returned (.bool true) ∧ Below w.heap.size w w' := by
  obtain ⟨m0, m1⟩ := bd_u8L w0
  obtain ⟨o0, o1⟩ := bd_u8L w1
  obtain ⟨mn, rfl⟩ : ∃ k : Nat, many = (k : Int) := ⟨many.toNat, by omega⟩
  obtain ⟨ot, rfl⟩ : ∃ k : Nat, out = (k : Int) := ⟨out.toNat, by omega⟩
  obtain ⟨r, hr⟩ : ∃ r, r = mn % 39 := ⟨_, rfl⟩
  obtain ⟨n, hn⟩ : ∃ n, n = r + 1 := ⟨_, rfl⟩
  obtain ⟨n1, hn1⟩ : ∃ k, k = n + 1 := ⟨_, rfl⟩
  obtain ⟨o, ho⟩ : ∃ o, o = ot % n1 := ⟨_, rfl⟩
  have hrl : r < 39 := by rw [hr]; exact Nat.mod_lt _ (by decide)
  have hol : o < n1 := by rw [ho]; exact Nat.mod_lt _ (by omega)
  have q1 : Int.tmod (mn : Int) 39 = (r : Int) := by rw [hr]; exact Int.ofNat_tmod mn 39 ▸ rfl
  have q2 : (mn : Int) % 39 = (r : Int) := by rw [hr]; rfl
  have q3 : (1 : Int) + (r : Int) = (n : Int) := by omega
  have q4 : (n : Int) + 1 = (n1 : Int) := by omega
  have q5 : Int.tmod (ot : Int) (n1 : Int) = (o : Int) := by rw [ho]; exact Int.ofNat_tmod ot n1 ▸ rfl
  have q6 : (ot : Int) % (n1 : Int) = (o : Int) := by rw [ho]; rfl
  have q7 : ¬ (n1 : Int) = 0 := by omega
  have q8 : ((n1 : Int) == 0) = false := by simp; omega
  have q9 : IntKind.i64.wrap (n1 : Int) = (n1 : Int) := by simp [IntKind.wrap, IntKind.signed, IntKind.bits]; omega
  have r0 : (0 : Int) ≤ (r : Int) := by omega
  have r1 : (r : Int) < 39 := by omega
  have n0 : (0 : Int) ≤ (n : Int) := by omega
  have n2 : (n : Int) ≤ 39 := by omega
  have p0 : (0 : Int) ≤ (o : Int) := by omega
  have p1 : (o : Int) ≤ 39 := by omega
  have HON := Lib.hid (show o ≤ n by omega)
  have HN := Lib.hid (show n ≤ 39 by omega)
  have HN1 := Lib.hid (show 1 ≤ n by omega)
  obtain ⟨i1, z1, hi1, hz1, hz2, hz3, hz4⟩ : ∃ i z, Try.prog.info? 57 = some i ∧ i.zero = some z ∧ i.size = 26 ∧ i.bytes = 200 ∧ z.cells.size = 26 := ⟨(Try.prog.info? 57).get!, (Try.prog.info? 57).get!.zero.get!, by kernel_rfl, by kernel_rfl, by kernel_rfl, by kernel_rfl, by kernel_rfl⟩
  have HRB := Lib.hid (RowAt.new w [.int .i64 2, .int .i64 1, .int .i64 1, .slice none 0 0, .slice none 0 0, .int .i64 (o : Int)] 26)
  have HBB := Lib.hid (Below.alloc (Below.refl w.heap.size w) (Nat.le_refl _) (.cells #[.int .i64 2, .int .i64 1, .int .i64 1, .slice none 0 0, .slice none 0 0, .int .i64 (o : Int)] 26))
  clear w0 w1 hr ho hrl hol hn hn1 m0 o0
  go_enter Try.func9, Try.ntmps9
  go_upto_region 4 with fail
  obtain ⟨W1, hW1⟩ : ∃ W, W = w.alloc (.cells #[.int .i64 2, .int .i64 1, .int .i64 1, .slice none 0 0, .slice none 0 0, .int .i64 (o : Int)] 26) := ⟨_, rfl⟩
  have hE : w.alloc (.cells [Value.int .i64 2, .int .i64 1, .int .i64 1, .slice none 0 0, .slice none 0 0, .int .i64 (o : Int)].toArray 26) = W1 := by rw [hW1]
  rw [hE] at HRB
  rw [← hW1] at HBB ⊢
  have HS1 := Lib.hid (show w.heap.size + 1 ≤ W1.heap.size by rw [hW1]; simp)
  clear hE hW1
  go_loopw [7] (fun s7 wr => ∃ i : Nat, i ≤ n ∧ s7 = .int .i64 i ∧ ∃ q, RowAt wr w.heap.size [.int .i64 2, .int .i64 1, .int .i64 1, .slice none 0 0, q, .int .i64 (o : Int)] ∧ wr.ownsRow (w.heap.size + 1) 57 26 q i (nd26 (chL i)) ∧ Below w.heap.size w wr ∧ w.heap.size + 1 ≤ wr.heap.size) (fun s7 _ => n - (intOf s7).toNat)
  case atStart => exact ⟨0, Nat.zero_le _, rfl, _, HRB.out, World.ownsRow_nil _ _ _ _, HBB.out, HS1.out⟩
  case round =>
    obtain ⟨i, hi, rfl, q, hR, hO, hB, hS⟩ := hrel
    have HO := Lib.hid hO
    have HB := Lib.hid hB
    have HS := Lib.hid hS
    have HR := Lib.hid hR
    have hqb : ∀ k, q.ownBlock = some k → w.heap.size + 1 ≤ k := fun k hk => (World.ownsRow.lt hO k hk).1
    have HQB := Lib.hid hqb
    by_cases hil : i < n
    · obtain ⟨qa, qc, rfl⟩ := ownL_shape hO
      have c4 := hR.cell 4 _ rfl
      have f4 := hR.fr 4
      have cl := hR.lt
      have hal := Below.alloc (Below.refl wr.heap.size wr) (Nat.le_refl _) (.cells (chNd i).cells.toArray 57)
      have HAL := Lib.hid hal
      have NW := Lib.hid (show ∀ j u, (chNd i).cells[j]? = some u → (wr.alloc (.cells (chNd i).cells.toArray 57)).cell? ((⟨wr.heap.size, 0, none⟩ : Addr).add j) = some u from fun j u hu => by rw [addr_add0]; exact (RowAt.new wr (chNd i).cells 57).cell j u hu)
      have E1 := Lib.hid (show i + 1 ≤ maxLen by unfold maxLen; omega)
      have E2 := Lib.hid (show (i + 1) * 200 ≤ 140737488355328 by omega)
      have OA := Lib.hid (hO.alloc (.cells (chNd i).cells.toArray 57))
      have RA := Lib.hid (hR.over hal)
      have HI := Lib.hid hil
      have i0 : (0 : Int) ≤ (i : Int) := by omega
      have i2 : (i : Int) < (n : Int) := by omega
      have hb1 := Lib.hid (show w.heap.size + 1 ≤ (wr.alloc (.cells (chNd i).cells.toArray 57)).heap.size by have := HS.out; simp; omega)
      clear hO hR hB hS hal hil hi hqb
      go_wp2_with (at_builtin; refine wpList_append_own_at _ rfl (.tmp 28) (.tmp 31) 24 rfl (w.heap.size + 1) 57 i1 z1 26 200 Try.underlying24 hi1 hz1 hz2 hz3 hz4 (by decide) (.slice qa i qc) i (nd26 (chL i)) rfl OA.out ⟨wr.heap.size, 0, none⟩ 1 1 (chNd i).cells rfl rfl NW.out (Nd.one (chNd i)) E1.out E2.out hb1.out ?_; intro v' w6 h1 h2 h3 h4; rw [← nd26_snoc, ← chL_succ] at h1; obtain ⟨gn, cn, rfl⟩ := own_shapeN h1 (Nat.succ_pos i); have H1 := Lib.hid h1; have R6 := Lib.hid (RA.out.far h2 (fun e => by have := HQB.out _ e.symm; omega)); have B6 := Lib.hid ((below_call HB.out HAL.out).grown h2 (below_call HB.out HAL.out).size (fun x hx => by have := HQB.out x hx; omega)); have S6 := Lib.hid (Nat.le_trans hb1.out h2.size); clear h1 h2 h3 h4; have k4 := R6.out.cell 4 _ rfl; have k4f := R6.out.fr 4; have k4l := R6.out.lt)
      refine ⟨⟨i + 1, by have := HI.out; omega, rfl, _, R6.out.set 4 _ (by show 4 < 6; omega) rfl, ownL_set H1.out (by omega), Below.setCell B6.out (show w.heap.size ≤ (⟨w.heap.size, 4, none⟩ : Addr).block from Nat.le_refl _) _, by simpa using S6.out⟩, by have := HI.out; simp [intOf]; omega⟩
    · obtain rfl : i = n := by omega
      have ix : ¬ ((i : Int) < (i : Int)) := by omega
      obtain ⟨G, c, rfl⟩ := own_shapeN hO (by have := HN1.out; omega)
      obtain ⟨hrow, hc1, hc2⟩ := ownL_row hO
      have hcl : c ≤ 9223372036854775807 := by unfold maxLen at hc2; omega
      have FF := order_any (gCh G c i o) wr ⟨by simp [gCh], by simp [gCh], by simp [gCh], Or.inl ⟨rfl, rfl, rfl⟩⟩ (nds_row hrow (by show (chL i).length ≤ c; rw [chL_len]; exact hc1) hcl (ch_wf i (by have := HN.out; omega))) (by show (chL i).length ≤ 1000; rw [chL_len]; have := HN.out; omega)
      have FF2 := Lib.hid (FF.mono (R' := fun e w' => Below wr.heap.size wr w' ∧ ∃ la lc, e = .returned (.tuple #[.slice la o lc, .int .i64 0]) ∧ lc ≤ 9223372036854775807 ∧ ∃ L : List Nat, L.length = o ∧ NumsAt (fun _ => True) w' la L ∧ ∀ k, k < o → L[k]? = some (k + 1)) (by
        rintro e w' ⟨_, hb, hy⟩
        obtain ⟨v, rfl, hov⟩ := hy (gCh_ok HON.out)
        obtain ⟨la, lc, rfl, hlc, hln⟩ := own_numsN (P := fun _ => True) hov (fun _ _ => trivial)
        obtain ⟨g1, g2⟩ := gCh_order (G := G) (c := c) HON.out
        exact ⟨hb, la, lc, by rw [g1], hlc, _, g1, hln, g2⟩))
      unfold GrQ.val gCh at FF2
      dsimp only [List.length] at FF2
      rw [chL_len] at FF2
      have b0 := hR.cell 0 _ rfl
      have b1 := hR.cell 1 _ rfl
      have b2 := hR.cell 2 _ rfl
      have b3 := hR.cell 3 _ rfl
      have b4 := hR.cell 4 _ rfl
      have b5 := hR.cell 5 _ rfl
      have bl := hR.lt
      clear FF hrow hc1 hc2 hO hR hB hS hqb hil hi
      go_upto_region 8 with (go_at_call 23; (with_reducible refine FF2.out.mono ?_); rintro e w5 ⟨hb5, la, lc, rfl, hlc, L, hLl, hLn, hLk⟩; have HB5 := Lib.hid (below_call HB.out hb5); have HLN := Lib.hid hLn; have HLL := Lib.hid hLl; have HLK := Lib.hid hLk; have b5' := (HR.out.over hb5).cell 5 _ rfl; have bl' := (HR.out.over hb5).lt; clear hb5 hLn hLl hLk)
      have hlci : (lc : Int) ≤ 9223372036854775807 := by omega
      clear b0 b1 b2 b3 b4 b5 bl
      go_wp2_with fail
      clear b5' bl'
      go_loopw [10] (fun s10 wx => ∃ k : Nat, k ≤ o ∧ s10 = .int .i64 k ∧ Below w5.heap.size w5 wx) (fun s10 _ => o - (intOf s10).toNat)
      case atStart => exact ⟨0, Nat.zero_le _, rfl, Below.refl _ _⟩
      case round =>
        obtain ⟨k, hk, rfl, hBx⟩ := hrel
        have HX := Lib.hid hBx
        clear hBx
        by_cases hkl : k < o
        · obtain ⟨g, hla, _, hg, hc⟩ := (HLN.out.over HX.out) k (k + 1) (HLK.out k hkl)
          subst hla
          obtain ⟨kp, hkp⟩ : ∃ y : Nat, y = k + 1 := ⟨_, rfl⟩
          rw [← hkp] at hc
          have k0 : (0 : Int) ≤ (k : Int) := by omega
          have k1 : (k : Int) < (o : Int) := by omega
          have ks : (k : Int) + 1 = (kp : Int) := by omega
          have kw : IntKind.i64.wrap (kp : Int) = (kp : Int) := by simp [IntKind.wrap, IntKind.signed, IntKind.bits]; omega
          have t1 : ((kp : Int) != (kp : Int)) = false := by simp
          have HK := Lib.hid hkl
          have HKP := Lib.hid hkp
          clear hkl hkp hk
          go_wp2_with fail
          exact ⟨⟨kp, by have := HK.out; have := HKP.out; omega, rfl, HX.out⟩, by have := HK.out; have := HKP.out; simp [intOf]; omega⟩
        · obtain rfl : k = o := by omega
          have kx : ¬ ((k : Int) < (k : Int)) := by omega
          clear hkl hk
          go_wp2_with (go_at_call 20; (with_reducible refine (lives28 _).mono ?_); rintro e w8 ⟨rfl, hb8⟩; have HB8 := Lib.hid hb8; clear hb8)
          go_ret
          exact ⟨rfl, below_call HB5.out (below_call HX.out HB8.out)⟩
end Go.Proofs.Ytdbfakllcaojcaa
