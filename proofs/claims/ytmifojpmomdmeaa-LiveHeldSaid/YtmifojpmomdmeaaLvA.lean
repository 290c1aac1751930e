/- live.lastReads. -/
import Derived.Test.YtmifojpmomdmeaaLvP
import Derived.Test.YtmifojpmomdmeaaOC
import Derived.Handy
namespace Go.Proofs.Ytmifojpmomdmeaa
open Go Go.RowKit
set_option linter.unusedVariables false
set_option linter.unusedSimpArgs false
set_option maxRecDepth 100000

def mapI (n : Nat) (f : Nat → Int) : List Int := (List.range n).map f
theorem mapI_at {n i : Nat} (f : Nat → Int) (h : i < n) : (intsV (mapI n f))[i]? = some (.int .i64 (f i)) := intsV_at (mapR_at f h)
theorem mapI_row {w : World} {B n i : Nat} {f f' : Nat → Int} {x : Int} (h : RowAt w B (intsV (mapI n f))) (hi : i < n) (hf : ∀ j, j < n → f' j = if j = i then x else f j) : RowAt (w.setCell ⟨B, i, none⟩ (.int .i64 x)) B (intsV (mapI n f')) := by
  have h2 := h.set i (.int .i64 x) (by simp [intsV, mapI]; exact hi) rfl
  rw [show (intsV (mapI n f)).set i (.int .i64 x) = intsV (mapI n f') by
    unfold mapI
    rw [← mapR_set n f f' i x hf]
    simp [intsV, List.map_set]] at h2
  exact h2
theorem last_if (k j : Nat) : (if j < k + 1 then (-1 : Int) else 0) = if j = k then -1 else if j < k then -1 else 0 := by
  split <;> split <;> (try split) <;> omega
theorem last_in (T : List Nat) (y r : Nat) (k l : Int) : (if r ∈ T ++ [y] then k else l) = if r = y then k else if r ∈ T then k else l := by
  by_cases e : r = y
  · subst e; simp
  · simp [e]
set_option maxHeartbeats 8000000 in
theorem last_any {P : Nat → Prop} (g : GrQ) (m : Lv) (la : Option Addr) (lc : Nat) (w : World) (hN : NdsIn w g.na g.ns g.nc) (hn : g.ns.length ≤ 1000) (hL : ∀ v ∈ m.L, 1 ≤ v ∧ v ≤ g.ns.length) (hLl : m.L.length ≤ 1000) (hnu : NumsAt P w la m.L) (hlc : lc ≤ 9223372036854775807)
    (hah : ∀ (k : Nat) (n : Nd), g.ns[k]? = some n → ∀ z ∈ insN n, 0 ≤ z ∧ z ≤ (k : Int)) (hmi : ∀ v, 1 ≤ v → v ≤ g.ns.length → m.ins v = insF g.ns (v - 1)) :
    Calls Try.prog 19 #[g.val, .slice la m.L.length lc] w fun e w' => ∃ B, e = .returned (.slice (some ⟨B, 0, none⟩) (g.ns.length + 1) (g.ns.length + 1)) ∧ w.heap.size ≤ B ∧ RowAt w' B (intsV (mapI (g.ns.length + 1) m.last)) ∧ Below w.heap.size w w' := by
  obtain ⟨T, Z, Z0, NL⟩ := node_type
  have hL0 := NL.load
  have tA := NL.agg
  have tS := NL.size
  obtain ⟨gx, gy, gz, ca, cc, C, na, nc, ns, go⟩ := g
  dsimp only at *
  have HN := Lib.hid hN
  have HAH := Lib.hid hah
  have HMI := Lib.hid hmi
  have HLB := Lib.hid hL
  have HNU := Lib.hid hnu
  have hnl := hN.1
  rw [List.length_map] at hnl
  have hcb : nc ≤ 9223372036854775807 := hN.2.1
  have hLi : (m.L.length : Int) ≤ 1000 := by omega
  have hlci : (lc : Int) ≤ 9223372036854775807 := by omega
  unfold GrQ.val
  dsimp only
  have RG := Lib.hid (RowAt.new w [.int .i64 gx, .int .i64 gy, .int .i64 gz, .slice ca C.length cc, .slice na ns.length nc, .int .i64 go] 26)
  have BW := Lib.hid (Below.alloc (Below.refl w.heap.size w) (Nat.le_refl _) (.cells #[.int .i64 gx, .int .i64 gy, .int .i64 gz, .slice ca C.length cc, .slice na ns.length nc, .int .i64 go] 26))
  have hmk := fun W => run_make_row' (P := Try.prog) 42 3 (.int .i64 0) 8 Try.underlying42 info_intO rfl .i64 .i64 (ns.length + 1) (by omega) (by omega) W
  push_cast at hmk
  clear hN hah hmi hL hnu hLl
  go_enter Try.func19, Try.ntmps19
  simp only [hL0]
  clear hL0
  go_upto_region 1 with fail
  obtain ⟨W1, hW1⟩ : ∃ W, W = w.alloc (.cells #[.int .i64 gx, .int .i64 gy, .int .i64 gz, .slice ca C.length cc, .slice na ns.length nc, .int .i64 go] 26) := ⟨_, rfl⟩
  have hE : w.alloc (.cells [Value.int .i64 gx, .int .i64 gy, .int .i64 gz, .slice ca C.length cc, .slice na ns.length nc, .int .i64 go].toArray 26) = W1 := by rw [hW1]
  rw [hE] at RG
  rw [← hW1] at BW ⊢
  clear hE hW1
  have b4 := RG.out.cell 4 _ rfl
  have bl := RG.out.lt
  go_upto_region 2 with fail
  clear b4 bl
  have hB0 : RowAt (W1.alloc (.cells (madeCells #[Value.int .i64 0] (ns.length + 1)) 3)) W1.heap.size (intsV (mapI (ns.length + 1) (fun j => if j < 0 then -1 else 0))) := by
    rw [madeO, show List.replicate (ns.length + 1) (Value.int .i64 0) = intsV (mapI (ns.length + 1) (fun j => if j < 0 then -1 else 0)) by rw [rep_ints, rep_map]; unfold mapI; congr 1]
    exact RowAt.new W1 _ _
  have hal := Below.alloc (Below.refl W1.heap.size W1) (Nat.le_refl _) (.cells (madeCells #[Value.int .i64 0] (ns.length + 1)) 3)
  have RB := Lib.hid hB0
  have RG2 := Lib.hid (RG.out.over hal)
  have B2 := Lib.hid (below_call BW.out hal)
  have hbw : w.heap.size < W1.heap.size := RG.out.lt
  obtain ⟨B, hB⟩ : ∃ B, B = W1.heap.size := ⟨_, rfl⟩
  rw [← hB] at RB hbw ⊢
  have HBW := Lib.hid hbw
  clear hB0 hal hmk hB
  generalize W1.alloc (.cells (madeCells #[Value.int .i64 0] (ns.length + 1)) 3) = W2 at *
  go_wp2_with fail
  go_loopw [18] (fun s18 wr => ∃ k : Nat, k ≤ ns.length + 1 ∧ s18 = .int .i64 k ∧ RowAt wr B (intsV (mapI (ns.length + 1) (fun j => if j < k then -1 else 0))) ∧ Out (fun j => j = B) W2 wr) (fun s18 _ => ns.length + 1 - (intOf s18).toNat)
  case atStart => exact ⟨0, Nat.zero_le _, rfl, RB.out, Out.refl _ _⟩
  case round =>
    obtain ⟨k, hk, rfl, hR, hO⟩ := hrel
    have HR := Lib.hid hR
    have HO := Lib.hid hO
    clear hR hO
    by_cases hkl : k < ns.length + 1
    · have c0 := HR.out.cell k _ (mapI_at _ hkl)
      have cf := HR.out.fr k
      have cl := HR.out.lt
      have k0 : (0 : Int) ≤ (k : Int) := by omega
      have k1 : (k : Int) < (ns.length : Int) + 1 := by omega
      have HK := Lib.hid hkl
      generalize (if k < k then (-1 : Int) else 0) = x0 at c0
      clear hkl hk
      go_wp2_with fail
      exact ⟨⟨k + 1, by have := HK.out; omega, rfl, mapI_row HR.out HK.out (fun j _ => last_if k j), HO.out.trans (out_setB wr B k (.int .i64 (-1)) 0)⟩, by have := HK.out; simp [intOf]; omega⟩
    · obtain rfl : k = ns.length + 1 := by omega
      have kx : ¬ (((ns.length + 1 : Nat) : Int) < (ns.length : Int) + 1) := by omega
      have RL := Lib.hid (show RowAt wr B (intsV (mapI (ns.length + 1) (m.lastK 0))) by
        have h := HR.out
        rw [show mapI (ns.length + 1) (fun j => if j < ns.length + 1 then (-1 : Int) else 0) = mapI (ns.length + 1) (m.lastK 0) from mapR_eq fun j hj => by rw [if_pos hj]; rfl] at h
        exact h)
      have OW := Lib.hid HO.out
      clear hkl hk
      obtain ⟨W3, hW3⟩ : ∃ W, W = wr := ⟨_, rfl⟩
      rw [← hW3] at RL OW ⊢
      clear hW3 HR HO
      go_wp2_with fail
      go_loopw [27] (fun s27 wx => ∃ k : Nat, k ≤ m.L.length ∧ s27 = .int .i64 k ∧ RowAt wx B (intsV (mapI (ns.length + 1) (m.lastK k))) ∧ Out (fun j => j = B) W2 wx) (fun s27 _ => m.L.length - (intOf s27).toNat)
      case atStart => exact ⟨0, Nat.zero_le _, rfl, RL.out, OW.out⟩
      case round =>
        obtain ⟨k, hk, rfl, hR, hO⟩ := hrel
        have HR := Lib.hid hR
        have HO := Lib.hid hO
        have HB1 := Lib.hid (hO.below B2.out (Nat.le_refl _) (fun j hj => by subst hj; exact Nat.le_of_lt HBW.out))
        clear hR hO
        by_cases hkl : k < m.L.length
        · obtain ⟨v, hv⟩ : ∃ x, m.L[k]? = some x := ⟨_, List.getElem?_eq_getElem hkl⟩
          obtain ⟨g, rfl, _, hg, hc⟩ := (HNU.out.over HB1.out) k v hv
          obtain ⟨v1, v2⟩ := HLB.out v (List.mem_of_getElem? hv)
          obtain ⟨j, rfl⟩ : ∃ j, v = j + 1 := ⟨v - 1, by omega⟩
          obtain ⟨nd, hnd⟩ : ∃ n, ns[j]? = some n := ⟨_, List.getElem?_eq_getElem (by omega)⟩
          obtain ⟨nb, noff, hna, hnb, hrg⟩ := nds_range HN.out j nd hnd
          subst hna
          have tR := NL.read nd wr nb (noff + j * 26) (fun q u hu => (HB1.out.cell (p := ⟨nb, _, none⟩) hnb).trans (hrg q u hu))
          have tLn := NL.len nd
          have RI := Lib.hid (fun W => ins_any nd W)
          have HNX := Lib.hid (show ∀ r, m.lastK (k + 1) r = if r ∈ (insN nd).map Int.toNat then (k : Int) else m.lastK k r from fun r => by
            have e : m.L.getD k 0 = j + 1 := by simp [List.getD, hv]
            have e2 : m.ins (j + 1) = (insN nd).map Int.toNat := by rw [HMI.out (j + 1) (by omega) (by omega), Nat.add_sub_cancel, insF_at hnd]
            show (if r ∈ m.ins (m.L.getD k 0) then (k : Int) else m.lastK k r) = _
            rw [e, e2])
          have HZB := Lib.hid (HAH.out j nd hnd)
          obtain ⟨vp, hvp⟩ : ∃ x : Nat, x = j + 1 := ⟨_, rfl⟩
          rw [← hvp] at hc
          have u0 : (0 : Int) ≤ (j : Int) := by omega
          have u1 : (j : Int) < (ns.length : Int) := by omega
          have hw : IntKind.i64.wrap ((vp : Int) - 1) = (j : Int) := by rw [hvp]; simp [IntKind.wrap, IntKind.signed, IntKind.bits]; omega
          have hw2 : (vp : Int) - 1 = (j : Int) := by omega
          have vp0 : (0 : Int) ≤ (vp : Int) := by omega
          have vp1 : (vp : Int) ≤ 1000 := by omega
          have k0 : (0 : Int) ≤ (k : Int) := by omega
          have k1 : (k : Int) < (m.L.length : Int) := by omega
          have hnb2 := Nat.lt_of_lt_of_le hnb HB1.out.size
          have HJN := Lib.hid v2
          have rg := (RG2.out.outN HO.out (by have := HBW.out; omega))
          have c4 := rg.cell 4 _ rfl
          have cl := rg.lt
          have HK := Lib.hid hkl
          obtain ⟨wo, hwo⟩ : ∃ W : World, W = wr := ⟨_, rfl⟩
          rw [← hwo] at HR HO HB1 tR hnb2 c4 cl hg hc ⊢
          clear hwo hrg hnd hkl hv v1 v2 hvp rg hk
          go_wp2_with (go_at_call 38; (with_reducible refine (RI.out _).mono ?_); rintro e w5 ⟨at0, rfl, hb5, hin⟩; have HB5 := Lib.hid hb5; have HIN := Lib.hid hin; clear hb5 hin)
          have hil : ((insN nd).length : Int) ≤ 2 := by have := ins_len nd; omega
          clear tR c4 cl hg hc
          go_loopw [40] (fun s40 wx => ∃ q : Nat, q ≤ (insN nd).length ∧ s40 = .int .i64 q ∧ RowAt wx B (intsV (mapI (ns.length + 1) (fun r => if r ∈ ((insN nd).map Int.toNat).take q then (k : Int) else m.lastK k r))) ∧ Out (fun j => j = B) w5 wx) (fun s40 _ => (insN nd).length - (intOf s40).toNat)
          case atStart => exact ⟨0, Nat.zero_le _, rfl, by simpa using HR.out.over HB5.out, Out.refl _ _⟩
          case round =>
            obtain ⟨q, hq, rfl, hR2, hO2⟩ := hrel
            have HR2 := Lib.hid hR2
            have HO2 := Lib.hid hO2
            clear hR2 hO2
            by_cases hql : q < (insN nd).length
            · obtain ⟨z, hzz⟩ : ∃ z, (insN nd)[q]? = some z := ⟨_, List.getElem?_eq_getElem hql⟩
              obtain ⟨z0, z1⟩ := HZB.out z (List.mem_of_getElem? hzz)
              obtain ⟨y, rfl⟩ : ∃ y : Nat, z = (y : Int) := ⟨z.toNat, by omega⟩
              obtain ⟨gi, hat, hgi, hgl, hci⟩ := HIN.out q _ hzz
              subst hat
              have hBl : B < wo.heap.size := HR.out.lt
              have hc2 := (HO2.out.cell (p := ⟨gi, q, none⟩) hgl (by show ¬ gi = B; omega)).trans hci
              have hgl2 := Nat.lt_of_lt_of_le hgl HO2.out.size
              have hyN : y < ns.length + 1 := by have := HJN.out; omega
              have d0 := HR2.out.cell y _ (mapI_at _ hyN)
              have df := HR2.out.fr y
              have dl := HR2.out.lt
              have y0 : (0 : Int) ≤ (y : Int) := by omega
              have y1 : (y : Int) < (ns.length : Int) + 1 := by omega
              have q0 : (0 : Int) ≤ (q : Int) := by omega
              have q1 : (q : Int) < ((insN nd).length : Int) := by omega
              have HQ := Lib.hid hql
              have HTK := Lib.hid (show ((insN nd).map Int.toNat).take (q + 1) = ((insN nd).map Int.toNat).take q ++ [y] by rw [List.take_add_one, List.getElem?_map, hzz]; simp)
              have HYN := Lib.hid hyN
              generalize (if y ∈ ((insN nd).map Int.toNat).take q then (k : Int) else m.lastK k y) = x0 at d0
              clear hzz hql hq hci hgl hgi hyN z0 z1
              go_wp2_with fail
              exact ⟨⟨q + 1, by have := HQ.out; omega, rfl, mapI_row HR2.out HYN.out (fun r _ => by rw [HTK.out]; exact last_in _ _ _ _ _), HO2.out.trans (out_setB wr B y (.int .i64 (k : Int)) 0)⟩, by have := HQ.out; simp [intOf]; omega⟩
            · obtain rfl : q = (insN nd).length := by omega
              have q1 : ¬ (((insN nd).length : Int) < ((insN nd).length : Int)) := by omega
              clear hql hq
              have RF := Lib.hid (show RowAt wr B (intsV (mapI (ns.length + 1) (m.lastK (k + 1)))) by
                have h := HR2.out
                rw [List.take_of_length_le (by simp)] at h
                rw [show mapI (ns.length + 1) (m.lastK (k + 1)) = mapI (ns.length + 1) (fun r => if r ∈ (insN nd).map Int.toNat then (k : Int) else m.lastK k r) from mapR_eq fun r _ => HNX.out r]
                exact h)
              go_wp2_with fail
              exact ⟨⟨k + 1, by have := HK.out; omega, rfl, RF.out, (HO.out.trans (Out.of_below _ HB5.out)).trans HO2.out⟩, by have := HK.out; simp [intOf]; omega⟩
        · obtain rfl : k = m.L.length := by omega
          have kx : ¬ ((m.L.length : Int) < (m.L.length : Int)) := by omega
          clear hkl hk
          go_wp2_with fail
          go_ret
          exact ⟨B, rfl, Nat.le_of_lt HBW.out, HR.out, HB1.out⟩
end Go.Proofs.Ytmifojpmomdmeaa
