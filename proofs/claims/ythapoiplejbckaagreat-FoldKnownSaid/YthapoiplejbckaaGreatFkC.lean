/- The document's Known; Bools. -/
import Derived.Test.YthapoiplejbckaaGreatFkA
import Derived.Test.YthapoiplejbckaaGreatNY
import Derived.Test.YthapoiplejbckaaGreatRF
import Derived.Laws.OwnMore
import Derived.Deep.OwnRows
namespace Go.Proofs.YthapoiplejbckaaGreat
open Go Go.RowKit
set_option linter.unusedVariables false
set_option linter.unusedSimpArgs false
set_option maxRecDepth 100000

theorem boolsV_app (L : List Bool) (b : Bool) : boolsV (L ++ [b]) = boolsV L ++ [.bool b] := by simp [boolsV]
theorem take_snoc {α : Type} {l : List α} {k : Nat} {x : α} (h : l[k]? = some x) : l.take (k + 1) = l.take k ++ [x] := by
  rw [List.take_add_one, h]; rfl
theorem own_bools {w : World} {base : Nat} {v : Value} {L : List Bool} (h : w.ownsRow base 4 1 v L.length (boolsV L)) (hl : 0 < L.length) :
    ∃ g cap, v = .slice (some ⟨g, 0, none⟩) L.length cap ∧ base ≤ g ∧ g < w.heap.size ∧ ∀ j, j < L.length → w.cell? ⟨g, j, none⟩ = some (.bool (L.getD j false)) := by
  have h' := h
  obtain ⟨_, ⟨_, hn⟩ | ⟨g, cap, cur, rfl, hg, hh, hc, hcm, _⟩⟩ := h
  · omega
  · have hlt : g < w.heap.size := by
      rcases Nat.lt_or_ge g w.heap.size with h | h
      · exact h
      · rw [Array.getElem?_eq_none h] at hh; cases hh
    refine ⟨g, cap, rfl, hg, hlt, fun j hj => ?_⟩
    rw [h'.cellAt j (by simpa using hj), boolsV_at hj]
set_option maxHeartbeats 8000000 in
theorem rknown_any (g : GrQ) (w : World) (hN : NdsIn w g.na g.ns g.nc) (hn : g.ns.length ≤ 1000) (ha : ∀ (k : Nat) (n : Nd), g.ns[k]? = some n → ∀ v ∈ insN n, 0 ≤ v ∧ v ≤ (k : Int)) :
    Calls Tryz.prog 9 #[g.val] w fun e w' => ∃ v, e = .returned v ∧ Below w.heap.size w w' ∧ w'.ownsRow w.heap.size 4 1 v (knL g.ns).length (boolsV (knL g.ns)) := by
  obtain ⟨T, Z, Z0, NL⟩ := node_type
  have hL := NL.load
  have tA := NL.agg
  have tS := NL.size
  obtain ⟨gx, gy, gz, ca, cc, C, na, nc, ns, go⟩ := g
  dsimp only at *
  have HN := Lib.hid hN
  have HA := Lib.hid ha
  have hnl := hN.1
  rw [List.length_map] at hnl
  have hcb : nc ≤ 9223372036854775807 := hN.2.1
  unfold GrQ.val
  dsimp only
  have RG := Lib.hid (RowAt.new w [.int .i64 gx, .int .i64 gy, .int .i64 gz, .slice ca C.length cc, .slice na ns.length nc, .int .i64 go] 26)
  have BW := Lib.hid (Below.alloc (Below.refl w.heap.size w) (Nat.le_refl _) (.cells #[.int .i64 gx, .int .i64 gy, .int .i64 gz, .slice ca C.length cc, .slice na ns.length nc, .int .i64 go] 26))
  have HSZ := Lib.hid (size_alloc1 w (.cells #[.int .i64 gx, .int .i64 gy, .int .i64 gz, .slice ca C.length cc, .slice na ns.length nc, .int .i64 go] 26))
  obtain ⟨i0, hi, hz0, hz1, hz2⟩ : ∃ i, Tryz.prog.info? 4 = some i ∧ i.zero = some (.bool false) ∧ i.size = 1 ∧ i.bytes = 1 := ⟨(Tryz.prog.info? 4).get!, by kernel_rfl, by kernel_rfl, by kernel_rfl, by kernel_rfl⟩
  clear hN ha
  go_enter Tryz.func9, Tryz.ntmps9
  simp only [hL]
  clear hL
  go_upto_region 1 with fail
  generalize w.alloc (.cells #[.int .i64 gx, .int .i64 gy, .int .i64 gz, .slice ca C.length cc, .slice na ns.length nc, .int .i64 go] 26) = W1 at *
  have hs1 : w.heap.size + 1 ≤ W1.heap.size := by rw [HSZ.out]; exact Nat.le_refl _
  have OW0 := Lib.hid (World.ownsRow_lit (base := w.heap.size + 1) (e := 4) (size := 1) W1 #[.bool false] 1 hs1 (by decide) rfl)
  have B1 := Lib.hid (Below.alloc (Below.refl (w.heap.size + 1) W1) hs1 (.cells #[.bool false] 4))
  have bl := RG.out.lt
  go_wp2_with fail
  go_loopw [3, 4] (fun s3 s4 wr => ∃ k : Nat, k ≤ ns.length ∧ s4 = .int .i64 k ∧ wr.ownsRow (w.heap.size + 1) 4 1 s3 (knL (ns.take k)).length (boolsV (knL (ns.take k))) ∧ Below (w.heap.size + 1) W1 wr) (fun _ s4 _ => ns.length - (intOf s4).toNat)
  case atStart => exact ⟨0, Nat.zero_le _, rfl, OW0.out, B1.out⟩
  case round =>
    obtain ⟨k, hk, rfl, hown, hB⟩ := hrel
    have hKl : (knL (ns.take k)).length = k + 1 := by rw [knL_len, List.length_take]; omega
    obtain ⟨gb, cap, hv, hgb, hgl, hcl⟩ := own_bools hown (by omega)
    have OWN := Lib.hid hown
    have HB := Lib.hid hB
    have HBW := Lib.hid (BW.out.trans (hB.mono (by omega)))
    have HR := Lib.hid (RG.out.later hB (Nat.lt_succ_self _))
    have b4 := HR.out.cell 4 _ rfl
    have bl2 := HR.out.lt
    have HCL := Lib.hid hcl
    have HKE := Lib.hid (fun (h : k = ns.length) => (show ns.take k = ns by rw [h, List.take_length]))
    have HKS := Lib.hid (fun (n : Nd) (h : ns[k]? = some n) => (show knL (ns.take (k + 1)) = knL (ns.take k) ++ [knO (knL (ns.take k)) n] by rw [take_snoc h, knL_snoc]))
    obtain ⟨K, hK⟩ : ∃ K, K = knL (ns.take k) := ⟨_, rfl⟩
    rw [← hK] at OWN HCL HKS hv hKl hown
    have HKL := Lib.hid hKl
    have HK0 := Lib.hid hK
    have hKi : (K.length : Int) ≤ 1001 := by omega
    subst hv
    clear hown hB hcl hK hKl
    by_cases hkl : k < ns.length
    · obtain ⟨nd, hnd⟩ : ∃ n, ns[k]? = some n := ⟨_, List.getElem?_eq_getElem hkl⟩
      obtain ⟨nb, noff, hna, hnb, hrg⟩ := nds_range HN.out k nd hnd
      subst hna
      have tR := NL.read nd wr nb (noff + k * 26) (fun j v hv => (HBW.out.cell (p := ⟨nb, _, none⟩) hnb).trans (hrg j v hv))
      have tL := NL.len nd
      have RI := Lib.hid (fun W => rins nd W)
      have hah := HA.out k nd hnd
      have HAH := Lib.hid hah
      have kl0 : (0 : Int) ≤ (k : Int) := by omega
      have kl1 : (k : Int) < (ns.length : Int) := by omega
      have HND := Lib.hid hnd
      have HK := Lib.hid hkl
      have hli : ((insN nd).length : Int) ≤ 2 := by have := ins_len nd; omega
      clear hrg hnd hkl hah
      obtain ⟨wo, hwo⟩ : ∃ W : World, W = wr := ⟨_, rfl⟩
      clear hwo wo
      go_wp2_with (go_at_call 15; (with_reducible refine (RI.out _).mono ?_); rintro e w4 ⟨at0, ci, rfl, hb2, hins⟩; have HB4 := Lib.hid hb2; have IA := Lib.hid hins; clear hb2 hins)
      clear tR tL
      go_loopw [6, 7] (fun s6 s7 wx => ∃ j : Nat, j ≤ (insN nd).length ∧ s7 = .int .i64 j ∧ s6 = .bool (((insN nd).take j).all fun v => K.getD v.toNat false) ∧ Below w4.heap.size w4 wx) (fun _ s7 _ => (insN nd).length - (intOf s7).toNat)
      case atStart => exact ⟨0, Nat.zero_le _, rfl, rfl, Below.refl _ _⟩
      case round =>
        obtain ⟨j, hj, rfl, rfl, hBx⟩ := hrel
        have HBX := Lib.hid hBx
        have BX := Lib.hid (below_call HB4.out hBx)
        obtain ⟨A, hA⟩ : ∃ b, b = (((insN nd).take j).all fun v => K.getD v.toNat false) := ⟨_, rfl⟩
        rw [← hA]
        have HAD := Lib.hid hA
        clear hBx hA
        by_cases hjl : j < (insN nd).length
        · obtain ⟨z, hz⟩ : ∃ z, (insN nd)[j]? = some z := ⟨_, List.getElem?_eq_getElem hjl⟩
          obtain ⟨gi, hat, hgi, hgl2, hc⟩ := IA.out j z hz
          subst hat
          have hc2 := (HBX.out.cell (p := ⟨gi, _, none⟩) hgl2).trans hc
          obtain ⟨z0, z1⟩ := HAH.out z (List.mem_of_getElem? hz)
          obtain ⟨v, rfl⟩ : ∃ v : Nat, z = (v : Int) := ⟨z.toNat, by omega⟩
          have hvK : v < K.length := by have := HKL.out; omega
          have hcv := (BX.out.cell (p := ⟨gb, v, none⟩) hgl).trans (HCL.out v hvK)
          have hglx : gb < wr.heap.size := Nat.lt_of_lt_of_le hgl BX.out.size
          have jl0 : (0 : Int) ≤ (j : Int) := by omega
          have jl1 : (j : Int) < ((insN nd).length : Int) := by omega
          have v0 : (0 : Int) ≤ (v : Int) := by omega
          have v1 : (v : Int) < (K.length : Int) := by omega
          have hnx : (((insN nd).take (j + 1)).all fun v => K.getD v.toNat false) = (A && K.getD v false) := by
            rw [take_snoc hz, List.all_append, HAD.out]; simp
          have HNX := Lib.hid hnx
          have HJ := Lib.hid hjl
          generalize K.getD v false = kv at *
          clear hc hz hjl z0 z1 hnx hvK
          cases A
          · go_wp2_with fail
            exact ⟨⟨j + 1, by have := HJ.out; omega, rfl, by rw [HNX.out]; rfl, HBX.out⟩, by have := HJ.out; simp [intOf]; omega⟩
          · go_wp2_with fail
            exact ⟨⟨j + 1, by have := HJ.out; omega, rfl, by rw [HNX.out]; rfl, HBX.out⟩, by have := HJ.out; simp [intOf]; omega⟩
        · obtain rfl : j = (insN nd).length := by omega
          have hA2 : A = knO K nd := by rw [HAD.out, List.take_length]; rfl
          have HA2 := Lib.hid hA2
          have E1 := Lib.hid (show K.length + 1 ≤ maxLen by unfold maxLen; omega)
          have E2 := Lib.hid (show (K.length + 1) * 1 ≤ 140737488355328 by omega)
          have gw : w.heap.size + 1 ≤ wr.heap.size := by have := BX.out.size; omega
          clear hjl hA2
          go_wp2_with (first
            | (at_builtin; refine wpList_append_own _ rfl (.tmp 38) (.tmp 40) 28 rfl (w.heap.size + 1) 4 i0 (.bool false) 1 1 Tryz.underlying28 hi hz0 hz1 hz2 rfl (by decide) _ K.length (boolsV K) rfl (own_laterS (own_laterS OWN.out BX.out) (Below.alloc (Below.refl _ _) (Nat.le_refl _) _)) ⟨_, 0, none⟩ 1 1 [.bool A] rfl rfl (fun j u hu => by rw [addr_add0]; exact (RowAt.new _ [.bool A] _).cell j u hu) (fun u hu => by simp at hu; subst hu; rfl) E1.out E2.out (by simp; omega) ?_; intro v' w12 hown6 hg6 hn6))
          have BY := below_call BX.out (Below.alloc (Below.refl _ _) (Nat.le_refl _) (.cells #[.bool A] 4))
          refine ⟨⟨k + 1, by have := HK.out; omega, rfl, ?_, ?_⟩, by have := HK.out; simp [intOf]; omega⟩
          · rw [HKS.out nd HND.out, List.length_append, boolsV_app, ← HA2.out]; exact hown6
          · exact (HB.out.trans (BY.mono bl2)).grown hg6 (by have := BY.size; omega) (fun x hx => by obtain rfl := Option.some.inj hx; exact hgb)
    · obtain rfl : k = ns.length := by omega
      have hKn : K = knL ns := by rw [HK0.out, HKE.out rfl]
      have ho := own_base OWN.out (Nat.le_succ w.heap.size)
      rw [hKn] at ho
      have HO := Lib.hid ho
      have HKN := Lib.hid hKn
      clear hkl ho hKn
      go_wp2_with fail
      go_ret
      exact ⟨_, rfl, HBW.out, by have := HO.out; rw [← HKN.out] at this ⊢; exact this⟩
theorem own_lenB {w : World} {base n : Nat} {v : Value} {L : List Bool} (h : w.ownsRow base 4 1 v n (boolsV L)) (hn : n = L.length) : w.ownsRow base 4 1 v L.length (boolsV L) := by rw [← hn]; exact h
set_option maxHeartbeats 4000000 in
theorem bools_same (U V c d : Nat) (L : List Bool) (w : World) (hl : L.length ≤ 100000) (hU : U < w.heap.size) (hV : V < w.heap.size) (h1 : ∀ j, j < L.length → w.cell? ⟨U, j, none⟩ = some (.bool (L.getD j false))) (h2 : ∀ j, j < L.length → w.cell? ⟨V, j, none⟩ = some (.bool (L.getD j false))) :
    Calls Tryz.prog 8 #[.slice (some ⟨U, 0, none⟩) L.length c, .slice (some ⟨V, 0, none⟩) L.length d] w fun e w' => e = .returned (.bool true) ∧ Below w.heap.size w w' := by
  have H1 := Lib.hid h1
  have H2 := Lib.hid h2
  have hli : (L.length : Int) ≤ 100000 := by omega
  clear h1 h2
  go_enter Tryz.func8, Tryz.ntmps8
  go_wp2_with fail
  go_loopw [5] (fun s5 wr => ∃ k : Nat, k ≤ L.length ∧ s5 = .int .i64 k ∧ Below w.heap.size w wr) (fun s5 _ => L.length - (intOf s5).toNat)
  case atStart => exact ⟨0, Nat.zero_le _, rfl, Below.refl _ _⟩
  case round =>
    obtain ⟨k, hk, rfl, hB⟩ := hrel
    have HB := Lib.hid hB
    clear hB
    by_cases hkl : k < L.length
    · have a1 := (HB.out.cell (p := ⟨U, k, none⟩) hU).trans (H1.out k hkl)
      have a2 := (HB.out.cell (p := ⟨V, k, none⟩) hV).trans (H2.out k hkl)
      have u1 := Nat.lt_of_lt_of_le hU HB.out.size
      have u2 := Nat.lt_of_lt_of_le hV HB.out.size
      have kl0 : (0 : Int) ≤ (k : Int) := by omega
      have kl1 : (k : Int) < (L.length : Int) := by omega
      have HK := Lib.hid hkl
      generalize L.getD k false = q at *
      clear hkl
      go_upto_region 6 with fail
      go_region
      all_goals go_wp2_with fail
      all_goals exact ⟨⟨k + 1, by have := HK.out; omega, rfl, HB.out.drew⟩, by have := HK.out; simp [intOf]; omega⟩
    · obtain rfl : k = L.length := by omega
      clear hkl
      go_wp2_with fail
      go_ret
      exact ⟨rfl, HB.out⟩
end Go.Proofs.YthapoiplejbckaaGreat
