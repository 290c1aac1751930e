/- The document's Uses. -/
import Derived.Test.YtdbfakllcaojcaaFA
import Derived.Test.YtdbfakllcaojcaaNY
import Derived.Test.YtdbfakllcaojcaaRF
namespace Go.Proofs.Ytdbfakllcaojcaa
open Go Go.RowKit
set_option linter.unusedVariables false
set_option linter.unusedSimpArgs false
set_option maxRecDepth 100000

theorem usesNs_take {ns : List Nd} {k : Nat} {n : Nd} (v : Int) (h : ns[k]? = some n) : usesNs v (ns.take (k + 1)) = usesNs v (ns.take k) + (insN n).count v := by
  rw [take_succ_at h, usesNs_app]; simp [usesNs]
theorem count_take {l : List Int} {k : Nat} {z : Int} (v : Int) (h : l[k]? = some z) : (l.take (k + 1)).count v = (l.take k).count v + if z = v then 1 else 0 := by
  rw [take_succ_at h, List.count_append, List.count_singleton]
  by_cases e : z = v
  · subst e; simp
  · rw [if_neg e]; simp [e]
set_option maxHeartbeats 8000000 in
theorem ruses_any (g : GrQ) (w : World) (v : Int) (hN : NdsIn w g.na g.ns g.nc) (hn : g.ns.length ≤ 1000) :
    Calls Try.prog 14 #[g.val, .int .i64 v] w fun e w' => e = .returned (.int .i64 (usesV g.o g.ns v : Nat)) ∧ Below w.heap.size w w' := by
  obtain ⟨T, Z, Z0, NL⟩ := node_type
  have hL := NL.load
  have tA := NL.agg
  have tS := NL.size
  obtain ⟨gx, gy, gz, ca, cc, C, na, nc, ns, go⟩ := g
  dsimp only at *
  have HN := Lib.hid hN
  have hnl := hN.1
  rw [List.length_map] at hnl
  have hcb : nc ≤ 9223372036854775807 := hN.2.1
  unfold GrQ.val usesV
  dsimp only
  have RG := Lib.hid (RowAt.new w [.int .i64 gx, .int .i64 gy, .int .i64 gz, .slice ca C.length cc, .slice na ns.length nc, .int .i64 go] 26)
  have BW := Lib.hid (Below.alloc (Below.refl w.heap.size w) (Nat.le_refl _) (.cells #[.int .i64 gx, .int .i64 gy, .int .i64 gz, .slice ca C.length cc, .slice na ns.length nc, .int .i64 go] 26))
  clear hN
  obtain ⟨s0, hs0⟩ : ∃ s : Nat, s = (if go = v then 1 else 0) := ⟨_, rfl⟩
  rw [← hs0]
  have HS0 := Lib.hid hs0
  have hs1 : s0 ≤ 1 := by rw [hs0]; split <;> omega
  go_enter Try.func14, Try.ntmps14
  simp only [hL]
  clear hL hs0
  go_upto_region 2 with fail
  generalize w.alloc (.cells #[.int .i64 gx, .int .i64 gy, .int .i64 gz, .slice ca C.length cc, .slice na ns.length nc, .int .i64 go] 26) = W1 at *
  have b5 := RG.out.cell 5 _ rfl
  have bl := RG.out.lt
  rcases (show (go = v ∧ s0 = 1) ∨ (go ≠ v ∧ s0 = 0) by rw [HS0.out]; by_cases e : go = v <;> simp [e]) with ⟨hgv, rfl⟩ | ⟨hgv, rfl⟩
  · have hgb : (go == v) = true := by simpa using hgv
    clear hgv
    go_wp2_with fail
    go_loopw [5, 6] (fun s5 s6 wr => ∃ k : Nat, k ≤ ns.length ∧ s6 = .int .i64 k ∧ s5 = .int .i64 ((1 + usesNs v (ns.take k) : Nat) : Int) ∧ Below w.heap.size w wr ∧ RowAt wr w.heap.size [.int .i64 gx, .int .i64 gy, .int .i64 gz, .slice ca C.length cc, .slice na ns.length nc, .int .i64 go]) (fun _ s6 _ => ns.length - (intOf s6).toNat)
    case atStart => exact ⟨0, Nat.zero_le _, rfl, by simp [usesNs], BW.out, RG.out⟩
    case round =>
      obtain ⟨k, hk, rfl, rfl, hB, hrow⟩ := hrel
      have HB := Lib.hid hB
      have HR := Lib.hid hrow
      have b4 := hrow.cell 4 _ rfl
      have bl2 := hrow.lt
      have hub := usesNs_le v (ns.take k)
      have htl : (ns.take k).length ≤ 1000 := by rw [List.length_take]; omega
      have HUT := Lib.hid (fun (n : Nd) (h : ns[k]? = some n) => usesNs_take v h)
      obtain ⟨su, hsu⟩ : ∃ s, s = 1 + usesNs v (ns.take k) := ⟨_, rfl⟩
      rw [← hsu]
      have HSU := Lib.hid hsu
      have hsb : su ≤ 2001 := by omega
      clear hB hrow hub htl hsu
      by_cases hkl : k < ns.length
      · obtain ⟨nd, hnd⟩ : ∃ n, ns[k]? = some n := ⟨_, List.getElem?_eq_getElem hkl⟩
        obtain ⟨nb, noff, hna, hnb, hrg⟩ := nds_range HN.out k nd hnd
        subst hna
        have tR := NL.read nd wr nb (noff + k * 26) (fun j v hv => (HB.out.cell (p := ⟨nb, _, none⟩) hnb).trans (hrg j v hv))
        have tL := NL.len nd
        have RI := Lib.hid (fun W => rins nd W)
        have kl0 : (0 : Int) ≤ (k : Int) := by omega
        have kl1 : (k : Int) < (ns.length : Int) := by omega
        have HND := Lib.hid hnd
        have HK := Lib.hid hkl
        have hli : ((insN nd).length : Int) ≤ 2 := by have := ins_len nd; omega
        clear hrg hnd hkl
        obtain ⟨wo, hwo⟩ : ∃ W : World, W = wr := ⟨_, rfl⟩
        have HWO := Lib.hid hwo
        clear hwo
        go_wp2_with (go_at_call 28; (with_reducible refine (RI.out _).mono ?_); rintro e w4 ⟨at0, ci, rfl, hb2, hins⟩; have HB4 := Lib.hid (below_call HB.out hb2); have HR4 := Lib.hid (HR.out.over hb2); have IA := Lib.hid hins; clear hb2 hins)
        clear tR tL
        go_loopw [5, 8] (fun s5 s8 wx => ∃ j : Nat, j ≤ (insN nd).length ∧ s8 = .int .i64 j ∧ s5 = .int .i64 ((su + ((insN nd).take j).count v : Nat) : Int) ∧ Below w4.heap.size w4 wx) (fun _ s8 _ => (insN nd).length - (intOf s8).toNat)
        case atStart => exact ⟨0, Nat.zero_le _, rfl, by simp, Below.refl _ _⟩
        case round =>
          obtain ⟨j, hj, rfl, rfl, hBx⟩ := hrel
          have HBX := Lib.hid hBx
          have hcl := List.count_le_length (a := v) (l := (insN nd).take j)
          have hcl2 : ((insN nd).take j).length ≤ 2 := by rw [List.length_take]; omega
          obtain ⟨sv, hsv⟩ : ∃ s, s = su + ((insN nd).take j).count v := ⟨_, rfl⟩
          rw [← hsv]
          have HSV := Lib.hid hsv
          have hsvb : sv ≤ 2005 := by omega
          clear hBx hcl hcl2 hsv
          by_cases hjl : j < (insN nd).length
          · obtain ⟨z, hz⟩ : ∃ z, (insN nd)[j]? = some z := ⟨_, List.getElem?_eq_getElem hjl⟩
            obtain ⟨gi, hat, hgi, hgl, hc⟩ := IA.out j z hz
            subst hat
            have hc2 := (HBX.out.cell (p := ⟨gi, _, none⟩) hgl).trans hc
            have jl0 : (0 : Int) ≤ (j : Int) := by omega
            have jl1 : (j : Int) < ((insN nd).length : Int) := by omega
            have HCT := Lib.hid (count_take v hz)
            have HJ := Lib.hid hjl
            clear hc hz hjl
            by_cases hzv : z = v
            · have hzb : (z == v) = true := by simpa using hzv
              have hct := HCT.out
              rw [if_pos hzv] at hct
              have HCT2 := Lib.hid hct
              clear hzv hct
              go_wp2_with fail
              exact ⟨⟨j + 1, by have := HJ.out; omega, rfl, by rw [HCT2.out, ← Nat.add_assoc, ← HSV.out]; rfl, HBX.out⟩, by have := HJ.out; simp [intOf]; omega⟩
            · have hzb : (z == v) = false := by simpa using hzv
              have hct := HCT.out
              rw [if_neg hzv] at hct
              have HCT2 := Lib.hid hct
              clear hzv hct
              go_wp2_with fail
              exact ⟨⟨j + 1, by have := HJ.out; omega, rfl, by rw [HCT2.out, Nat.add_zero, ← HSV.out], HBX.out⟩, by have := HJ.out; simp [intOf]; omega⟩
          · obtain rfl : j = (insN nd).length := by omega
            have htk : (insN nd).take (insN nd).length = insN nd := List.take_length
            have h5 : sv = 1 + usesNs v (ns.take (k + 1)) := by
              rw [HSV.out, htk, HUT.out nd HND.out, HSU.out]; omega
            have H5 := Lib.hid h5
            clear hjl htk h5
            go_wp2_with fail
            exact ⟨⟨k + 1, by have := HK.out; omega, rfl, by rw [← H5.out], HB4.out.trans (HBX.out.mono HB4.out.size), HR4.out.over HBX.out⟩, by have := HK.out; simp [intOf]; omega⟩
      · obtain rfl : k = ns.length := by omega
        have htk : ns.take ns.length = ns := List.take_length
        have h5 : su = 1 + usesNs v ns := by rw [HSU.out, htk]
        have H5 := Lib.hid h5
        clear hkl htk h5
        go_wp2_with fail
        go_ret
        exact ⟨by rw [← H5.out]; rfl, HB.out⟩
  · have hgb : (go == v) = false := by simpa using hgv
    clear hgv
    go_wp2_with fail
    go_loopw [5, 6] (fun s5 s6 wr => ∃ k : Nat, k ≤ ns.length ∧ s6 = .int .i64 k ∧ s5 = .int .i64 ((0 + usesNs v (ns.take k) : Nat) : Int) ∧ Below w.heap.size w wr ∧ RowAt wr w.heap.size [.int .i64 gx, .int .i64 gy, .int .i64 gz, .slice ca C.length cc, .slice na ns.length nc, .int .i64 go]) (fun _ s6 _ => ns.length - (intOf s6).toNat)
    case atStart => exact ⟨0, Nat.zero_le _, rfl, by simp [usesNs], BW.out, RG.out⟩
    case round =>
      obtain ⟨k, hk, rfl, rfl, hB, hrow⟩ := hrel
      have HB := Lib.hid hB
      have HR := Lib.hid hrow
      have b4 := hrow.cell 4 _ rfl
      have bl2 := hrow.lt
      have hub := usesNs_le v (ns.take k)
      have htl : (ns.take k).length ≤ 1000 := by rw [List.length_take]; omega
      have HUT := Lib.hid (fun (n : Nd) (h : ns[k]? = some n) => usesNs_take v h)
      obtain ⟨su, hsu⟩ : ∃ s, s = 0 + usesNs v (ns.take k) := ⟨_, rfl⟩
      rw [← hsu]
      have HSU := Lib.hid hsu
      have hsb : su ≤ 2001 := by omega
      clear hB hrow hub htl hsu
      by_cases hkl : k < ns.length
      · obtain ⟨nd, hnd⟩ : ∃ n, ns[k]? = some n := ⟨_, List.getElem?_eq_getElem hkl⟩
        obtain ⟨nb, noff, hna, hnb, hrg⟩ := nds_range HN.out k nd hnd
        subst hna
        have tR := NL.read nd wr nb (noff + k * 26) (fun j v hv => (HB.out.cell (p := ⟨nb, _, none⟩) hnb).trans (hrg j v hv))
        have tL := NL.len nd
        have RI := Lib.hid (fun W => rins nd W)
        have kl0 : (0 : Int) ≤ (k : Int) := by omega
        have kl1 : (k : Int) < (ns.length : Int) := by omega
        have HND := Lib.hid hnd
        have HK := Lib.hid hkl
        have hli : ((insN nd).length : Int) ≤ 2 := by have := ins_len nd; omega
        clear hrg hnd hkl
        obtain ⟨wo, hwo⟩ : ∃ W : World, W = wr := ⟨_, rfl⟩
        have HWO := Lib.hid hwo
        clear hwo
        go_wp2_with (go_at_call 28; (with_reducible refine (RI.out _).mono ?_); rintro e w4 ⟨at0, ci, rfl, hb2, hins⟩; have HB4 := Lib.hid (below_call HB.out hb2); have HR4 := Lib.hid (HR.out.over hb2); have IA := Lib.hid hins; clear hb2 hins)
        clear tR tL
        go_loopw [5, 8] (fun s5 s8 wx => ∃ j : Nat, j ≤ (insN nd).length ∧ s8 = .int .i64 j ∧ s5 = .int .i64 ((su + ((insN nd).take j).count v : Nat) : Int) ∧ Below w4.heap.size w4 wx) (fun _ s8 _ => (insN nd).length - (intOf s8).toNat)
        case atStart => exact ⟨0, Nat.zero_le _, rfl, by simp, Below.refl _ _⟩
        case round =>
          obtain ⟨j, hj, rfl, rfl, hBx⟩ := hrel
          have HBX := Lib.hid hBx
          have hcl := List.count_le_length (a := v) (l := (insN nd).take j)
          have hcl2 : ((insN nd).take j).length ≤ 2 := by rw [List.length_take]; omega
          obtain ⟨sv, hsv⟩ : ∃ s, s = su + ((insN nd).take j).count v := ⟨_, rfl⟩
          rw [← hsv]
          have HSV := Lib.hid hsv
          have hsvb : sv ≤ 2005 := by omega
          clear hBx hcl hcl2 hsv
          by_cases hjl : j < (insN nd).length
          · obtain ⟨z, hz⟩ : ∃ z, (insN nd)[j]? = some z := ⟨_, List.getElem?_eq_getElem hjl⟩
            obtain ⟨gi, hat, hgi, hgl, hc⟩ := IA.out j z hz
            subst hat
            have hc2 := (HBX.out.cell (p := ⟨gi, _, none⟩) hgl).trans hc
            have jl0 : (0 : Int) ≤ (j : Int) := by omega
            have jl1 : (j : Int) < ((insN nd).length : Int) := by omega
            have HCT := Lib.hid (count_take v hz)
            have HJ := Lib.hid hjl
            clear hc hz hjl
            by_cases hzv : z = v
            · have hzb : (z == v) = true := by simpa using hzv
              have hct := HCT.out
              rw [if_pos hzv] at hct
              have HCT2 := Lib.hid hct
              clear hzv hct
              go_wp2_with fail
              exact ⟨⟨j + 1, by have := HJ.out; omega, rfl, by rw [HCT2.out, ← Nat.add_assoc, ← HSV.out]; rfl, HBX.out⟩, by have := HJ.out; simp [intOf]; omega⟩
            · have hzb : (z == v) = false := by simpa using hzv
              have hct := HCT.out
              rw [if_neg hzv] at hct
              have HCT2 := Lib.hid hct
              clear hzv hct
              go_wp2_with fail
              exact ⟨⟨j + 1, by have := HJ.out; omega, rfl, by rw [HCT2.out, Nat.add_zero, ← HSV.out], HBX.out⟩, by have := HJ.out; simp [intOf]; omega⟩
          · obtain rfl : j = (insN nd).length := by omega
            have htk : (insN nd).take (insN nd).length = insN nd := List.take_length
            have h5 : sv = 0 + usesNs v (ns.take (k + 1)) := by
              rw [HSV.out, htk, HUT.out nd HND.out, HSU.out]; omega
            have H5 := Lib.hid h5
            clear hjl htk h5
            go_wp2_with fail
            exact ⟨⟨k + 1, by have := HK.out; omega, rfl, by rw [← H5.out], HB4.out.trans (HBX.out.mono HB4.out.size), HR4.out.over HBX.out⟩, by have := HK.out; simp [intOf]; omega⟩
      · obtain rfl : k = ns.length := by omega
        have htk : ns.take ns.length = ns := List.take_length
        have h5 : su = 0 + usesNs v ns := by rw [HSU.out, htk]
        have H5 := Lib.hid h5
        clear hkl htk h5
        go_wp2_with fail
        go_ret
        exact ⟨by rw [← H5.out]; rfl, HB.out⟩
end Go.Proofs.Ytdbfakllcaojcaa
