/- The document's Fuse. -/
import Derived.Test.YtdbfakllcaojcaaFS
import Derived.Test.YtdbfakllcaojcaaFuC
import Derived.Test.YtdbfakllcaojcaaFB
import Derived.Test.YtdbfakllcaojcaaFuF
import Derived.Test.YtdbfakllcaojcaaRsH
import Derived.Deep.DeepCutAuto
namespace Go.Proofs.Ytdbfakllcaojcaa
open Go Go.RowKit
set_option linter.unusedVariables false
set_option linter.unusedSimpArgs false
set_option maxRecDepth 100000

set_option maxHeartbeats 2000000 in
theorem rclamp_any (x a b : Int) (w : World) : Calls Try.prog 42 #[.int .i32 x, .int .i32 a, .int .i32 b] w fun e w' => e = .returned (.int .i32 (clampI x a b)) ∧ w' = w := by
  by_cases h1 : x < a
  · have h1b : decide (x < a) = true := by simpa using h1
    have hc : clampI x a b = a := by unfold clampI; rw [if_pos h1]
    rw [hc]
    clear h1 hc
    go_enter Try.func42, Try.ntmps42
    go_wp2_with fail
    go_ret
    exact ⟨rfl, rfl⟩
  · have h1b : decide (x < a) = false := by simpa using h1
    by_cases h2 : b < x
    · have h2b : decide (b < x) = true := by simpa using h2
      have hc : clampI x a b = b := by unfold clampI; rw [if_neg h1, if_pos h2]
      rw [hc]
      clear h1 h2 hc
      go_enter Try.func42, Try.ntmps42
      go_wp2_with fail
      go_ret
      exact ⟨rfl, rfl⟩
    · have h2b : decide (b < x) = false := by simpa using h2
      have hc : clampI x a b = x := by unfold clampI; rw [if_neg h1, if_neg h2]
      rw [hc]
      clear h1 h2 hc
      go_enter Try.func42, Try.ntmps42
      go_wp2_with fail
      go_ret
      exact ⟨rfl, rfl⟩
/-- what the document's Fuse tells of a sound network -/
def RfPost (g : GrQ) (w : World) (e : Ending) (w' : World) : Prop :=
  Below w.heap.size w w' ∧ ∃ (ma : Option Addr) (mc : Nat) (S : FuS), S = fuN ⟨g.ns, usesR g, 0⟩ g.ns.length ∧ e = .returned (.tuple #[.agg #[.int .i64 g.x, .int .i64 g.y, .int .i64 g.z, .slice g.ca g.C.length g.cc, .slice ma g.ns.length mc, .int .i64 g.o], .int .i64 S.m]) ∧ NdsIn w' ma S.ns mc
set_option maxHeartbeats 8000000 in
theorem rfuse_any (g : GrQ) (w : World) (hC : CnsIn w g.ca g.C g.cc) (hN : NdsIn w g.na g.ns g.nc) (hn : g.ns.length ≤ 1000) (hs : (graphE g.gr).1 = 0) :
    Calls Try.prog 17 #[g.val] w (RfPost g w) := by
  obtain ⟨T, Z, Z0, NL⟩ := node_type
  have hL := NL.load
  have hAl := NL.alloc
  have hSt := NL.store
  have tA := NL.agg
  have tS := NL.size
  have tZ := NL.zero
  obtain ⟨i1, z1, hi1, hz1, hz2, hz3, hz4⟩ : ∃ i z, Try.prog.info? 57 = some i ∧ i.zero = some z ∧ i.size = 26 ∧ i.bytes = 200 ∧ z.cells.size = 26 := ⟨(Try.prog.info? 57).get!, (Try.prog.info? 57).get!.zero.get!, by kernel_rfl, by kernel_rfl, by kernel_rfl, by kernel_rfl, by kernel_rfl⟩
  have WFN := Lib.hid (nds_wf hN)
  obtain ⟨fr, hfr, -⟩ := fuI_start (g := g.gr) (L := usesR g) hs (usesR_len g) (fun i hi => usesR_at g hs i hi)
  obtain ⟨R, hR⟩ : ∃ r, r = usesR g := ⟨_, rfl⟩
  unfold RfPost
  rw [← hR] at hfr ⊢
  obtain ⟨gx, gy, gz, ca, cc, C, na, nc, ns, go⟩ := g
  unfold GrQ.val
  dsimp only at *
  obtain ⟨F, hF⟩ : ∃ F : Nat → FuS, F = fuN ⟨ns, R, 0⟩ := ⟨_, rfl⟩
  have HF := Lib.hid hF
  have FI := Lib.hid (fun (k : Nat) (hk : k ≤ ns.length) => (by rw [hF]; exact fuN_inv hfr rfl k hk : FuI (C.map CnQ.cn) go _ fr ns.length (F k) ∧ (F k).m ≤ k))
  have F0 := Lib.hid (show F 0 = ⟨ns, R, 0⟩ by rw [hF]; rfl)
  have FS := Lib.hid (show ∀ k, F (k + 1) = fuStep (F k) k by intro k; rw [hF]; rfl)
  have R0 := RowAt.new w [.int .i64 gx, .int .i64 gy, .int .i64 gz, .slice ca C.length cc, .slice na ns.length nc, .int .i64 go] 26
  have hal := Below.alloc (Below.refl (w.alloc (.cells #[.int .i64 gx, .int .i64 gy, .int .i64 gz, .slice ca C.length cc, .slice na ns.length nc, .int .i64 go] 26)).heap.size (w.alloc (.cells #[.int .i64 gx, .int .i64 gy, .int .i64 gz, .slice ca C.length cc, .slice na ns.length nc, .int .i64 go] 26))) (Nat.le_refl _) (.cells #[.int .i64 0, .int .i64 0, .int .i64 0, .slice none 0 0, .slice none 0 0, .int .i64 0] 26)
  have R1 := RowAt.new (w.alloc (.cells #[.int .i64 gx, .int .i64 gy, .int .i64 gz, .slice ca C.length cc, .slice na ns.length nc, .int .i64 go] 26)) [.int .i64 0, .int .i64 0, .int .i64 0, .slice none 0 0, .slice none 0 0, .int .i64 0] 26
  rw [size_alloc1] at R1
  have RG := Lib.hid (R0.over hal)
  have RZ := Lib.hid R1
  have BW := Lib.hid (below_call (Below.alloc (Below.refl w.heap.size w) (Nat.le_refl _) (.cells #[.int .i64 gx, .int .i64 gy, .int .i64 gz, .slice ca C.length cc, .slice na ns.length nc, .int .i64 go] 26)) hal)
  have HN := Lib.hid hN
  have hnl := hN.1
  rw [List.length_map] at hnl
  have hcb : nc ≤ 9223372036854775807 := hN.2.1
  clear R0 R1 hal hC hN hR hF hfr
  go_enter Try.func17, Try.ntmps17
  simp only [hL, hAl, hSt]
  clear hL hAl hSt
  go_upto_region 1 with fail
  generalize (w.alloc (.cells #[.int .i64 gx, .int .i64 gy, .int .i64 gz, .slice ca C.length cc, .slice na ns.length nc, .int .i64 go] 26)).alloc (.cells #[.int .i64 0, .int .i64 0, .int .i64 0, .slice none 0 0, .slice none 0 0, .int .i64 0] 26) = W1 at *
  have r0 := RG.out.cell 0 _ rfl
  have r1 := RG.out.cell 1 _ rfl
  have r2 := RG.out.cell 2 _ rfl
  have r3 := RG.out.cell 3 _ rfl
  have r4 := RG.out.cell 4 _ rfl
  have r5 := RG.out.cell 5 _ rfl
  have rl := RG.out.lt
  have R4 := Lib.hid (RowAt.new W1 [.int .i64 gx, .int .i64 gy, .int .i64 gz, .slice ca C.length cc, .slice na ns.length nc, .int .i64 go] 26)
  have RG2 := Lib.hid (RG.out.over (Below.alloc (Below.refl W1.heap.size W1) (Nat.le_refl _) (.cells #[.int .i64 gx, .int .i64 gy, .int .i64 gz, .slice ca C.length cc, .slice na ns.length nc, .int .i64 go] 26)))
  have RZ2 := Lib.hid (RZ.out.over (Below.alloc (Below.refl W1.heap.size W1) (Nat.le_refl _) (.cells #[.int .i64 gx, .int .i64 gy, .int .i64 gz, .slice ca C.length cc, .slice na ns.length nc, .int .i64 go] 26)))
  have B12 := Lib.hid (Below.alloc (Below.refl W1.heap.size W1) (Nat.le_refl _) (.cells #[.int .i64 gx, .int .i64 gy, .int .i64 gz, .slice ca C.length cc, .slice na ns.length nc, .int .i64 go] 26))
  go_upto_region 2 with fail
  clear r0 r1 r2 r3 r4 r5 rl
  generalize W1.alloc (.cells #[.int .i64 gx, .int .i64 gy, .int .i64 gz, .slice ca C.length cc, .slice na ns.length nc, .int .i64 go] 26) = W2 at *
  have q4 := R4.out.cell 4 _ rfl
  have qf4 := R4.out.fr 4
  have ql := R4.out.lt
  have r4 := RG2.out.cell 4 _ rfl
  have rl := RG2.out.lt
  have hw1 : w.heap.size + 1 < W1.heap.size := RZ.out.lt
  have OE := Lib.hid (own_emptyT W2 W2.heap.size 57 26 (Nat.le_refl _))
  have BL := Lib.hid (Below.alloc (Below.refl W2.heap.size W2) (Nat.le_refl _) (.cells #[] 57))
  go_cut [] (fun wx => ∃ (NB mc : Nat), RowAt wx W1.heap.size [.int .i64 gx, .int .i64 gy, .int .i64 gz, .slice ca C.length cc, .slice (some ⟨NB, 0, none⟩) ns.length mc, .int .i64 go] ∧ RowAt wx NB (nd26 ns) ∧ W2.heap.size ≤ NB ∧ ns.length ≤ mc ∧ mc ≤ 9223372036854775807 ∧ Below W1.heap.size W1 wx)
  case first =>
    have r4L := (RG2.out.over BL.out).cell 4 _ rfl
    have rlL := (RG2.out.over BL.out).lt
    have R4L := Lib.hid (R4.out.over BL.out)
    have q4L := R4L.out.cell 4 _ rfl
    have qf4L := R4L.out.fr 4
    have qlL := R4L.out.lt
    by_cases h0 : ns.length = 0
    · have hns : nd26 ns = [] := by rw [List.eq_nil_of_length_eq_zero h0]; rfl
      have HNS := Lib.hid hns
      have HZ := Lib.hid h0
      rw [h0] at r4L
      clear hns r4 h0
      go_wp2_with (at_builtin; refine wpList_append_zero rfl (.tmp 10) (.tmp 12) 24 rfl 57 i1 z1 Try.underlying24 hi1 hz1 W2.heap.size rfl na nc rfl ?_)
      go_meet
      refine ⟨W2.heap.size, 0, ?_, ?_, Nat.le_refl _, by have := HZ.out; omega, by omega, Below.alloc (Below.setCell B12.out (show W1.heap.size ≤ W1.heap.size from Nat.le_refl _) _) (by simp; omega) _⟩
      · rw [HZ.out]; exact (R4.out.set 4 _ (by show 4 < 6; omega) rfl).over (Below.alloc (Below.refl _ _) (Nat.le_refl _) _)
      · rw [HNS.out]
        have := RowAt.new (W2.setCell ⟨W1.heap.size, 4, none⟩ (.slice (some ⟨W2.heap.size, 0, none⟩) 0 0)) [] 57
        simpa using this
    · have hpos : 0 < ns.length := by omega
      obtain ⟨b, off, hna, hb⟩ : ∃ b off, na = some ⟨b, off, none⟩ ∧ b < w.heap.size := by
        obtain ⟨n, hn⟩ : ∃ n, ns[0]? = some n := ⟨_, List.getElem?_eq_getElem hpos⟩
        obtain ⟨b, off, h1, h2, _⟩ := nds_range HN.out 0 n hn
        exact ⟨b, off, h1, h2⟩
      subst hna
      have hnw := nds_news HN.out (below_call BW.out (B12.out.trans (BL.out.mono B12.out.size))) ns.length
      rw [List.take_length] at hnw
      have NW := Lib.hid hnw
      have NO := Lib.hid (show ∀ u ∈ nd26 ns, u.oneCell' = true from fun u hu => by obtain ⟨n, _, hn⟩ := List.mem_flatMap.1 hu; exact Nd.one n u hn)
      have NLn := Lib.hid (nd26_len ns)
      have E1 := Lib.hid (show 0 + ns.length ≤ maxLen by unfold maxLen; omega)
      have E2 := Lib.hid (show (0 + ns.length) * 200 ≤ 140737488355328 by omega)
      have NE1 := Lib.hid (show some W1.heap.size ≠ (Value.slice (some ⟨W2.heap.size, 0, none⟩) 0 0).ownBlock by simp [Value.ownBlock]; omega)
      have NE4 := Lib.hid (show ∀ x, (Value.slice (some ⟨W2.heap.size, 0, none⟩) 0 0).ownBlock = some x → W2.heap.size ≤ x by intro x hx; simp [Value.ownBlock] at hx; omega)
      have HPO := Lib.hid hpos
      clear h0 hnw r4 hpos
      go_wp2_with (at_builtin; refine wpList_append_own _ rfl (.tmp 10) (.tmp 12) 24 rfl W2.heap.size 57 i1 z1 26 200 Try.underlying24 hi1 hz1 hz2 hz3 hz4 (by decide) _ 0 [] rfl OE.out ⟨b, off, none⟩ ns.length nc (nd26 ns) rfl NLn.out NW.out NO.out E1.out E2.out (by simp) ?_; intro v' w6 hown6 hg6 hn6; rw [Nat.zero_add, List.nil_append] at hown6; obtain ⟨gn, cn, rfl⟩ := own_shapeN hown6 HPO.out; have R46 := Lib.hid (R4L.out.far hg6 NE1.out); have O6 := Lib.hid hown6; have B6 := Lib.hid (BL.out.grown hg6 BL.out.size NE4.out); clear hown6 hg6 hn6; have u4 := R46.out.cell 4 _ rfl; have uf4 := R46.out.fr 4; have ul4 := R46.out.lt)
      go_meet
      obtain ⟨l1, l2, l3, l4, _⟩ := own_lt O6.out
      exact ⟨gn, cn, R46.out.set 4 _ (by show 4 < 6; omega) rfl, (row_of_own O6.out).aside _ _ _ (by omega), l1, l3, by unfold maxLen at l4; omega, Below.setCell (below_call B12.out B6.out) (show W1.heap.size ≤ W1.heap.size from Nat.le_refl _) _⟩
  case rest =>
    obtain ⟨NB, mc, hr4, hrN, hNB, hmc1, hmc2, hbz⟩ := hcut
    generalize wc = wz at *
    have RP := Lib.hid hr4
    have RN := Lib.hid hrN
    have BZ := Lib.hid (below_call BW.out hbz)
    have RZz := Lib.hid (RZ.out.over hbz)
    clear hr4 hrN hbz q4 qf4 ql r4 rl
    have hPN : W1.heap.size ≠ NB := by have := R4.out.lt; omega
    have hNw : w.heap.size ≤ NB := by have := R4.out.lt; omega
    have hNz : w.heap.size + 1 ≠ NB := by have := R4.out.lt; have := RZ.out.lt; omega
    go_wp2_with fail
    go_loopw [5, 6] (fun s5 s6 wr => ∃ k : Nat, k ≤ ns.length ∧ s6 = .int .i64 k ∧ s5 = .int .i64 (F k).m ∧ RowAt wr NB (nd26 (F k).ns) ∧ (∀ n ∈ (F k).ns, AreInts kN n.cells) ∧ K2 NB NB wz wr) (fun _ s6 _ => ns.length - (intOf s6).toNat)
    case atStart => exact ⟨0, Nat.zero_le _, rfl, by rw [F0.out]; rfl, by rw [F0.out]; exact RN.out, by rw [F0.out]; exact WFN.out, K2.refl _ _ _⟩
    case round =>
      obtain ⟨k, hk, rfl, rfl, hrn, hai, hK⟩ := hrel
      have HROW := Lib.hid hrn
      have HAI := Lib.hid hai
      have HK2 := Lib.hid hK
      have HPr := Lib.hid (RP.out.k2 hK hPN hPN)
      have p4 := HPr.out.cell 4 _ rfl
      have pl := HPr.out.lt
      clear hrn hai hK
      by_cases hkl : k < ns.length
      · obtain ⟨hI, hm⟩ := FI.out k hk
        have HI := Lib.hid hI
        have HM := Lib.hid hm
        obtain ⟨n, hn1⟩ : ∃ n, (F k).ns[k]? = some n := ⟨_, List.getElem?_eq_getElem (by rw [hI.len]; exact hkl)⟩
        obtain ⟨_, ⟨a0, a1⟩, hnum⟩ := hI.node hn1
        have HNUM := Lib.hid hnum
        have tR := NL.read n wr NB (k * 26) (fun j u hu => node_range HROW.out hn1 j u hu)
        have tL := NL.len n
        have tB := NL.st1 n wr
        have hb7 : Below wr.heap.size wr (wr.alloc (.cells n.cells.toArray T)) := Below.alloc (Below.refl _ _) (Nat.le_refl _) _
        have HB7 := Lib.hid hb7
        have HP7 := Lib.hid (HPr.out.over hb7)
        have HN7 := Lib.hid (HROW.out.over hb7)
        have HBX := Lib.hid (RowAt.new wr n.cells T)
        have kl0 : (0 : Int) ≤ (k : Int) := by omega
        have kl1 : (k : Int) < (ns.length : Int) := by omega
        have HKL := Lib.hid hkl
        have HA0 := Lib.hid (show 0 ≤ n.a ∧ n.a < (k : Int) + 1 from ⟨a0, a1⟩)
        have HN1 := Lib.hid hn1
        have eF : fuStep (F k) k = if canB (F k).L (F k).ns n = true then ⟨(F k).ns.set k (brought ((F k).ns.getD (n.a.toNat - 1) default) n), addAll 1 (addAll (-1) (F k).L (insN n)) (insN (brought ((F k).ns.getD (n.a.toNat - 1) default) n)), (F k).m + 1⟩ else F k := by
          have en : (F k).ns.getD k default = n := by simp [List.getD, hn1]
          unfold fuStep
          simp only [en]
        have EF := Lib.hid ((FS.out k).trans eF)
        clear hI hm hn1 hnum hkl a0 a1 eF
        go_upto_region 7 with fail
        clear tR tB p4 pl hb7
        generalize wr.alloc (.cells n.cells.toArray T) = W7 at *
        have p0 := HP7.out.cell 0 _ rfl
        have p1 := HP7.out.cell 1 _ rfl
        have p2 := HP7.out.cell 2 _ rfl
        have p3 := HP7.out.cell 3 _ rfl
        have p5 := HP7.out.cell 5 _ rfl
        have p4 := HP7.out.cell 4 _ rfl
        have pl := HP7.out.lt
        have e0 : W7.cell? ⟨wr.heap.size, 0, none⟩ = some (.int .i64 n.op) := HBX.out.cell 0 _ rfl
        have e1 : W7.cell? ⟨wr.heap.size, 1, none⟩ = some (.int .i64 n.a) := HBX.out.cell 1 _ rfl
        have el := HBX.out.lt
        have K7 := Lib.hid (HK2.out.trans (K2.of_below (U := NB) (X := NB) HB7.out))
        by_cases q9 : n.op = 9
        case neg =>
          have HEQ := Lib.hid (show F (k + 1) = F k by rw [EF.out, if_neg (by unfold canB; simp [q9])])
          have q9b : (n.op != 9) = true := by simpa using q9
          clear q9
          go_wp2_with fail
          exact ⟨⟨k + 1, HKL.out, rfl, by rw [HEQ.out], by rw [HEQ.out]; exact HN7.out, by rw [HEQ.out]; exact HAI.out, K7.out⟩, by have := HKL.out; simp [intOf]; omega⟩
        have q9b : (n.op != 9) = false := by simpa using q9
        by_cases qa : n.a < 1
        case pos =>
          have HEQ := Lib.hid (show F (k + 1) = F k by rw [EF.out, if_neg (by unfold canB; simp [show ¬ 0 < n.a by omega])])
          have qab : decide (n.a < 1) = true := by simpa using qa
          clear qa q9
          go_wp2_with fail
          exact ⟨⟨k + 1, HKL.out, rfl, by rw [HEQ.out], by rw [HEQ.out]; exact HN7.out, by rw [HEQ.out]; exact HAI.out, K7.out⟩, by have := HKL.out; simp [intOf]; omega⟩
        have qab : decide (n.a < 1) = false := by simpa using qa
        obtain ⟨c, hcc⟩ : ∃ c : Nat, n.a = (c : Int) + 1 := ⟨n.a.toNat - 1, by omega⟩
        have hcN : c < ns.length := by have := HA0.out; omega
        have hct : n.a.toNat = c + 1 := by omega
        have eN : (F k).ns.length = ns.length := HI.out.len
        have RU := ruses_any ⟨gx, gy, gz, ca, cc, C, some ⟨NB, 0, none⟩, mc, (F k).ns, go⟩ W7 ((c : Int) + 1) (nds_row HN7.out (by rw [eN]; exact hmc1) hmc2 HAI.out) (by show (F k).ns.length ≤ 1000; rw [eN]; exact hn)
        unfold GrQ.val at RU
        dsimp only at RU
        rw [eN] at RU
        have huse : (F k).L.getD (c + 1) 0 = ((usesV go (F k).ns ((c : Int) + 1) : Nat) : Int) := by
          have := HI.out.uses (c + 1) (by omega)
          rw [this]; push_cast; rfl
        obtain ⟨u, hu⟩ : ∃ u, u = usesV go (F k).ns ((c : Int) + 1) := ⟨_, rfl⟩
        rw [← hu] at RU huse
        have RUH := Lib.hid RU
        have HUSE := Lib.hid huse
        have HCT := Lib.hid hct
        rw [hcc] at e1 qab
        have cl0 : (0 : Int) ≤ (c : Int) := by omega
        have cl1 : (c : Int) < (ns.length : Int) := by omega
        have HCC := Lib.hid hcc
        have HQ9 := Lib.hid q9
        clear RU huse hct hu qa q9 hcc eN
        by_cases qu : (u : Int) = 1
        case neg =>
          have HEQ := Lib.hid (show F (k + 1) = F k by rw [EF.out, if_neg (by unfold canB; rw [HCT.out, HUSE.out]; simp [qu])])
          have qub : ((u : Int) != 1) = true := by simpa using qu
          clear qu
          go_wp2_with (go_at_call 14; (with_reducible refine RUH.out.mono ?_); rintro e w8 ⟨rfl, hb8⟩; have HB8 := Lib.hid hb8; clear hb8)
          exact ⟨⟨k + 1, HKL.out, rfl, by rw [HEQ.out], by rw [HEQ.out]; exact HN7.out.over HB8.out, by rw [HEQ.out]; exact HAI.out, K7.out.trans (K2.of_below HB8.out)⟩, by have := HKL.out; simp [intOf]; omega⟩
        have qub : ((u : Int) != 1) = false := by simpa using qu
        obtain ⟨m, hm1⟩ : ∃ m, (F k).ns[c]? = some m := ⟨_, List.getElem?_eq_getElem (by have := HI.out.len; omega)⟩
        have hmd : (F k).ns.getD (n.a.toNat - 1) default = m := by rw [HCT.out]; simp [List.getD, hm1]
        have hmop : 1 ≤ m.op ∧ m.op ≤ 14 := (nodeE_ok.1 (HI.out.node hm1).1).1
        have LH := Lib.hid (fun W => rhas_l m.op hmop.1 hmop.2 W)
        have ew : IntKind.i64.wrap ((c : Int) + 1 - 1) = (c : Int) := by simp [IntKind.wrap, IntKind.signed, IntKind.bits]; omega
        have ew2 : (c : Int) + 1 - 1 = (c : Int) := by omega
        have HM1 := Lib.hid hm1
        by_cases ql : hL m.op = true
        case neg =>
          have HEQ := Lib.hid (show F (k + 1) = F k by rw [EF.out, if_neg (by unfold canB; rw [hmd]; simp [ql])])
          have qlf : hL m.op = false := by simpa using ql
          rw [qlf] at LH
          clear ql qlf qu hm1 hmd hmop
          go_wp2_with (first | (go_at_call 14; (with_reducible refine RUH.out.mono ?_); rintro e w8 ⟨rfl, hb8⟩; have HB8 := Lib.hid hb8; have p48 := (HP7.out.over hb8).cell 4 _ rfl; have pl8 := (HP7.out.over hb8).lt; have e18 : w8.cell? ⟨wr.heap.size, 1, none⟩ = some (.int .i64 ((c : Int) + 1)) := HCC.out ▸ (HBX.out.over hb8).cell 1 (.int .i64 n.a) rfl; have el8 := (HBX.out.over hb8).lt; have m8 : w8.cell? ⟨NB, c * 26, none⟩ = some (.int .i64 m.op) := (HN7.out.over hb8).cell (c * 26) _ (nd26_at _ c m HM1.out 0 _ rfl); have ml8 := (HN7.out.over hb8).lt; clear hb8) | (go_at_call 41; (with_reducible refine (LH.out _).mono ?_); rintro e w9 ⟨rfl, hb9⟩; have HB9 := Lib.hid hb9; clear hb9))
          exact ⟨⟨k + 1, HKL.out, rfl, by rw [HEQ.out], by rw [HEQ.out]; exact (HN7.out.over HB8.out).over HB9.out, by rw [HEQ.out]; exact HAI.out, (K7.out.trans (K2.of_below HB8.out)).trans (K2.of_below HB9.out)⟩, by have := HKL.out; simp [intOf]; omega⟩
        have HEQ := Lib.hid (show F (k + 1) = ⟨(F k).ns.set k (brought m n), addAll 1 (addAll (-1) (F k).L (insN n)) (insN m), (F k).m + 1⟩ by
          rw [EF.out, hmd, if_pos (by unfold canB; rw [hmd, HCT.out, HUSE.out, HQ9.out, qu, ql, HCC.out]; simp), brought_ins])
        rw [ql] at LH
        have BM := bounds_of (HI.out.node hm1).2.2
        have BN := bounds_of HNUM.out
        have tLm := NL.len m
        clear ql qu hm1 hmd hmop
        go_upto_region 8 with (first | (go_at_call 14; (with_reducible refine RUH.out.mono ?_); rintro e w8 ⟨rfl, hb8⟩; have HB8 := Lib.hid hb8; have p48 := (HP7.out.over hb8).cell 4 _ rfl; have pl8 := (HP7.out.over hb8).lt; have e18 : w8.cell? ⟨wr.heap.size, 1, none⟩ = some (.int .i64 ((c : Int) + 1)) := HCC.out ▸ (HBX.out.over hb8).cell 1 (.int .i64 n.a) rfl; have el8 := (HBX.out.over hb8).lt; have m8 : w8.cell? ⟨NB, c * 26, none⟩ = some (.int .i64 m.op) := (HN7.out.over hb8).cell (c * 26) _ (nd26_at _ c m HM1.out 0 _ rfl); have ml8 := (HN7.out.over hb8).lt; clear hb8) | (go_at_call 41; (with_reducible refine (LH.out _).mono ?_); rintro e w9 ⟨rfl, hb9⟩; have HB9 := Lib.hid hb9; clear hb9))
        have HP9 := Lib.hid ((HP7.out.over HB8.out).over HB9.out)
        have HBX9 := Lib.hid ((HBX.out.over HB8.out).over HB9.out)
        have HN9 := Lib.hid ((HN7.out.over HB8.out).over HB9.out)
        clear p48 pl8 e18 el8 m8 ml8 p0 p1 p2 p3 p5 p4 pl e0 e1 el
        have p49 := HP9.out.cell 4 _ rfl
        have pl9 := HP9.out.lt
        have e19 : w9.cell? ⟨wr.heap.size, 1, none⟩ = some (.int .i64 ((c : Int) + 1)) := by rw [← HCC.out]; exact HBX9.out.cell 1 _ rfl
        have el9 := HBX9.out.lt
        have tRm := NL.read m w9 NB (c * 26) (fun j u hu => node_range HN9.out HM1.out j u hu)
        have tBm := NL.st1 m w9
        go_upto_region 9 with fail
        have hal9 : Below w9.heap.size w9 (w9.alloc (.cells m.cells.toArray T)) := Below.alloc (Below.refl _ _) (Nat.le_refl _) _
        have HB10 := Lib.hid (RowAt.new w9 m.cells T)
        have HBX10 := Lib.hid (HBX9.out.over hal9)
        have HP10 := Lib.hid (HP9.out.over hal9)
        have HN10 := Lib.hid (HN9.out.over hal9)
        have K10 := Lib.hid (((K7.out.trans (K2.of_below HB8.out)).trans (K2.of_below HB9.out)).trans (K2.of_below (U := NB) (X := NB) hal9))
        clear hal9 tRm tBm p49 pl9 e19 el9
        obtain ⟨W10, hW10⟩ : ∃ W, W = w9.alloc (.cells m.cells.toArray T) := ⟨_, rfl⟩
        rw [← hW10] at HB10 HBX10 HP10 HN10 K10 ⊢
        clear hW10
        have CL := Lib.hid (fun x a b W => rclamp_any x a b W)
        have v1 : IntKind.i32.wrap m.lo = m.lo := by simp [IntKind.wrap, IntKind.signed, IntKind.bits]; omega
        have v2 : IntKind.i32.wrap m.hi = m.hi := by simp [IntKind.wrap, IntKind.signed, IntKind.bits]; omega
        have v3 : IntKind.i32.wrap n.lo = n.lo := by simp [IntKind.wrap, IntKind.signed, IntKind.bits]; omega
        have v4 : IntKind.i32.wrap n.hi = n.hi := by simp [IntKind.wrap, IntKind.signed, IntKind.bits]; omega
        have c1 := clampI_in (x := m.lo) BN.2.2
        have c2 := clampI_in (x := m.hi) BN.2.2
        have v5 : IntKind.i64.wrap (clampI m.lo n.lo n.hi) = clampI m.lo n.lo n.hi := by simp [IntKind.wrap, IntKind.signed, IntKind.bits]; omega
        have v6 : IntKind.i64.wrap (clampI m.hi n.lo n.hi) = clampI m.hi n.lo n.hi := by simp [IntKind.wrap, IntKind.signed, IntKind.bits]; omega
        go_cut [] (fun wx => RowAt wx w9.heap.size (brought m n).cells ∧ W10.grownBy wx (some w9.heap.size))
        case first =>
                    have b12 := HB10.out.lt
                    have PS := Lib.hid (show ∀ W', Below W10.heap.size W10 W' → (fun w' => w'.cell? ⟨w9.heap.size, 18, none⟩ = some (.int .i64 m.lo) ∧ w'.cell? ⟨w9.heap.size, 19, none⟩ = some (.int .i64 m.hi) ∧ w'.cell? ⟨wr.heap.size, 18, none⟩ = some (.int .i64 n.lo) ∧ w'.cell? ⟨wr.heap.size, 19, none⟩ = some (.int .i64 n.hi) ∧ Below W10.heap.size W10 w') W' from fun W' hb => ⟨(HB10.out.over hb).cell 18 _ rfl, (HB10.out.over hb).cell 19 _ rfl, (HBX10.out.over hb).cell 18 _ rfl, (HBX10.out.over hb).cell 19 _ rfl, hb⟩)
                    have RB := Lib.hid HB10.out
                    have c18 := RB.out.cell 18 _ rfl
                    have c19 := RB.out.cell 19 _ rfl
                    have f18 := RB.out.fr 18
                    have f19 := RB.out.fr 19
                    refine wp_region_heldD (S := fun w' => w'.cell? ⟨w9.heap.size, 18, none⟩ = some (.int .i64 m.lo) ∧ w'.cell? ⟨w9.heap.size, 19, none⟩ = some (.int .i64 m.hi) ∧ w'.cell? ⟨wr.heap.size, 18, none⟩ = some (.int .i64 n.lo) ∧ w'.cell? ⟨wr.heap.size, 19, none⟩ = some (.int .i64 n.hi) ∧ Below W10.heap.size W10 w') (D := [23, 24, 25]) (by kernel_rfl) ?_
                    have hHeld : (fun w' => w'.cell? ⟨w9.heap.size, 18, none⟩ = some (.int .i64 m.lo) ∧ w'.cell? ⟨w9.heap.size, 19, none⟩ = some (.int .i64 m.hi) ∧ w'.cell? ⟨wr.heap.size, 18, none⟩ = some (.int .i64 n.lo) ∧ w'.cell? ⟨wr.heap.size, 19, none⟩ = some (.int .i64 n.hi) ∧ Below W10.heap.size W10 w') _ := PS.out _ (Below.refl W10.heap.size W10).drew
                    refine wpAnyD_takeP (i := 0) (oi := _) (v := ?v0) rfl (by kernel_rfl) (by kernel_rfl) (by kernel_rfl) (fun _ _ _ h => h) (Or.inl ⟨by rfl, ?y0⟩) ?_
                    case y0 => (intro wq hSw; go_simp; try with_reducible rfl)
                    try simp only [Act.put, List.getElem_toArray, List.getElem_cons_zero, List.setIfInBounds_toArray, List.set_cons_zero, List.set_cons_succ]
                    refine wpAnyD_take [] (i := 1) (oi := _) (v := ?v1) rfl (by kernel_rfl) (by kernel_rfl) (by kernel_rfl) (by kernel_rfl) (by kernel_rfl) (fun _ _ _ h => h) (Or.inl ⟨by rfl, ?y1⟩) hHeld ?_
                    case y1 => (intro wq hSw; (try dsimp only at hSw); go_simp; try with_reducible rfl)
                    try simp only [Act.put, List.getElem_toArray, List.getElem_cons_zero, List.getElem_cons_succ, List.setIfInBounds_toArray, List.set_cons_zero, List.set_cons_succ]
                    refine wpAnyD_takeP (i := 2) (oi := _) (v := ?v2) rfl (by kernel_rfl) (by kernel_rfl) (by kernel_rfl) (fun _ _ _ h => h) (Or.inl ⟨by rfl, ?y2⟩) ?_
                    case y2 => (intro wq hSw; go_simp; try with_reducible rfl)
                    try simp only [Act.put, List.getElem_toArray, List.getElem_cons_zero, List.getElem_cons_succ, List.setIfInBounds_toArray, List.set_cons_zero, List.set_cons_succ]
                    refine wpAnyD_takeP (i := 3) (oi := _) (v := ?v3) rfl (by kernel_rfl) (by kernel_rfl) (by kernel_rfl) (fun _ _ _ h => h) (Or.inl ⟨by rfl, ?y3⟩) ?_
                    case y3 => (intro wq hSw; go_simp; try with_reducible rfl)
                    try simp only [Act.put, List.getElem_toArray, List.getElem_cons_zero, List.getElem_cons_succ, List.setIfInBounds_toArray, List.set_cons_zero, List.set_cons_succ]
                    refine wpAnyD_take [] (i := 4) (oi := _) (v := ?v4) rfl (by kernel_rfl) (by kernel_rfl) (by kernel_rfl) (by kernel_rfl) (by kernel_rfl) (fun _ _ _ h => h) (Or.inl ⟨by rfl, ?y4⟩) hHeld ?_
                    case y4 => (intro wq hSw; (try dsimp only at hSw); go_simp; try with_reducible rfl)
                    try simp only [Act.put, List.getElem_toArray, List.getElem_cons_zero, List.getElem_cons_succ, List.setIfInBounds_toArray, List.set_cons_zero, List.set_cons_succ]
                    refine wpAnyD_takeP (i := 5) (oi := _) (v := ?v5) rfl (by kernel_rfl) (by kernel_rfl) (by kernel_rfl) (fun _ _ _ h => h) (Or.inl ⟨by rfl, ?y5⟩) ?_
                    case y5 => (intro wq hSw; go_simp; try with_reducible rfl)
                    try simp only [Act.put, List.getElem_toArray, List.getElem_cons_zero, List.getElem_cons_succ, List.setIfInBounds_toArray, List.set_cons_zero, List.set_cons_succ]
                    refine wpAnyD_takeP (i := 6) (oi := _) (v := ?v6) rfl (by kernel_rfl) (by kernel_rfl) (by kernel_rfl) (fun _ _ _ h => h) (Or.inl ⟨by rfl, ?y6⟩) ?_
                    case y6 => (intro wq hSw; go_simp; try with_reducible rfl)
                    try simp only [Act.put, List.getElem_toArray, List.getElem_cons_zero, List.getElem_cons_succ, List.setIfInBounds_toArray, List.set_cons_zero, List.set_cons_succ]
                    refine wpAnyD_take [] (i := 7) (oi := _) (v := ?v7) rfl (by kernel_rfl) (by kernel_rfl) (by kernel_rfl) (by kernel_rfl) (by kernel_rfl) (fun _ _ _ h => h) (Or.inl ⟨by rfl, ?y7⟩) hHeld ?_
                    case y7 => (intro wq hSw; (try dsimp only at hSw); go_simp; try with_reducible rfl)
                    try simp only [Act.put, List.getElem_toArray, List.getElem_cons_zero, List.getElem_cons_succ, List.setIfInBounds_toArray, List.set_cons_zero, List.set_cons_succ]
                    refine wpAnyD_takeP (i := 8) (oi := _) (v := ?v8) rfl (by kernel_rfl) (by kernel_rfl) (by kernel_rfl) (fun _ _ _ h => h) (Or.inl ⟨by rfl, ?y8⟩) ?_
                    case y8 => (intro wq hSw; go_simp; try with_reducible rfl)
                    try simp only [Act.put, List.getElem_toArray, List.getElem_cons_zero, List.getElem_cons_succ, List.setIfInBounds_toArray, List.set_cons_zero, List.set_cons_succ]
                    refine wpAnyD_takeP (i := 11) (oi := _) (v := ?v11) rfl (by kernel_rfl) (by kernel_rfl) (by kernel_rfl) (fun _ _ _ h => h) (Or.inl ⟨by rfl, ?y11⟩) ?_
                    case y11 => (intro wq hSw; go_simp; try with_reducible rfl)
                    try simp only [Act.put, List.getElem_toArray, List.getElem_cons_zero, List.getElem_cons_succ, List.setIfInBounds_toArray, List.set_cons_zero, List.set_cons_succ]
                    refine wpAnyD_take [] (i := 12) (oi := _) (v := ?v12) rfl (by kernel_rfl) (by kernel_rfl) (by kernel_rfl) (by kernel_rfl) (by kernel_rfl) (fun _ _ _ h => h) (Or.inl ⟨by rfl, ?y12⟩) hHeld ?_
                    case y12 => (intro wq hSw; (try dsimp only at hSw); go_simp; try with_reducible rfl)
                    try simp only [Act.put, List.getElem_toArray, List.getElem_cons_zero, List.getElem_cons_succ, List.setIfInBounds_toArray, List.set_cons_zero, List.set_cons_succ]
                    refine wpAnyD_takeP (i := 13) (oi := _) (v := ?v13) rfl (by kernel_rfl) (by kernel_rfl) (by kernel_rfl) (fun _ _ _ h => h) (Or.inl ⟨by rfl, ?y13⟩) ?_
                    case y13 => (intro wq hSw; go_simp; try with_reducible rfl)
                    try simp only [Act.put, List.getElem_toArray, List.getElem_cons_zero, List.getElem_cons_succ, List.setIfInBounds_toArray, List.set_cons_zero, List.set_cons_succ]
                    refine wpAnyD_takeP (i := 14) (oi := _) (v := ?v14) rfl (by kernel_rfl) (by kernel_rfl) (by kernel_rfl) (fun _ _ _ h => h) (Or.inl ⟨by rfl, ?y14⟩) ?_
                    case y14 => (intro wq hSw; go_simp; try with_reducible rfl)
                    try simp only [Act.put, List.getElem_toArray, List.getElem_cons_zero, List.getElem_cons_succ, List.setIfInBounds_toArray, List.set_cons_zero, List.set_cons_succ]
                    refine wpAnyD_take [16, 20] (i := 15) (oi := _) (v := ?v15) rfl (by kernel_rfl) (by kernel_rfl) (by kernel_rfl) (by kernel_rfl) (by kernel_rfl) (fun _ _ _ h => h) (Or.inl ⟨by rfl, ?y15⟩) hHeld ?_
                    case y15 => (intro wq hSw; (try dsimp only at hSw); go_simp; try with_reducible rfl)
                    try simp only [Act.put, List.getElem_toArray, List.getElem_cons_zero, List.getElem_cons_succ, List.setIfInBounds_toArray, List.set_cons_zero, List.set_cons_succ]
                    refine wpAnyD_takeP (i := 16) (oi := _) (v := ?v16) rfl (by kernel_rfl) (by kernel_rfl) (by kernel_rfl) (fun _ _ _ h => h) (Or.inl ⟨by rfl, ?y16⟩) ?_
                    case y16 => (intro wq hSw; go_simp; try with_reducible rfl)
                    try simp only [Act.put, List.getElem_toArray, List.getElem_cons_zero, List.getElem_cons_succ, List.setIfInBounds_toArray, List.set_cons_zero, List.set_cons_succ]
                    refine wpAnyD_takeP (i := 17) (oi := _) (v := ?v17) rfl (by kernel_rfl) (by kernel_rfl) (by kernel_rfl) (fun _ _ _ h => h) (Or.inl ⟨by rfl, ?y17⟩) ?_
                    case y17 => (intro wq hSw; go_simp; try with_reducible rfl)
                    try simp only [Act.put, List.getElem_toArray, List.getElem_cons_zero, List.getElem_cons_succ, List.setIfInBounds_toArray, List.set_cons_zero, List.set_cons_succ]
                    refine wpAnyD_take [19, 20] (i := 18) (oi := _) (v := ?v18) rfl (by kernel_rfl) (by kernel_rfl) (by kernel_rfl) (by kernel_rfl) (by kernel_rfl) (fun _ _ _ h => h) (Or.inl ⟨by rfl, ?y18⟩) hHeld ?_
                    case y18 => (intro wq hSw; (try dsimp only at hSw); go_simp; try with_reducible rfl)
                    try simp only [Act.put, List.getElem_toArray, List.getElem_cons_zero, List.getElem_cons_succ, List.setIfInBounds_toArray, List.set_cons_zero, List.set_cons_succ]
                    refine wpAnyD_takeP (i := 19) (oi := _) (v := ?v19) rfl (by kernel_rfl) (by kernel_rfl) (by kernel_rfl) (fun _ _ _ h => h) (Or.inl ⟨by rfl, ?y19⟩) ?_
                    case y19 => (intro wq hSw; go_simp; try with_reducible rfl)
                    try simp only [Act.put, List.getElem_toArray, List.getElem_cons_zero, List.getElem_cons_succ, List.setIfInBounds_toArray, List.set_cons_zero, List.set_cons_succ]
                    refine wpAnyD_step (i := 9) (o := _) (by kernel_rfl) rfl (fun K hK => ?_)
                    try simp only [Act.put, List.getElem_toArray, List.getElem_cons_zero, List.getElem_cons_succ, List.setIfInBounds_toArray, List.set_cons_zero, List.set_cons_succ]
                    go_simp
                    go_at_call 42
                    refine (CL.out m.lo n.lo n.hi _).mono ?_
                    rintro e w11 ⟨rfl, rfl⟩
                    have hHeld9 : (fun w' => w'.cell? ⟨w9.heap.size, 18, none⟩ = some (.int .i64 m.lo) ∧ w'.cell? ⟨w9.heap.size, 19, none⟩ = some (.int .i64 m.hi) ∧ w'.cell? ⟨wr.heap.size, 18, none⟩ = some (.int .i64 n.lo) ∧ w'.cell? ⟨wr.heap.size, 19, none⟩ = some (.int .i64 n.hi) ∧ Below W10.heap.size W10 w') _ := hHeld
                    refine hK.out _ _ ⟨fun _ _ => hHeld9, ?_⟩
                    clear hK K
                    try simp only [Act.put, List.getElem_toArray, List.getElem_cons_zero, List.getElem_cons_succ, List.setIfInBounds_toArray, List.set_cons_zero, List.set_cons_succ]
                    refine wpAnyD_takeP (i := 10) (oi := _) (v := ?v10) rfl (by kernel_rfl) (by kernel_rfl) (by kernel_rfl) (fun _ _ _ h => h) (Or.inl ⟨by rfl, ?y10⟩) ?_
                    case y10 => (intro wq hSw; go_simp; try with_reducible rfl)
                    try simp only [Act.put, List.getElem_toArray, List.getElem_cons_zero, List.getElem_cons_succ, List.setIfInBounds_toArray, List.set_cons_zero, List.set_cons_succ]
                    refine wpAnyD_takeP (i := 22) (oi := _) (v := ?v22) rfl (by kernel_rfl) (by kernel_rfl) (by kernel_rfl) (fun _ _ _ h => h) (Or.inl ⟨by rfl, ?y22⟩) ?_
                    case y22 => (intro wq hSw; go_simp; try with_reducible rfl)
                    try simp only [Act.put, List.getElem_toArray, List.getElem_cons_zero, List.getElem_cons_succ, List.setIfInBounds_toArray, List.set_cons_zero, List.set_cons_succ]
                    refine wpAnyD_step (i := 20) (o := _) (by kernel_rfl) rfl (fun K hK => ?_)
                    try simp only [Act.put, List.getElem_toArray, List.getElem_cons_zero, List.getElem_cons_succ, List.setIfInBounds_toArray, List.set_cons_zero, List.set_cons_succ]
                    go_simp
                    go_at_call 42
                    refine (CL.out m.hi n.lo n.hi _).mono ?_
                    rintro e w11 ⟨rfl, rfl⟩
                    have hHeld20 : (fun w' => w'.cell? ⟨w9.heap.size, 18, none⟩ = some (.int .i64 m.lo) ∧ w'.cell? ⟨w9.heap.size, 19, none⟩ = some (.int .i64 m.hi) ∧ w'.cell? ⟨wr.heap.size, 18, none⟩ = some (.int .i64 n.lo) ∧ w'.cell? ⟨wr.heap.size, 19, none⟩ = some (.int .i64 n.hi) ∧ Below W10.heap.size W10 w') _ := hHeld9
                    refine hK.out _ _ ⟨fun _ _ => hHeld20, ?_⟩
                    clear hK K
                    try simp only [Act.put, List.getElem_toArray, List.getElem_cons_zero, List.getElem_cons_succ, List.setIfInBounds_toArray, List.set_cons_zero, List.set_cons_succ]
                    refine wpAnyD_takeP (i := 21) (oi := _) (v := ?v21) rfl (by kernel_rfl) (by kernel_rfl) (by kernel_rfl) (fun _ _ _ h => h) (Or.inl ⟨by rfl, ?y21⟩) ?_
                    case y21 => (intro wq hSw; go_simp; try with_reducible rfl)
                    try simp only [Act.put, List.getElem_toArray, List.getElem_cons_zero, List.getElem_cons_succ, List.setIfInBounds_toArray, List.set_cons_zero, List.set_cons_succ]
                    refine wpAnyD_step (i := 23) (o := _) (by kernel_rfl) rfl (fun K hK => ?_)
                    try simp only [Act.put, List.getElem_toArray, List.getElem_cons_zero, List.getElem_cons_succ, List.setIfInBounds_toArray, List.set_cons_zero, List.set_cons_succ]
                    go_simp
                    refine hK.out _ _ ⟨fun h => absurd h (by decide), ?_⟩
                    clear hK K
                    try simp only [Act.put, List.getElem_toArray, List.getElem_cons_zero, List.getElem_cons_succ, List.setIfInBounds_toArray, List.set_cons_zero, List.set_cons_succ]
                    refine wpAnyD_step (i := 24) (o := _) (by kernel_rfl) rfl (fun K hK => ?_)
                    try simp only [Act.put, List.getElem_toArray, List.getElem_cons_zero, List.getElem_cons_succ, List.setIfInBounds_toArray, List.set_cons_zero, List.set_cons_succ]
                    go_simp
                    refine hK.out _ _ ⟨fun h => absurd h (by decide), ?_⟩
                    clear hK K
                    try simp only [Act.put, List.getElem_toArray, List.getElem_cons_zero, List.getElem_cons_succ, List.setIfInBounds_toArray, List.set_cons_zero, List.set_cons_succ]
                    refine wpAnyD_step (i := 25) (o := _) (by kernel_rfl) rfl (fun K hK => ?_)
                    try simp only [Act.put, List.getElem_toArray, List.getElem_cons_zero, List.getElem_cons_succ, List.setIfInBounds_toArray, List.set_cons_zero, List.set_cons_succ]
                    go_simp
                    refine hK.out _ _ ⟨fun h => absurd h (by decide), ?_⟩
                    clear hK K
                    try simp only [Act.put, List.getElem_toArray, List.getElem_cons_zero, List.getElem_cons_succ, List.setIfInBounds_toArray, List.set_cons_zero, List.set_cons_succ]
                    refine wpAnyD_done (by kernel_rfl) ?_ _
                    go_wp2_with fail
                    go_meet
                    exact ⟨by rw [← cells_brought]; exact ((RB.out.drew.set 18 (.int .i64 (clampI m.lo n.lo n.hi)) (by show 18 < 26; omega) rfl).set 19 (.int .i64 (clampI m.hi n.lo n.hi)) (by rw [List.length_set]; show 19 < 26; omega) rfl), grownN_set (grownN_set (below_grown (Below.refl W10.heap.size W10).drew _))⟩
        case rest =>
          obtain ⟨h12, hg12⟩ := hcut
          have ne1 : some W1.heap.size ≠ some w9.heap.size := by intro e; have := Option.some.inj e; have := HP9.out.lt; omega
          have ne4 : some NB ≠ some w9.heap.size := by intro e; have := Option.some.inj e; have := HN9.out.lt; omega
          have HP12 := Lib.hid (HP10.out.far hg12 ne1)
          have HN12 := Lib.hid (HN10.out.far hg12 ne4)
          have HS12 := Lib.hid hg12
          have tLb := NL.len (brought m n)
          have tRb := NL.read (brought m n) wc w9.heap.size 0 h12.range
          have hkN : k < (F k).ns.length := by rw [HI.out.len]; exact HKL.out
          have HKN := Lib.hid hkN
          clear hkN
          have tSt := (node_stored HN12.out HKN.out (brought m n)).1
          have g12 := HP12.out.cell 4 _ rfl
          have gl12 := HP12.out.lt
          have hfm : (F k).m ≤ 1000 := by have := HM.out; omega
          have hfw : IntKind.i64.wrap (((F k).m : Int) + 1) = ((F k).m : Int) + 1 := by simp [IntKind.wrap, IntKind.signed, IntKind.bits]; omega
          clear h12 hg12 ne1 ne4
          go_wp2_with fail
          refine ⟨⟨k + 1, HKL.out, rfl, by rw [HEQ.out]; simp, ?_, ?_, ?_⟩, by have := HKL.out; simp [intOf]; omega⟩
          · rw [HEQ.out]; exact (node_stored HN12.out HKN.out (brought m n)).2
          · rw [HEQ.out]
            intro x hx
            rcases List.mem_or_eq_of_mem_set hx with h | rfl
            · exact HAI.out x h
            · exact areInts_brought (HAI.out m (List.mem_of_getElem? HM1.out)) (by omega) (by omega)
          · have hsz : wz.heap.size ≤ w9.heap.size := Nat.le_trans HK2.out.size (Nat.le_trans HB7.out.size (Nat.le_trans HB8.out.size HB9.out.size))
            exact (K10.out.of_new hsz HS12.out).trans (K2.of_x (grown_setCells NB _ _ _))
      · obtain rfl : k = ns.length := by omega
        have RZr := Lib.hid (RZz.out.k2 HK2.out hNz hNz)
        have p0 := HPr.out.cell 0 _ rfl
        have p1 := HPr.out.cell 1 _ rfl
        have p2 := HPr.out.cell 2 _ rfl
        have p3 := HPr.out.cell 3 _ rfl
        have p5 := HPr.out.cell 5 _ rfl
        have z0 := RZr.out.cell 0 _ rfl
        have z1 := RZr.out.cell 1 _ rfl
        have z2 := RZr.out.cell 2 _ rfl
        have z3 := RZr.out.cell 3 _ rfl
        have z4 := RZr.out.cell 4 _ rfl
        have z5 := RZr.out.cell 5 _ rfl
        have zf0 := RZr.out.fr 0
        have zf1 := RZr.out.fr 1
        have zf2 := RZr.out.fr 2
        have zf3 := RZr.out.fr 3
        have zf4 := RZr.out.fr 4
        have zf5 := RZr.out.fr 5
        have zl := RZr.out.lt
        have kl1 : ¬ ((ns.length : Int) < (ns.length : Int)) := by omega
        have zne : w.heap.size + 1 ≠ W1.heap.size := by omega
        clear hkl
        go_wp2_with fail
        refine bodyPost_ret (results_cell_mid2 rfl _ _ (w.heap.size + 1) _ rfl (load_row (row6 RZr.out _ _ _ _ _ _) 26 _ Try.underlying26 rfl (by kernel_rfl))) rfl ?_
        have hFN := FI.out ns.length (Nat.le_refl _)
        have hBw : Below w.heap.size w wr := BZ.out.trans (HK2.out.below hNw hNw BZ.out.size)
        refine ⟨below6 hBw (Nat.le_succ _) _ _ _ _ _ _, some ⟨NB, 0, none⟩, mc, ?_⟩
        refine ⟨by rw [← HF.out]; rfl, ?_⟩
        have hr6 := (((((HROW.out.aside (w.heap.size + 1) 0 (.int .i64 gx) hNz).aside (w.heap.size + 1) 1 (.int .i64 gy) hNz).aside (w.heap.size + 1) 2 (.int .i64 gz) hNz).aside (w.heap.size + 1) 3 (.slice ca C.length cc) hNz).aside (w.heap.size + 1) 4 (.slice (some ⟨NB, 0, none⟩) ns.length mc) hNz).aside (w.heap.size + 1) 5 (.int .i64 go) hNz
        rw [← HF.out]
        exact nds_row hr6 (by rw [hFN.1.len]; exact hmc1) hmc2 HAI.out
end Go.Proofs.Ytdbfakllcaojcaa
