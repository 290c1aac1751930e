/- Layer 6's law: Begins, up to its loops. -/
import Derived.Test.YtmlhoagcppofgaaGreatDoorGV
namespace Go.Proofs.YtmlhoagcppofgaaGreatDoor
open Go Go.RowKit Pl
set_option linter.unusedVariables false

/-- what stands before the bytes are put -/
structure BegAt (w : World) (M F R X : Nat) (r : Nat → Nat) (W : World) : Prop where
  mach : MachIs (X + 2) M 4096 r W
  mem : MemIs M F R 4096 2147483648 (noughts 256) (noughts 128) W
  rm : MachIs (X + 1) X 4096 r W
  rf : RefIs X (X + 3) 4096 256 2147483648 128 [] (.slice none 0 0) W
  bl : Below w.heap.size w W
theorem BegAt.below {w : World} {M F R X : Nat} {r : Nat → Nat} {W W' : World} (h : BegAt w M F R X r W) (hb : Below (X + 3) W W') (far : Far w.heap.size M F R X) : BegAt w M F R X r W' := by
  have fm := far.m; have ff := far.f; have fr := far.r
  have o : Out (fun j => X + 3 ≤ j) W W' := ⟨hb.os, hb.tape, hb.output, hb.size, fun j _ hs => hb.block j (by omega)⟩
  exact { mach := h.mach.out o (by omega), mem := h.mem.out o (by omega) (by omega) (by omega), rm := h.rm.out o (by omega), rf := h.rf.out o (by omega) (fun j hj => by cases hj), bl := h.bl.trans (hb.mono (by omega)) }
theorem setB_nil (l : List Nat) : setB l 0 [] = l := by simp [setB]
theorem rgs_zero (l : List Nat) : rgs l 0 = fun _ => 0 := by funext k; unfold rgs; rw [if_neg (by omega)]
theorem news_words (W : World) (x : Nat) (t : TypeId) : ∀ j u, ((wordB x).map u8G)[j]? = some u → (W.alloc (.cells #[.int .u8 ((x : Int) % 256), .int .u8 ((x : Int) / 256 % 256), .int .u8 ((x : Int) / 65536 % 256), .int .u8 ((x : Int) / 16777216)] t)).cell? ((⟨W.heap.size, 0, none⟩ : Addr).add j) = some u :=
  by
  have e : (wordB x).map u8G = (#[.int .u8 ((x : Int) % 256), .int .u8 ((x : Int) / 256 % 256), .int .u8 ((x : Int) / 65536 % 256), .int .u8 ((x : Int) / 16777216)] : Array Value).toList := by simp [wordB, u8G]
  intro j u hj
  rw [e] at hj
  exact World.news_of_block (cs := #[.int .u8 ((x : Int) % 256), .int .u8 ((x : Int) / 256 % 256), .int .u8 ((x : Int) / 65536 % 256), .int .u8 ((x : Int) / 16777216)]) (t := t) (fr := (0, 0)) (heap_alloc_new W _) j u hj
theorem res_three (P : Program) {a b c : Value} : True := trivial
theorem info_u8B : (Tryz.prog.info? 5).map (fun i => (i.zero, i.size, i.bytes)) = some (some (.int .u8 0), 1, 1) := by kernel_rfl
set_option maxRecDepth 100000 in
set_option maxHeartbeats 4000000 in
theorem begins_any (w : World) (a0 : Option Addr) (c0 : Nat) (l0 : List Nat) (h0 : WordsIn w a0 l0) (a1 : Option Addr) (c1 : Nat) (l1 : List Nat) (h1 : WordsIn w a1 l1) :
    Calls Tryz.prog 5 #[.slice a0 l0.length c0, .slice a1 l1.length c1] w fun e w' => ∃ M F R X, e = .returned (.tuple #[.pointer (some ⟨X + 2, 0, none⟩), .pointer (some ⟨X + 1, 0, none⟩), .bool true]) ∧ Duo w M F R X (begF l0) (begS l1) (begS l1) 240 w' := by
  obtain ⟨i0, hi, hz0, hz1, hz2⟩ := info_parts info_u8B
  have H0 := Lib.hid h0
  have H1 := Lib.hid h1
  have hl0 := h0.2.1
  have hl1 := h1.2.1
  clear h0 h1
  go_enter Tryz.func5, Tryz.ntmps5
  go_wp2_with fail
  refine (map_any w).mono ?_
  rintro e w1 ⟨rfl, b1⟩
  have B1 := Lib.hid b1
  clear b1
  go_wp2_with fail
  refine (new_live w1).mono ?_
  rintro e w3 ⟨M, F, R, rfl, hM, hF, hR, m1, m2, m3, hFR, hMF, hMR, l1', l2', l3', b3⟩
  have HM := Lib.hid (mem_new (f := 4096) (n1 := 256) (r := 2147483648) (n2 := 128) hM hF hR ⟨hFR, hMF, hMR⟩)
  have B3 := Lib.hid (B1.out.trans (b3.mono B1.out.size))
  have q1 : w.heap.size ≤ M := Nat.le_trans B1.out.size m1
  have q2 : w.heap.size ≤ F := Nat.le_trans B1.out.size m2
  have q3 : w.heap.size ≤ R := Nat.le_trans B1.out.size m3
  clear hM hF hR b3 m1 m2 m3 B1
  go_wp2_with fail
  refine (map_any w3).mono ?_
  rintro e w4 ⟨rfl, b4⟩
  have HB4 := Lib.hid b4
  have hz4 := b4.size
  clear b4
  go_upto_region 5 with (fail)
  obtain ⟨g1, g2, g3⟩ := two_alloc w4 (.cells #[.int .u32 4096, .int .u32 256, .int .u32 2147483648, .int .u32 128, .slice none 0 0] 52)
    (.cells #[.pointer (some ⟨w4.heap.size, 0, none⟩), .int .u32 4096, .int .u32 0, .int .u32 0, .int .u32 0, .int .u32 0, .int .u32 0, .int .u32 0, .int .u32 0, .int .u32 0, .int .u32 0, .int .u32 0, .int .u32 0, .int .u32 0, .int .u32 0, .int .u32 0, .int .u32 0, .int .u32 0, .int .u32 0, .int .u32 0, .int .u32 0, .int .u32 0, .int .u32 0, .int .u32 0, .int .u32 0, .int .u32 0, .int .u32 0, .int .u32 0, .int .u32 0, .int .u32 0, .int .u32 0, .int .u32 0, .int .u32 0, .int .u32 0] 55)
  have MC : Mac ⟨w4.heap.size, 0, none⟩ ((4096 : Nat) : Int) (fun _ => 0) #[.pointer (some ⟨w4.heap.size, 0, none⟩), .int .u32 4096, .int .u32 0, .int .u32 0, .int .u32 0, .int .u32 0, .int .u32 0, .int .u32 0, .int .u32 0, .int .u32 0, .int .u32 0, .int .u32 0, .int .u32 0, .int .u32 0, .int .u32 0, .int .u32 0, .int .u32 0, .int .u32 0, .int .u32 0, .int .u32 0, .int .u32 0, .int .u32 0, .int .u32 0, .int .u32 0, .int .u32 0, .int .u32 0, .int .u32 0, .int .u32 0, .int .u32 0, .int .u32 0, .int .u32 0, .int .u32 0, .int .u32 0, .int .u32 0] := ⟨rfl, rfl, rfl, fun k hk => by
    match k, hk with
    | 0, _ | 1, _ | 2, _ | 3, _ | 4, _ | 5, _ | 6, _ | 7, _ | 8, _ | 9, _ | 10, _ | 11, _ | 12, _ | 13, _ | 14, _ | 15, _ | 16, _ | 17, _ | 18, _ | 19, _ | 20, _ | 21, _ | 22, _ | 23, _ | 24, _ | 25, _ | 26, _ | 27, _ | 28, _ | 29, _ | 30, _ | 31, _ => rfl
    | n + 32, h => exact absurd h (by omega)⟩
  have G1 := Lib.hid g1
  have G2 := Lib.hid (mach_new MC g2 (by omega))
  have G3 := Lib.hid g3
  have sz5 : ((w4.alloc (.cells #[.int .u32 4096, .int .u32 256, .int .u32 2147483648, .int .u32 128, .slice none 0 0] 52)).alloc (.cells #[.pointer (some ⟨w4.heap.size, 0, none⟩), .int .u32 4096, .int .u32 0, .int .u32 0, .int .u32 0, .int .u32 0, .int .u32 0, .int .u32 0, .int .u32 0, .int .u32 0, .int .u32 0, .int .u32 0, .int .u32 0, .int .u32 0, .int .u32 0, .int .u32 0, .int .u32 0, .int .u32 0, .int .u32 0, .int .u32 0, .int .u32 0, .int .u32 0, .int .u32 0, .int .u32 0, .int .u32 0, .int .u32 0, .int .u32 0, .int .u32 0, .int .u32 0, .int .u32 0, .int .u32 0, .int .u32 0, .int .u32 0, .int .u32 0] 55)).heap.size = w4.heap.size + 2 := by simp
  clear g1 g2 g3 MC
  generalize World.alloc _ _ = W5 at *
  go_wp2_with fail
  refine (cnew_any ⟨M, 0, none⟩ 4096 W5).mono ?_
  rintro e w6 ⟨cs, rfl, hmac, rfl⟩
  have C6 := Lib.hid (mach_new (pc := 4096) (W := W5.alloc (.cells cs 85)) hmac (heap_alloc_new W5 _) (by omega))
  have bl6 : Below W5.heap.size W5 (W5.alloc (.cells cs 85)) := (Below.refl _ _).alloc (Nat.le_refl _) _
  have Y6 := Lib.hid (G2.out.below bl6)
  have X6 := Lib.hid ((bl6.block w4.heap.size (by omega)).trans G1.out)
  have B6 := Lib.hid (G3.out.trans (bl6.mono (by omega)))
  have sz6 : (W5.alloc (.cells cs 85)).heap.size = w4.heap.size + 3 := by simp; omega
  clear hmac bl6 G1 G2 G3
  generalize hC : W5.heap.size = C at *
  generalize World.alloc _ _ = W6 at *
  obtain rfl : C = w4.heap.size + 2 := by omega
  have D6 := Lib.hid (show BegAt w M F R w4.heap.size (fun _ => 0) W6 from
    { mach := C6.out
      mem := (HM.out.out (.of_below (fun _ => False) HB4.out) id id id).out (.of_below (fun _ => False) B6.out) id id id
      rm := Y6.out
      rf := ref_new X6.out (by omega)
      bl := (B3.out.trans (HB4.out.mono B3.out.size)).trans (B6.out.mono (Nat.le_trans B3.out.size hz4)) })
  have FAR := Lib.hid (show Far w.heap.size M F R w4.heap.size from ⟨⟨q1, by omega⟩, ⟨q2, by omega⟩, ⟨q3, by omega⟩, hMF, hMR, hFR⟩)
  clear HM B3 HB4 hz4 C6 Y6 X6 B6 sz5 q1 q2 q3 l1' l2' l3' hMF hMR hFR
  generalize w4.heap.size = X at *
  go_upto_region 7 with (fail)
  have OWN0 := Lib.hid (show (W6.alloc (.cells #[] 5)).ownsRow (X + 3) 5 1 (.slice (some ⟨X + 3, 0, none⟩) 0 0) 0 [] from
    ⟨rfl, Or.inr ⟨X + 3, 0, #[], rfl, Nat.le_refl _, by rw [← sz6]; exact heap_alloc_new _ _, Nat.le_refl _, by simp [maxLen], rfl, rfl⟩⟩)
  have BA0 := Lib.hid (show Below W6.heap.size W6 (W6.alloc (.cells #[] 5)) from (Below.refl _ _).alloc (Nat.le_refl _) _)
  generalize hW7 : World.alloc _ _ = W7 at *
  clear hW7
  go_wp2_with fail
  go_loopw [11, 12] (fun bv i wr => ∃ m : Nat, m ≤ l0.length ∧ m ≤ 60 ∧ i = .int .i64 m ∧ wr.ownsRow (X + 3) 5 1 bv (4 * m) ((wordsB (l0.take m)).map u8G) ∧ Below W6.heap.size W6 wr) (fun _ i _ => l0.length - (intOf i).toNat)
  case atStart => exact ⟨0, by omega, by omega, rfl, OWN0.out, BA0.out⟩
  case round =>
    obtain ⟨m, hm, hm60, rfl, hown, hbl⟩ := hrel
    have HO := Lib.hid hown
    have HB := Lib.hid hbl
    clear hown hbl OWN0 BA0
    rcases (show (m < l0.length ∧ m < 60) ∨ (m < l0.length ∧ m = 60) ∨ m = l0.length by omega) with ⟨hlt, h60⟩ | hend
    case inl =>
      obtain ⟨b, off, rfl, hbw, hcell⟩ : ∃ b off, a0 = some ⟨b, off, none⟩ ∧ b < w.heap.size ∧ ∀ k, k < l0.length → w.cell? ⟨b, off + k, none⟩ = some (.int .u32 (l0.getD k 0 : Nat)) := by
        rcases H0.out.2.2 with h | h
        · subst h; simp at hlt
        · exact h
      have bw := D6.out.bl.trans (HB.out.mono (by have := D6.out.bl.size; omega))
      have cw := (bw.cell (p := ⟨b, off + m, none⟩) hbw).trans (hcell m hlt)
      have x32 := getD_lt32 H0.out.1 m
      have T := Lib.hid (wordsB_next hlt)
      clear hcell bw
      generalize l0.getD m 0 = x at *
      have OWN := Lib.hid (fun (cs : Array Value) (t : TypeId) => HO.out.alloc (.cells cs t))
      have xs1 := HB.out.size
      go_wp2_with (at_builtin; refine wpList_append_own _ rfl _ _ 57 rfl (X + 3) 5 i0 (.int .u8 0) 1 1 Tryz.underlying57 hi hz0 hz1 hz2 rfl Nat.one_pos u11 (4 * m) ((wordsB (l0.take m)).map u8G) rfl (OWN.out _ _) ⟨wr.heap.size, 0, none⟩ 4 4 ((wordB x).map u8G) rfl rfl (news_words wr x _) (u8G_one _) (by unfold maxLen; omega) (by omega) (by simp; omega) ?_; intro v' w8 hown hg hn)
      have T2 := Lib.hid (show w8.ownsRow (X + 3) 5 1 v' (4 * (m + 1)) ((wordsB (l0.take (m + 1))).map u8G) by rw [T.out, List.map_append, show 4 * (m + 1) = 4 * m + 4 by omega]; exact hown)
      have B8 := Lib.hid (show Below W6.heap.size W6 w8 from (HB.out.alloc HB.out.size _).grown hg (Nat.le_trans HB.out.size (by simp)) (fun k hk => by
        have := (HO.out.lt k hk).1
        omega))
      clear hown hg hn HO HB
      go_wp2_with fail
      go_roundw
      case rel => exact ⟨m + 1, by omega, by omega, by go_num, T2.out, B8.out⟩
      case measure => first | (simp [intOf]; done) | (simp [intOf]; omega)
    have T60 : l0.take m = l0.take 60 := by
      rcases hend with ⟨_, rfl⟩ | rfl
      · rfl
      · rw [List.take_of_length_le (Nat.le_refl _), List.take_of_length_le hm60]
    have HR := Lib.hid (show wr.ownsRow (X + 3) 5 1 u11 (wordsB (l0.take 60)).length ((wordsB (l0.take 60)).map u8G) by
      have k := HO.out
      rw [T60] at k
      have e : (wordsB (l0.take 60)).length = 4 * m := by rw [← T60, wordsB_len, List.length_take]; omega
      rw [e]; exact k)
    have A9 := Lib.hid (D6.out.below (by rw [← sz6]; exact HB.out) FAR.out)
    have LB := Lib.hid (show (wordsB (l0.take 60)).length ≤ 240 by rw [wordsB_len, List.length_take]; omega)
    have L256 := Lib.hid (wordsB_lt (l := l0.take 60) fun x hx => H0.out.1 x (List.mem_of_mem_take hx))
    have BF := Lib.hid (show begF l0 = setB (noughts 256) 0 (wordsB (l0.take 60)) from rfl)
    have sz9 := HB.out.size
    clear HO HB D6 T60
    generalize wordsB (l0.take 60) = bs at *
    obtain ⟨W9, rfl⟩ : ∃ W9 : World, W9 = wr := ⟨_, rfl⟩
    rcases hend with ⟨hlt, rfl⟩ | rfl
    · go_wp2_with fail
      go_loopw [14] (fun i wr => ∃ m2 : Nat, m2 ≤ l1.length ∧ m2 ≤ 31 ∧ i = .int .i64 m2 ∧ BegAt w M F R X (rgs l1 m2) wr ∧ Out (fun j => j = X + 1 ∨ j = X + 2) W9 wr) (fun i _ => l1.length - (intOf i).toNat)
      case atStart => exact ⟨0, by omega, by omega, rfl, by rw [rgs_zero]; exact A9.out, .refl _ _⟩
      case round =>
        obtain ⟨m2, hm2, hm31, rfl, hA, hO⟩ := hrel
        have HA := Lib.hid hA
        have HO := Lib.hid hO
        clear hA hO A9
        rcases (show (m2 < l1.length ∧ m2 < 31) ∨ (m2 < l1.length ∧ m2 = 31) ∨ m2 = l1.length by omega) with ⟨hlt2, h31⟩ | hend
        case inl =>
          obtain ⟨b2, off2, rfl, hbw, hcell⟩ : ∃ b off, a1 = some ⟨b, off, none⟩ ∧ b < w.heap.size ∧ ∀ k, k < l1.length → w.cell? ⟨b, off + k, none⟩ = some (.int .u32 (l1.getD k 0 : Nat)) := by
            rcases H1.out.2.2 with h | h
            · subst h; simp at hlt2
            · exact h
          have cw := (HA.out.bl.cell (p := ⟨b2, off2 + m2, none⟩) hbw).trans (hcell m2 hlt2)
          have x32 := getD_lt32 H1.out.1 m2
          have RN := Lib.hid (rgs_next l1 m2)
          have hbX : b2 ≠ X + 1 := by have := FAR.out.m; omega
          clear hcell
          generalize l1.getD m2 0 = x at *
          obtain ⟨d, hd⟩ : ∃ d : Nat, d = m2 + 1 := ⟨_, rfl⟩
          have hdi : (m2 : Int) + 1 = (d : Int) := by omega
          have hd1 : (1 : Int) ≤ (d : Int) := by omega
          have hd0 : (0 : Int) ≤ (d : Int) := by omega
          have hd32 : (d : Int) < 32 := by omega
          have hd32n : d < 32 := by omega
          have HDW : IntKind.i64.wrap ((m2 : Int) + 1) = (d : Int) := by rw [hdi]; exact IntWalk.i64_in _ (by omega)
          have cy := HA.out.rm.c d hd32n
          have fy := HA.out.rm.fz (2 + d) (by omega)
          have m2l : (m2 : Int) < (l1.length : Int) := by omega
          have m20 : (0 : Int) ≤ (m2 : Int) := by omega
          have CWD : wr.drew.cell? ⟨b2, off2 + m2, none⟩ = some (.int .u32 (x : Nat)) := cw
          have CWS : ∀ v, (wr.setCell ⟨X + 1, 2 + d, none⟩ v).drew.cell? ⟨b2, off2 + m2, none⟩ = some (.int .u32 (x : Nat)) := fun v => by
            show (wr.setCell ⟨X + 1, 2 + d, none⟩ v).cell? ⟨b2, off2 + m2, none⟩ = _
            rw [World.cell?_setCell_other (h := fun e => hbX (by injection e with e1 _ _; omega))]
            exact cw
          have HD := Lib.hid (show d = m2 + 1 from hd)
          clear hd hdi
          go_wp2_with fail
          go_region_held3 (fun w' => w'.cell? ⟨b2, off2 + m2, none⟩ = some (.int .u32 (x : Nat)))
            (first | (with_reducible assumption) | (with_reducible exact CWS _))
            (fail)
          clear CWD CWS
          generalize hV : World.drew _ = V
          have hV' : (wr.setCell ⟨X + 1, 2 + d, none⟩ (.int .u32 (x : Nat))).drew = V := hV
          have ov : Out (· = X + 1) wr V := by rw [← hV']; exact (out_cell _ _ _ _).trans ((like_drew (LikeG.refl _)).out _)
          have rm := (HA.out.rm.setReg d x (by omega) hd32n x32).like (like_drew (LikeG.refl _))
          rw [hV'] at rm
          have fm := FAR.out.m; have ff := FAR.out.f; have fr := FAR.out.r
          have MC := Lib.hid (HA.out.mach.out ov (by omega))
          have MM := Lib.hid (HA.out.mem.out ov (by omega) (by omega) (by omega))
          have MR := Lib.hid rm
          have MX := Lib.hid (HA.out.rf.out ov (by omega) (fun j hj => by cases hj))
          have MB := Lib.hid (show Below w.heap.size w V from ov.below HA.out.bl (Nat.le_refl _) (fun j e => by subst e; omega))
          have MO := Lib.hid (HO.out.trans (ov.mono fun j e => Or.inl e))
          have cw : V.cell? ⟨b2, off2 + m2, none⟩ = some (.int .u32 (x : Nat)) := (ov.cell (p := ⟨b2, off2 + m2, none⟩) (by show b2 < wr.heap.size; have := HA.out.bl.size; omega) hbX).trans cw
          clear hV hV' ov rm cy fy HA HO fm ff fr
          have hdi : (m2 : Int) + 1 = (d : Int) := by have := HD.out; omega
          go_wp2_with fail
          refine (mset_any MC.out d x hd32n x32).mono ?_
          rintro e w8 ⟨rfl, k1, k2⟩
          have fm := FAR.out.m; have ff := FAR.out.f; have fr := FAR.out.r
          have A8 := Lib.hid (show BegAt w M F R X (rgs l1 d) w8 by
            have rn := RN.out
            rw [← HD.out] at rn
            rw [rn] at k1
            have mr := MR.out
            rw [rn] at mr
            exact { mach := k1, mem := MM.out.out k2 (by omega) (by omega) (by omega), rm := mr.out k2 (by omega), rf := MX.out.out k2 (by omega) (fun j hj => by cases hj), bl := k2.below MB.out (Nat.le_refl _) (fun j e => by subst e; omega) })
          have O8 := Lib.hid (MO.out.trans (k2.mono fun j e => Or.inr e))
          clear k1 k2 MC MM MR MX MB MO cw fm ff fr
          go_wp2_with fail
          go_roundw
          case rel => exact ⟨d, by have := HD.out; omega, by have := HD.out; omega, by have := HD.out; go_num, A8.out, O8.out⟩
          case measure => have := HD.out; first | (simp [intOf]; done) | (simp [intOf]; omega)
        have E2 : m2 = min 31 l1.length := by omega
        have A2 := Lib.hid (show BegAt w M F R X (begS l1).r wr by show BegAt w M F R X (rgs l1 (min 31 l1.length)) wr; rw [← E2]; exact HA.out)
        have OWB := Lib.hid (show wr.ownsRow (X + 3) 5 1 u11 bs.length (bs.map u8G) from HO.out.row HR.out (fun j hj g => by have := (HR.out.lt j hj).1; omega))
        clear E2 HA HO HR
        have c0 := A2.out.rm.c0
        rcases hend with ⟨hlt2, rfl⟩ | rfl
        · rcases Nat.eq_zero_or_pos bs.length with hn | hn
          · obtain ⟨adr, cc, rfl⟩ : ∃ adr cc, u11 = .slice adr 0 cc := by
              rcases OWB.out.2 with ⟨h, _⟩ | ⟨g, cap, cur, h, _⟩
              · exact ⟨none, 0, h⟩
              · rw [hn] at h; exact ⟨_, cap, h⟩
            obtain rfl : bs = [] := List.eq_nil_of_length_eq_zero hn
            have RP := Lib.hid (rput_nil A2.out.rf 4096 adr cc)
            go_wp2_with fail
            refine RP.out.mono ?_
            rintro e w8 ⟨rfl, v8, hr8, ho8, hf8⟩
            have fm := FAR.out.m; have ff := FAR.out.f; have fr := FAR.out.r
            have D8 := Lib.hid (show Duo w M F R X (begF l0) (begS l1) (begS l1) 240 w8 by
              have e0 : begF l0 = noughts 256 := by rw [BF.out]; exact setB_nil _
              have n8 : ∀ j, j ≠ X → ¬ RS X (.slice none 0 0) j := fun j hj g => by rcases g with g | g; exact hj g; cases g
              rw [e0]
              exact { mach := A2.out.mach.out ho8 (n8 _ (by omega)), mem := A2.out.mem.out ho8 (n8 _ (by omega)) (n8 _ (by omega)) (n8 _ (by omega)), rm := A2.out.rm.out ho8 (n8 _ (by omega))
                      rf := ⟨[], v8, by rw [noughts_len, show (begS l1).b.length = 128 from noughts_len _]; exact hr8, agree_new _ _ _ _, by simp⟩
                      lf := noughts_len _, ls := noughts_len _, ls' := noughts_len _, sb' := noughts_lt _, far := FAR.out
                      bl := ho8.below A2.out.bl (Nat.le_refl _) (fun j g => by rcases g with g | g; omega; cases g) })
            clear hr8 ho8 hf8 fm ff fr A2 RP
            go_wp2_with fail
            refine (mput_nil M 4096 adr cc w8).mono ?_
            rintro e w9 ⟨rfl, hl9⟩
            go_wp2_with fail
            refine bodyPost_ret (v := .tuple #[.pointer (some ⟨X + 2, 0, none⟩), .pointer (some ⟨X + 1, 0, none⟩), .bool true]) (by simp [results, Tryz.results5, go_sem]) rfl ⟨M, F, R, X, rfl, D8.out.like hl9⟩
          · obtain ⟨g, cc, rfl⟩ : ∃ g cc, u11 = .slice (some ⟨g, 0, none⟩) bs.length cc := by
              rcases OWB.out.2 with ⟨_, h⟩ | ⟨g, cap, cur, h, _⟩
              · omega
              · exact ⟨g, cap, h⟩
            have hg3 := (OWB.out.lt g rfl).1
            have lb := LB.out
            have CE := Lib.hid (OWB.out.cells (g := g) rfl)
            have hwin : wIn 4096 256 2147483648 128 4096 bs.length = true := by
              unfold wIn
              rw [show inB 4096 256 4096 bs.length = true from decide_eq_true (by omega)]
              rfl
            have HAS : HasIs X 4096 bs.length true wr := by
              have k := has_any A2.out.rf banks_map 4096 bs.length (by omega) (by omega)
              rw [hwin] at k
              exact k
            have RP := Lib.hid (rput_in A2.out.rf 4096 bs g 0 cc hn (by omega) L256.out (by simp; omega) HAS
              (fun j x hj => by
                have k := CE.out j (u8G x) (by rw [List.getElem?_map, hj]; rfl)
                have e : (⟨g, 0, none⟩ : Addr).add j = ⟨g, 0 + j, none⟩ := by unfold Addr.add; split <;> simp_all
                rw [e] at k
                exact k)
              (fun q => by rcases q with q | q; omega; cases q))
            clear HAS
            go_wp2_with fail
            refine RP.out.mono ?_
            rintro e w8 ⟨rfl, v8, hr8, ho8, hf8⟩
            have fm := FAR.out.m; have ff := FAR.out.f; have fr := FAR.out.r
            have n8 : ∀ j, j ≠ X → ¬ RS X (.slice none 0 0) j := fun j hj g => by rcases g with g | g; exact hj g; cases g
            have OW8 := Lib.hid (show w8.ownsRow (X + 3) 5 1 (.slice (some ⟨g, 0, none⟩) bs.length cc) bs.length (bs.map u8G) from ho8.row OWB.out (fun j hj => n8 j (by have := (OWB.out.lt j hj).1; omega)))
            have K8 := Lib.hid (show MachIs (X + 2) M 4096 (begS l1).r w8 ∧ MemIs M F R 4096 2147483648 (noughts 256) (noughts 128) w8 ∧ MachIs (X + 1) X 4096 (begS l1).r w8 ∧ Below w.heap.size w w8 from
              ⟨A2.out.mach.out ho8 (n8 _ (by omega)), A2.out.mem.out ho8 (n8 _ (by omega)) (n8 _ (by omega)) (n8 _ (by omega)), A2.out.rm.out ho8 (n8 _ (by omega)), ho8.below A2.out.bl (Nat.le_refl _) (fun j g => by rcases g with g | g; omega; cases g)⟩)
            have R8 := Lib.hid hr8
            clear hr8 ho8 hf8 fm ff fr A2 RP n8 CE OWB
            have MP := Lib.hid (show Calls Tryz.prog 15 #[.pointer (some ⟨M, 0, none⟩), .int .u32 4096, .slice (some ⟨g, 0, none⟩) bs.length cc] w8 fun e w' => e = .returned (.bool true) ∧ MemIs M F R 4096 2147483648 (setB (noughts 256) 0 bs) (noughts 128) w' ∧ Out (fun j => j = F ∨ j = R) w8 w' by
              have k := K8.out.2.1.put (by rw [noughts_len, noughts_len]; exact banks_map) 4096 bs (by omega) hn (by omega) L256.out ⟨g, 0, none⟩ cc (OW8.out.cells (g := g) rfl)
              have i1 : inB 4096 256 4096 bs.length = true := decide_eq_true (by omega)
              rw [noughts_len, noughts_len, hwin] at k
              unfold putF putRm at k
              rw [if_pos i1, if_pos i1] at k
              exact k)
            go_wp2_with fail
            refine MP.out.mono ?_
            rintro e w9 ⟨rfl, hm9, ho9⟩
            have fm := FAR.out.m; have ff := FAR.out.f; have fr := FAR.out.r
            have D9 := Lib.hid (show Duo w M F R X (begF l0) (begS l1) (begS l1) 240 w9 by
              have ag := agree_flash (agree_new 4096 256 2147483648 128) (by rw [noughts_len, noughts_len]; omega) 0 bs (by rw [noughts_len]; omega)
              have sl : (setB (noughts 256) 0 bs).length = 256 := by rw [setB_length _ _ _ (by rw [noughts_len]; omega), noughts_len]
              rw [BF.out]
              exact { mach := K8.out.1.out ho9 (by omega), mem := hm9, rm := K8.out.2.2.1.out ho9 (by omega)
                      rf := ⟨[] ++ writes 4096 bs, v8, by rw [sl, show (begS l1).b.length = 128 from noughts_len _]; exact R8.out.out ho9 (by omega) (fun j hj => by have := (R8.out.own_lt j hj).1; omega), ag, by rw [List.nil_append, writes_length]; exact lb⟩
                      lf := sl, ls := noughts_len _, ls' := noughts_len _, sb' := noughts_lt _, far := FAR.out
                      bl := ho9.below K8.out.2.2.2 (Nat.le_refl _) (fun j g => by omega) })
            clear hm9 ho9 fm ff fr K8 R8 OW8 MP
            go_wp2_with fail
            refine bodyPost_ret (v := .tuple #[.pointer (some ⟨X + 2, 0, none⟩), .pointer (some ⟨X + 1, 0, none⟩), .bool true]) (by simp [results, Tryz.results5, go_sem]) rfl ⟨M, F, R, X, rfl, D9.out⟩
        · rcases Nat.eq_zero_or_pos bs.length with hn | hn
          · obtain ⟨adr, cc, rfl⟩ : ∃ adr cc, u11 = .slice adr 0 cc := by
              rcases OWB.out.2 with ⟨h, _⟩ | ⟨g, cap, cur, h, _⟩
              · exact ⟨none, 0, h⟩
              · rw [hn] at h; exact ⟨_, cap, h⟩
            obtain rfl : bs = [] := List.eq_nil_of_length_eq_zero hn
            have RP := Lib.hid (rput_nil A2.out.rf 4096 adr cc)
            go_wp2_with fail
            refine RP.out.mono ?_
            rintro e w8 ⟨rfl, v8, hr8, ho8, hf8⟩
            have fm := FAR.out.m; have ff := FAR.out.f; have fr := FAR.out.r
            have D8 := Lib.hid (show Duo w M F R X (begF l0) (begS l1) (begS l1) 240 w8 by
              have e0 : begF l0 = noughts 256 := by rw [BF.out]; exact setB_nil _
              have n8 : ∀ j, j ≠ X → ¬ RS X (.slice none 0 0) j := fun j hj g => by rcases g with g | g; exact hj g; cases g
              rw [e0]
              exact { mach := A2.out.mach.out ho8 (n8 _ (by omega)), mem := A2.out.mem.out ho8 (n8 _ (by omega)) (n8 _ (by omega)) (n8 _ (by omega)), rm := A2.out.rm.out ho8 (n8 _ (by omega))
                      rf := ⟨[], v8, by rw [noughts_len, show (begS l1).b.length = 128 from noughts_len _]; exact hr8, agree_new _ _ _ _, by simp⟩
                      lf := noughts_len _, ls := noughts_len _, ls' := noughts_len _, sb' := noughts_lt _, far := FAR.out
                      bl := ho8.below A2.out.bl (Nat.le_refl _) (fun j g => by rcases g with g | g; omega; cases g) })
            clear hr8 ho8 hf8 fm ff fr A2 RP
            go_wp2_with fail
            refine (mput_nil M 4096 adr cc w8).mono ?_
            rintro e w9 ⟨rfl, hl9⟩
            go_wp2_with fail
            refine bodyPost_ret (v := .tuple #[.pointer (some ⟨X + 2, 0, none⟩), .pointer (some ⟨X + 1, 0, none⟩), .bool true]) (by simp [results, Tryz.results5, go_sem]) rfl ⟨M, F, R, X, rfl, D8.out.like hl9⟩
          · obtain ⟨g, cc, rfl⟩ : ∃ g cc, u11 = .slice (some ⟨g, 0, none⟩) bs.length cc := by
              rcases OWB.out.2 with ⟨_, h⟩ | ⟨g, cap, cur, h, _⟩
              · omega
              · exact ⟨g, cap, h⟩
            have hg3 := (OWB.out.lt g rfl).1
            have lb := LB.out
            have CE := Lib.hid (OWB.out.cells (g := g) rfl)
            have hwin : wIn 4096 256 2147483648 128 4096 bs.length = true := by
              unfold wIn
              rw [show inB 4096 256 4096 bs.length = true from decide_eq_true (by omega)]
              rfl
            have HAS : HasIs X 4096 bs.length true wr := by
              have k := has_any A2.out.rf banks_map 4096 bs.length (by omega) (by omega)
              rw [hwin] at k
              exact k
            have RP := Lib.hid (rput_in A2.out.rf 4096 bs g 0 cc hn (by omega) L256.out (by simp; omega) HAS
              (fun j x hj => by
                have k := CE.out j (u8G x) (by rw [List.getElem?_map, hj]; rfl)
                have e : (⟨g, 0, none⟩ : Addr).add j = ⟨g, 0 + j, none⟩ := by unfold Addr.add; split <;> simp_all
                rw [e] at k
                exact k)
              (fun q => by rcases q with q | q; omega; cases q))
            clear HAS
            go_wp2_with fail
            refine RP.out.mono ?_
            rintro e w8 ⟨rfl, v8, hr8, ho8, hf8⟩
            have fm := FAR.out.m; have ff := FAR.out.f; have fr := FAR.out.r
            have n8 : ∀ j, j ≠ X → ¬ RS X (.slice none 0 0) j := fun j hj g => by rcases g with g | g; exact hj g; cases g
            have OW8 := Lib.hid (show w8.ownsRow (X + 3) 5 1 (.slice (some ⟨g, 0, none⟩) bs.length cc) bs.length (bs.map u8G) from ho8.row OWB.out (fun j hj => n8 j (by have := (OWB.out.lt j hj).1; omega)))
            have K8 := Lib.hid (show MachIs (X + 2) M 4096 (begS l1).r w8 ∧ MemIs M F R 4096 2147483648 (noughts 256) (noughts 128) w8 ∧ MachIs (X + 1) X 4096 (begS l1).r w8 ∧ Below w.heap.size w w8 from
              ⟨A2.out.mach.out ho8 (n8 _ (by omega)), A2.out.mem.out ho8 (n8 _ (by omega)) (n8 _ (by omega)) (n8 _ (by omega)), A2.out.rm.out ho8 (n8 _ (by omega)), ho8.below A2.out.bl (Nat.le_refl _) (fun j g => by rcases g with g | g; omega; cases g)⟩)
            have R8 := Lib.hid hr8
            clear hr8 ho8 hf8 fm ff fr A2 RP n8 CE OWB
            have MP := Lib.hid (show Calls Tryz.prog 15 #[.pointer (some ⟨M, 0, none⟩), .int .u32 4096, .slice (some ⟨g, 0, none⟩) bs.length cc] w8 fun e w' => e = .returned (.bool true) ∧ MemIs M F R 4096 2147483648 (setB (noughts 256) 0 bs) (noughts 128) w' ∧ Out (fun j => j = F ∨ j = R) w8 w' by
              have k := K8.out.2.1.put (by rw [noughts_len, noughts_len]; exact banks_map) 4096 bs (by omega) hn (by omega) L256.out ⟨g, 0, none⟩ cc (OW8.out.cells (g := g) rfl)
              have i1 : inB 4096 256 4096 bs.length = true := decide_eq_true (by omega)
              rw [noughts_len, noughts_len, hwin] at k
              unfold putF putRm at k
              rw [if_pos i1, if_pos i1] at k
              exact k)
            go_wp2_with fail
            refine MP.out.mono ?_
            rintro e w9 ⟨rfl, hm9, ho9⟩
            have fm := FAR.out.m; have ff := FAR.out.f; have fr := FAR.out.r
            have D9 := Lib.hid (show Duo w M F R X (begF l0) (begS l1) (begS l1) 240 w9 by
              have ag := agree_flash (agree_new 4096 256 2147483648 128) (by rw [noughts_len, noughts_len]; omega) 0 bs (by rw [noughts_len]; omega)
              have sl : (setB (noughts 256) 0 bs).length = 256 := by rw [setB_length _ _ _ (by rw [noughts_len]; omega), noughts_len]
              rw [BF.out]
              exact { mach := K8.out.1.out ho9 (by omega), mem := hm9, rm := K8.out.2.2.1.out ho9 (by omega)
                      rf := ⟨[] ++ writes 4096 bs, v8, by rw [sl, show (begS l1).b.length = 128 from noughts_len _]; exact R8.out.out ho9 (by omega) (fun j hj => by have := (R8.out.own_lt j hj).1; omega), ag, by rw [List.nil_append, writes_length]; exact lb⟩
                      lf := sl, ls := noughts_len _, ls' := noughts_len _, sb' := noughts_lt _, far := FAR.out
                      bl := ho9.below K8.out.2.2.2 (Nat.le_refl _) (fun j g => by omega) })
            clear hm9 ho9 fm ff fr K8 R8 OW8 MP
            go_wp2_with fail
            refine bodyPost_ret (v := .tuple #[.pointer (some ⟨X + 2, 0, none⟩), .pointer (some ⟨X + 1, 0, none⟩), .bool true]) (by simp [results, Tryz.results5, go_sem]) rfl ⟨M, F, R, X, rfl, D9.out⟩
    · go_wp2_with fail
      go_loopw [14] (fun i wr => ∃ m2 : Nat, m2 ≤ l1.length ∧ m2 ≤ 31 ∧ i = .int .i64 m2 ∧ BegAt w M F R X (rgs l1 m2) wr ∧ Out (fun j => j = X + 1 ∨ j = X + 2) W9 wr) (fun i _ => l1.length - (intOf i).toNat)
      case atStart => exact ⟨0, by omega, by omega, rfl, by rw [rgs_zero]; exact A9.out, .refl _ _⟩
      case round =>
        obtain ⟨m2, hm2, hm31, rfl, hA, hO⟩ := hrel
        have HA := Lib.hid hA
        have HO := Lib.hid hO
        clear hA hO A9
        rcases (show (m2 < l1.length ∧ m2 < 31) ∨ (m2 < l1.length ∧ m2 = 31) ∨ m2 = l1.length by omega) with ⟨hlt2, h31⟩ | hend
        case inl =>
          obtain ⟨b2, off2, rfl, hbw, hcell⟩ : ∃ b off, a1 = some ⟨b, off, none⟩ ∧ b < w.heap.size ∧ ∀ k, k < l1.length → w.cell? ⟨b, off + k, none⟩ = some (.int .u32 (l1.getD k 0 : Nat)) := by
            rcases H1.out.2.2 with h | h
            · subst h; simp at hlt2
            · exact h
          have cw := (HA.out.bl.cell (p := ⟨b2, off2 + m2, none⟩) hbw).trans (hcell m2 hlt2)
          have x32 := getD_lt32 H1.out.1 m2
          have RN := Lib.hid (rgs_next l1 m2)
          have hbX : b2 ≠ X + 1 := by have := FAR.out.m; omega
          clear hcell
          generalize l1.getD m2 0 = x at *
          obtain ⟨d, hd⟩ : ∃ d : Nat, d = m2 + 1 := ⟨_, rfl⟩
          have hdi : (m2 : Int) + 1 = (d : Int) := by omega
          have hd1 : (1 : Int) ≤ (d : Int) := by omega
          have hd0 : (0 : Int) ≤ (d : Int) := by omega
          have hd32 : (d : Int) < 32 := by omega
          have hd32n : d < 32 := by omega
          have HDW : IntKind.i64.wrap ((m2 : Int) + 1) = (d : Int) := by rw [hdi]; exact IntWalk.i64_in _ (by omega)
          have cy := HA.out.rm.c d hd32n
          have fy := HA.out.rm.fz (2 + d) (by omega)
          have m2l : (m2 : Int) < (l1.length : Int) := by omega
          have m20 : (0 : Int) ≤ (m2 : Int) := by omega
          have CWD : wr.drew.cell? ⟨b2, off2 + m2, none⟩ = some (.int .u32 (x : Nat)) := cw
          have CWS : ∀ v, (wr.setCell ⟨X + 1, 2 + d, none⟩ v).drew.cell? ⟨b2, off2 + m2, none⟩ = some (.int .u32 (x : Nat)) := fun v => by
            show (wr.setCell ⟨X + 1, 2 + d, none⟩ v).cell? ⟨b2, off2 + m2, none⟩ = _
            rw [World.cell?_setCell_other (h := fun e => hbX (by injection e with e1 _ _; omega))]
            exact cw
          have HD := Lib.hid (show d = m2 + 1 from hd)
          clear hd hdi
          go_wp2_with fail
          go_region_held3 (fun w' => w'.cell? ⟨b2, off2 + m2, none⟩ = some (.int .u32 (x : Nat)))
            (first | (with_reducible assumption) | (with_reducible exact CWS _))
            (fail)
          clear CWD CWS
          generalize hV : World.drew _ = V
          have hV' : (wr.setCell ⟨X + 1, 2 + d, none⟩ (.int .u32 (x : Nat))).drew = V := hV
          have ov : Out (· = X + 1) wr V := by rw [← hV']; exact (out_cell _ _ _ _).trans ((like_drew (LikeG.refl _)).out _)
          have rm := (HA.out.rm.setReg d x (by omega) hd32n x32).like (like_drew (LikeG.refl _))
          rw [hV'] at rm
          have fm := FAR.out.m; have ff := FAR.out.f; have fr := FAR.out.r
          have MC := Lib.hid (HA.out.mach.out ov (by omega))
          have MM := Lib.hid (HA.out.mem.out ov (by omega) (by omega) (by omega))
          have MR := Lib.hid rm
          have MX := Lib.hid (HA.out.rf.out ov (by omega) (fun j hj => by cases hj))
          have MB := Lib.hid (show Below w.heap.size w V from ov.below HA.out.bl (Nat.le_refl _) (fun j e => by subst e; omega))
          have MO := Lib.hid (HO.out.trans (ov.mono fun j e => Or.inl e))
          have cw : V.cell? ⟨b2, off2 + m2, none⟩ = some (.int .u32 (x : Nat)) := (ov.cell (p := ⟨b2, off2 + m2, none⟩) (by show b2 < wr.heap.size; have := HA.out.bl.size; omega) hbX).trans cw
          clear hV hV' ov rm cy fy HA HO fm ff fr
          have hdi : (m2 : Int) + 1 = (d : Int) := by have := HD.out; omega
          go_wp2_with fail
          refine (mset_any MC.out d x hd32n x32).mono ?_
          rintro e w8 ⟨rfl, k1, k2⟩
          have fm := FAR.out.m; have ff := FAR.out.f; have fr := FAR.out.r
          have A8 := Lib.hid (show BegAt w M F R X (rgs l1 d) w8 by
            have rn := RN.out
            rw [← HD.out] at rn
            rw [rn] at k1
            have mr := MR.out
            rw [rn] at mr
            exact { mach := k1, mem := MM.out.out k2 (by omega) (by omega) (by omega), rm := mr.out k2 (by omega), rf := MX.out.out k2 (by omega) (fun j hj => by cases hj), bl := k2.below MB.out (Nat.le_refl _) (fun j e => by subst e; omega) })
          have O8 := Lib.hid (MO.out.trans (k2.mono fun j e => Or.inr e))
          clear k1 k2 MC MM MR MX MB MO cw fm ff fr
          go_wp2_with fail
          go_roundw
          case rel => exact ⟨d, by have := HD.out; omega, by have := HD.out; omega, by have := HD.out; go_num, A8.out, O8.out⟩
          case measure => have := HD.out; first | (simp [intOf]; done) | (simp [intOf]; omega)
        have E2 : m2 = min 31 l1.length := by omega
        have A2 := Lib.hid (show BegAt w M F R X (begS l1).r wr by show BegAt w M F R X (rgs l1 (min 31 l1.length)) wr; rw [← E2]; exact HA.out)
        have OWB := Lib.hid (show wr.ownsRow (X + 3) 5 1 u11 bs.length (bs.map u8G) from HO.out.row HR.out (fun j hj g => by have := (HR.out.lt j hj).1; omega))
        clear E2 HA HO HR
        have c0 := A2.out.rm.c0
        rcases hend with ⟨hlt2, rfl⟩ | rfl
        · rcases Nat.eq_zero_or_pos bs.length with hn | hn
          · obtain ⟨adr, cc, rfl⟩ : ∃ adr cc, u11 = .slice adr 0 cc := by
              rcases OWB.out.2 with ⟨h, _⟩ | ⟨g, cap, cur, h, _⟩
              · exact ⟨none, 0, h⟩
              · rw [hn] at h; exact ⟨_, cap, h⟩
            obtain rfl : bs = [] := List.eq_nil_of_length_eq_zero hn
            have RP := Lib.hid (rput_nil A2.out.rf 4096 adr cc)
            go_wp2_with fail
            refine RP.out.mono ?_
            rintro e w8 ⟨rfl, v8, hr8, ho8, hf8⟩
            have fm := FAR.out.m; have ff := FAR.out.f; have fr := FAR.out.r
            have D8 := Lib.hid (show Duo w M F R X (begF l0) (begS l1) (begS l1) 240 w8 by
              have e0 : begF l0 = noughts 256 := by rw [BF.out]; exact setB_nil _
              have n8 : ∀ j, j ≠ X → ¬ RS X (.slice none 0 0) j := fun j hj g => by rcases g with g | g; exact hj g; cases g
              rw [e0]
              exact { mach := A2.out.mach.out ho8 (n8 _ (by omega)), mem := A2.out.mem.out ho8 (n8 _ (by omega)) (n8 _ (by omega)) (n8 _ (by omega)), rm := A2.out.rm.out ho8 (n8 _ (by omega))
                      rf := ⟨[], v8, by rw [noughts_len, show (begS l1).b.length = 128 from noughts_len _]; exact hr8, agree_new _ _ _ _, by simp⟩
                      lf := noughts_len _, ls := noughts_len _, ls' := noughts_len _, sb' := noughts_lt _, far := FAR.out
                      bl := ho8.below A2.out.bl (Nat.le_refl _) (fun j g => by rcases g with g | g; omega; cases g) })
            clear hr8 ho8 hf8 fm ff fr A2 RP
            go_wp2_with fail
            refine (mput_nil M 4096 adr cc w8).mono ?_
            rintro e w9 ⟨rfl, hl9⟩
            go_wp2_with fail
            refine bodyPost_ret (v := .tuple #[.pointer (some ⟨X + 2, 0, none⟩), .pointer (some ⟨X + 1, 0, none⟩), .bool true]) (by simp [results, Tryz.results5, go_sem]) rfl ⟨M, F, R, X, rfl, D8.out.like hl9⟩
          · obtain ⟨g, cc, rfl⟩ : ∃ g cc, u11 = .slice (some ⟨g, 0, none⟩) bs.length cc := by
              rcases OWB.out.2 with ⟨_, h⟩ | ⟨g, cap, cur, h, _⟩
              · omega
              · exact ⟨g, cap, h⟩
            have hg3 := (OWB.out.lt g rfl).1
            have lb := LB.out
            have CE := Lib.hid (OWB.out.cells (g := g) rfl)
            have hwin : wIn 4096 256 2147483648 128 4096 bs.length = true := by
              unfold wIn
              rw [show inB 4096 256 4096 bs.length = true from decide_eq_true (by omega)]
              rfl
            have HAS : HasIs X 4096 bs.length true wr := by
              have k := has_any A2.out.rf banks_map 4096 bs.length (by omega) (by omega)
              rw [hwin] at k
              exact k
            have RP := Lib.hid (rput_in A2.out.rf 4096 bs g 0 cc hn (by omega) L256.out (by simp; omega) HAS
              (fun j x hj => by
                have k := CE.out j (u8G x) (by rw [List.getElem?_map, hj]; rfl)
                have e : (⟨g, 0, none⟩ : Addr).add j = ⟨g, 0 + j, none⟩ := by unfold Addr.add; split <;> simp_all
                rw [e] at k
                exact k)
              (fun q => by rcases q with q | q; omega; cases q))
            clear HAS
            go_wp2_with fail
            refine RP.out.mono ?_
            rintro e w8 ⟨rfl, v8, hr8, ho8, hf8⟩
            have fm := FAR.out.m; have ff := FAR.out.f; have fr := FAR.out.r
            have n8 : ∀ j, j ≠ X → ¬ RS X (.slice none 0 0) j := fun j hj g => by rcases g with g | g; exact hj g; cases g
            have OW8 := Lib.hid (show w8.ownsRow (X + 3) 5 1 (.slice (some ⟨g, 0, none⟩) bs.length cc) bs.length (bs.map u8G) from ho8.row OWB.out (fun j hj => n8 j (by have := (OWB.out.lt j hj).1; omega)))
            have K8 := Lib.hid (show MachIs (X + 2) M 4096 (begS l1).r w8 ∧ MemIs M F R 4096 2147483648 (noughts 256) (noughts 128) w8 ∧ MachIs (X + 1) X 4096 (begS l1).r w8 ∧ Below w.heap.size w w8 from
              ⟨A2.out.mach.out ho8 (n8 _ (by omega)), A2.out.mem.out ho8 (n8 _ (by omega)) (n8 _ (by omega)) (n8 _ (by omega)), A2.out.rm.out ho8 (n8 _ (by omega)), ho8.below A2.out.bl (Nat.le_refl _) (fun j g => by rcases g with g | g; omega; cases g)⟩)
            have R8 := Lib.hid hr8
            clear hr8 ho8 hf8 fm ff fr A2 RP n8 CE OWB
            have MP := Lib.hid (show Calls Tryz.prog 15 #[.pointer (some ⟨M, 0, none⟩), .int .u32 4096, .slice (some ⟨g, 0, none⟩) bs.length cc] w8 fun e w' => e = .returned (.bool true) ∧ MemIs M F R 4096 2147483648 (setB (noughts 256) 0 bs) (noughts 128) w' ∧ Out (fun j => j = F ∨ j = R) w8 w' by
              have k := K8.out.2.1.put (by rw [noughts_len, noughts_len]; exact banks_map) 4096 bs (by omega) hn (by omega) L256.out ⟨g, 0, none⟩ cc (OW8.out.cells (g := g) rfl)
              have i1 : inB 4096 256 4096 bs.length = true := decide_eq_true (by omega)
              rw [noughts_len, noughts_len, hwin] at k
              unfold putF putRm at k
              rw [if_pos i1, if_pos i1] at k
              exact k)
            go_wp2_with fail
            refine MP.out.mono ?_
            rintro e w9 ⟨rfl, hm9, ho9⟩
            have fm := FAR.out.m; have ff := FAR.out.f; have fr := FAR.out.r
            have D9 := Lib.hid (show Duo w M F R X (begF l0) (begS l1) (begS l1) 240 w9 by
              have ag := agree_flash (agree_new 4096 256 2147483648 128) (by rw [noughts_len, noughts_len]; omega) 0 bs (by rw [noughts_len]; omega)
              have sl : (setB (noughts 256) 0 bs).length = 256 := by rw [setB_length _ _ _ (by rw [noughts_len]; omega), noughts_len]
              rw [BF.out]
              exact { mach := K8.out.1.out ho9 (by omega), mem := hm9, rm := K8.out.2.2.1.out ho9 (by omega)
                      rf := ⟨[] ++ writes 4096 bs, v8, by rw [sl, show (begS l1).b.length = 128 from noughts_len _]; exact R8.out.out ho9 (by omega) (fun j hj => by have := (R8.out.own_lt j hj).1; omega), ag, by rw [List.nil_append, writes_length]; exact lb⟩
                      lf := sl, ls := noughts_len _, ls' := noughts_len _, sb' := noughts_lt _, far := FAR.out
                      bl := ho9.below K8.out.2.2.2 (Nat.le_refl _) (fun j g => by omega) })
            clear hm9 ho9 fm ff fr K8 R8 OW8 MP
            go_wp2_with fail
            refine bodyPost_ret (v := .tuple #[.pointer (some ⟨X + 2, 0, none⟩), .pointer (some ⟨X + 1, 0, none⟩), .bool true]) (by simp [results, Tryz.results5, go_sem]) rfl ⟨M, F, R, X, rfl, D9.out⟩
        · rcases Nat.eq_zero_or_pos bs.length with hn | hn
          · obtain ⟨adr, cc, rfl⟩ : ∃ adr cc, u11 = .slice adr 0 cc := by
              rcases OWB.out.2 with ⟨h, _⟩ | ⟨g, cap, cur, h, _⟩
              · exact ⟨none, 0, h⟩
              · rw [hn] at h; exact ⟨_, cap, h⟩
            obtain rfl : bs = [] := List.eq_nil_of_length_eq_zero hn
            have RP := Lib.hid (rput_nil A2.out.rf 4096 adr cc)
            go_wp2_with fail
            refine RP.out.mono ?_
            rintro e w8 ⟨rfl, v8, hr8, ho8, hf8⟩
            have fm := FAR.out.m; have ff := FAR.out.f; have fr := FAR.out.r
            have D8 := Lib.hid (show Duo w M F R X (begF l0) (begS l1) (begS l1) 240 w8 by
              have e0 : begF l0 = noughts 256 := by rw [BF.out]; exact setB_nil _
              have n8 : ∀ j, j ≠ X → ¬ RS X (.slice none 0 0) j := fun j hj g => by rcases g with g | g; exact hj g; cases g
              rw [e0]
              exact { mach := A2.out.mach.out ho8 (n8 _ (by omega)), mem := A2.out.mem.out ho8 (n8 _ (by omega)) (n8 _ (by omega)) (n8 _ (by omega)), rm := A2.out.rm.out ho8 (n8 _ (by omega))
                      rf := ⟨[], v8, by rw [noughts_len, show (begS l1).b.length = 128 from noughts_len _]; exact hr8, agree_new _ _ _ _, by simp⟩
                      lf := noughts_len _, ls := noughts_len _, ls' := noughts_len _, sb' := noughts_lt _, far := FAR.out
                      bl := ho8.below A2.out.bl (Nat.le_refl _) (fun j g => by rcases g with g | g; omega; cases g) })
            clear hr8 ho8 hf8 fm ff fr A2 RP
            go_wp2_with fail
            refine (mput_nil M 4096 adr cc w8).mono ?_
            rintro e w9 ⟨rfl, hl9⟩
            go_wp2_with fail
            refine bodyPost_ret (v := .tuple #[.pointer (some ⟨X + 2, 0, none⟩), .pointer (some ⟨X + 1, 0, none⟩), .bool true]) (by simp [results, Tryz.results5, go_sem]) rfl ⟨M, F, R, X, rfl, D8.out.like hl9⟩
          · obtain ⟨g, cc, rfl⟩ : ∃ g cc, u11 = .slice (some ⟨g, 0, none⟩) bs.length cc := by
              rcases OWB.out.2 with ⟨_, h⟩ | ⟨g, cap, cur, h, _⟩
              · omega
              · exact ⟨g, cap, h⟩
            have hg3 := (OWB.out.lt g rfl).1
            have lb := LB.out
            have CE := Lib.hid (OWB.out.cells (g := g) rfl)
            have hwin : wIn 4096 256 2147483648 128 4096 bs.length = true := by
              unfold wIn
              rw [show inB 4096 256 4096 bs.length = true from decide_eq_true (by omega)]
              rfl
            have HAS : HasIs X 4096 bs.length true wr := by
              have k := has_any A2.out.rf banks_map 4096 bs.length (by omega) (by omega)
              rw [hwin] at k
              exact k
            have RP := Lib.hid (rput_in A2.out.rf 4096 bs g 0 cc hn (by omega) L256.out (by simp; omega) HAS
              (fun j x hj => by
                have k := CE.out j (u8G x) (by rw [List.getElem?_map, hj]; rfl)
                have e : (⟨g, 0, none⟩ : Addr).add j = ⟨g, 0 + j, none⟩ := by unfold Addr.add; split <;> simp_all
                rw [e] at k
                exact k)
              (fun q => by rcases q with q | q; omega; cases q))
            clear HAS
            go_wp2_with fail
            refine RP.out.mono ?_
            rintro e w8 ⟨rfl, v8, hr8, ho8, hf8⟩
            have fm := FAR.out.m; have ff := FAR.out.f; have fr := FAR.out.r
            have n8 : ∀ j, j ≠ X → ¬ RS X (.slice none 0 0) j := fun j hj g => by rcases g with g | g; exact hj g; cases g
            have OW8 := Lib.hid (show w8.ownsRow (X + 3) 5 1 (.slice (some ⟨g, 0, none⟩) bs.length cc) bs.length (bs.map u8G) from ho8.row OWB.out (fun j hj => n8 j (by have := (OWB.out.lt j hj).1; omega)))
            have K8 := Lib.hid (show MachIs (X + 2) M 4096 (begS l1).r w8 ∧ MemIs M F R 4096 2147483648 (noughts 256) (noughts 128) w8 ∧ MachIs (X + 1) X 4096 (begS l1).r w8 ∧ Below w.heap.size w w8 from
              ⟨A2.out.mach.out ho8 (n8 _ (by omega)), A2.out.mem.out ho8 (n8 _ (by omega)) (n8 _ (by omega)) (n8 _ (by omega)), A2.out.rm.out ho8 (n8 _ (by omega)), ho8.below A2.out.bl (Nat.le_refl _) (fun j g => by rcases g with g | g; omega; cases g)⟩)
            have R8 := Lib.hid hr8
            clear hr8 ho8 hf8 fm ff fr A2 RP n8 CE OWB
            have MP := Lib.hid (show Calls Tryz.prog 15 #[.pointer (some ⟨M, 0, none⟩), .int .u32 4096, .slice (some ⟨g, 0, none⟩) bs.length cc] w8 fun e w' => e = .returned (.bool true) ∧ MemIs M F R 4096 2147483648 (setB (noughts 256) 0 bs) (noughts 128) w' ∧ Out (fun j => j = F ∨ j = R) w8 w' by
              have k := K8.out.2.1.put (by rw [noughts_len, noughts_len]; exact banks_map) 4096 bs (by omega) hn (by omega) L256.out ⟨g, 0, none⟩ cc (OW8.out.cells (g := g) rfl)
              have i1 : inB 4096 256 4096 bs.length = true := decide_eq_true (by omega)
              rw [noughts_len, noughts_len, hwin] at k
              unfold putF putRm at k
              rw [if_pos i1, if_pos i1] at k
              exact k)
            go_wp2_with fail
            refine MP.out.mono ?_
            rintro e w9 ⟨rfl, hm9, ho9⟩
            have fm := FAR.out.m; have ff := FAR.out.f; have fr := FAR.out.r
            have D9 := Lib.hid (show Duo w M F R X (begF l0) (begS l1) (begS l1) 240 w9 by
              have ag := agree_flash (agree_new 4096 256 2147483648 128) (by rw [noughts_len, noughts_len]; omega) 0 bs (by rw [noughts_len]; omega)
              have sl : (setB (noughts 256) 0 bs).length = 256 := by rw [setB_length _ _ _ (by rw [noughts_len]; omega), noughts_len]
              rw [BF.out]
              exact { mach := K8.out.1.out ho9 (by omega), mem := hm9, rm := K8.out.2.2.1.out ho9 (by omega)
                      rf := ⟨[] ++ writes 4096 bs, v8, by rw [sl, show (begS l1).b.length = 128 from noughts_len _]; exact R8.out.out ho9 (by omega) (fun j hj => by have := (R8.out.own_lt j hj).1; omega), ag, by rw [List.nil_append, writes_length]; exact lb⟩
                      lf := sl, ls := noughts_len _, ls' := noughts_len _, sb' := noughts_lt _, far := FAR.out
                      bl := ho9.below K8.out.2.2.2 (Nat.le_refl _) (fun j g => by omega) })
            clear hm9 ho9 fm ff fr K8 R8 OW8 MP
            go_wp2_with fail
            refine bodyPost_ret (v := .tuple #[.pointer (some ⟨X + 2, 0, none⟩), .pointer (some ⟨X + 1, 0, none⟩), .bool true]) (by simp [results, Tryz.results5, go_sem]) rfl ⟨M, F, R, X, rfl, D9.out⟩
end Go.Proofs.YtmlhoagcppofgaaGreatDoor
