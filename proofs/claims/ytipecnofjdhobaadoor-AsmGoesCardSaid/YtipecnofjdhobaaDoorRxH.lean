/- The document's Places. -/
import Derived.Test.YtipecnofjdhobaaDoorRxG
namespace Go.Proofs.YtipecnofjdhobaaDoor
open Go Go.RowKit Go.Maps Pl
set_option linter.unusedVariables false
set_option linter.unusedSimpArgs false
set_option maxRecDepth 100000

def zV (l : List Int) : List Value := l.map fun v => Value.int .i64 v
abbrev OwnZ (w : World) (B : Nat) (v : Value) (l : List Int) : Prop := w.ownsRow B 3 1 v l.length (zV l)
theorem own_slZ {w : World} {B : Nat} {v : Value} {l : List Int} (h : OwnZ w B v l) : ∃ a c, v = .slice a l.length c ∧ c ≤ 9223372036854775807 := by
  obtain ⟨h1, ⟨rfl, h2⟩ | ⟨g, c, cur, rfl, hb, hg, hc, hm, _⟩⟩ := h
  · rw [h2]; exact ⟨none, 0, rfl, by omega⟩
  · exact ⟨_, c, rfl, hm⟩
theorem own_rowZ {w : World} {B : Nat} {v : Value} {l : List Int} (h : OwnZ w B v l) (hl : l ≠ []) : ∃ g c, v = .slice (some ⟨g, 0, none⟩) l.length c ∧ c ≤ 9223372036854775807 ∧ B ≤ g ∧ RowAt w g (zV l) := by
  obtain ⟨h1, ⟨rfl, h2⟩ | ⟨g', c, cur, rfl, hb, hh, hc, hm, hs, ht⟩⟩ := h
  · exact absurd (List.eq_nil_of_length_eq_zero h2) hl
  · refine ⟨g', c, rfl, hm, hb, (Array.getElem?_eq_some_iff.1 hh).1, fun j => ?_, fun j u hu => ?_⟩
    · simp [World.frozen?, hh]
    · rw [← ht] at hu
      rw [List.getElem?_take_of_lt (by
        refine Decidable.byContradiction fun e => ?_
        rw [List.getElem?_eq_none (by simp; omega)] at hu; simp at hu)] at hu
      simp only [World.cell?, hh]
      simpa using hu
theorem own_overZ {w w' : World} {B : Nat} {v : Value} {l : List Int} (h : OwnZ w B v l) {S : Nat → Prop} (k : Out S w w') (hs : ∀ g, v.ownBlock = some g → ¬ S g) : OwnZ w' B v l := by
  obtain ⟨h1, h2 | ⟨g, c, cur, rfl, hb, hg, hr⟩⟩ := h
  · exact ⟨h1, .inl h2⟩
  · exact ⟨h1, .inr ⟨g, c, cur, rfl, hb, (k.block g (Array.getElem?_eq_some_iff.1 hg).1 (hs g rfl)).trans hg, hr⟩⟩
/-- one number more behind a row of one's own -/
theorem app_int {ops : Array Oper} {rest : List Oper} {o : Oper} {a : Act} {Q : Exit → Act → World → Prop} {w : World} (hgd : o.guard = none) (s x : Operand)
    (ho : o.op = .call { callee := .builtin .append, args := #[s, x], argTypes := #[31, 31] }) (B : Nat) (v : Value) (l : List Int) (hs : a.eval s = v) (hown : OwnZ w B v l) (n : Int)
    (hx : a.eval x = .slice (some ⟨w.heap.size, 0, none⟩) 1 1) (hl : l.length ≤ 1000000) (hB : B ≤ w.heap.size)
    (h : ∀ v' w', OwnZ w' B v' (l ++ [n]) → Out (fun j => B ≤ j) w w' → wpList Tryd.prog ops Q rest (a.put o.dst v') w') :
    wpList Tryd.prog ops Q (o :: rest) a (w.alloc (.cells #[.int .i64 n] 3)) := by
  obtain ⟨i0, hi, hz0, hz1, hz2⟩ : ∃ i, Tryd.prog.info? 3 = some i ∧ i.zero = some (.int .i64 0) ∧ i.size = 1 ∧ i.bytes = 8 := ⟨(Tryd.prog.info? 3).get!, by kernel_rfl, by kernel_rfl, by kernel_rfl, by kernel_rfl⟩
  have hal := Below.alloc (Below.refl w.heap.size w) (Nat.le_refl _) (.cells #[.int .i64 n] 3)
  have hal2 : Out (fun _ => False) w (w.alloc (.cells #[.int .i64 n] 3)) := Out.of_below _ hal
  refine wpList_append_own_at _ hgd s x 31 ho B 3 i0 (.int .i64 0) 1 8 Tryd.underlying31 hi hz0 hz1 hz2 rfl (by decide) v l.length (zV l) hs (own_overZ hown hal2 (fun _ _ => id)) ⟨w.heap.size, 0, none⟩ 1 1 [.int .i64 n] hx rfl (fun j u hu => by rw [addr_add0]; exact (RowAt.new _ [.int .i64 n] _).cell j u hu) (fun u hu => by simp at hu; subst hu; rfl) (by unfold maxLen; omega) (by omega) (by simp; omega) ?_
  intro v' w' h1 h2 h3 h4
  have h1' : OwnZ w' B v' (l ++ [n]) := by
    unfold OwnZ
    rw [List.length_append, show zV (l ++ [n]) = zV l ++ [.int .i64 n] by simp [zV]]
    exact h1
  have h2' : Out (fun j => v.ownBlock = some j) (w.alloc (.cells #[.int .i64 n] 3)) w' := Out.of_grown h2 (fun k e => e)
  exact h v' w' h1' (((hal2.mono (fun _ e => e.elim)).trans h2').mono fun j hj => (World.ownsRow.lt hown j hj).1)
theorem iR_zV (n : Nat) (f : Nat → Int) : iR n f = zV ((List.range n).map f) := by simp [iR, zV]
theorem can_kd {x : It} (h : canIt x = true) : x.kd = 1 ∨ x.kd = 2 ∨ x.kd = 3 ∨ x.kd = 4 ∨ x.kd = 5 := by
  unfold canIt at h
  by_cases h1 : x.kd = 1
  · exact .inl h1
  by_cases h2 : x.kd = 2
  · exact .inr (.inl h2)
  by_cases h3 : x.kd = 3
  · exact .inr (.inr (.inl h3))
  by_cases h4 : x.kd = 4
  · exact .inr (.inr (.inr (.inl h4)))
  by_cases h5 : x.kd = 5
  · exact .inr (.inr (.inr (.inr h5)))
  rw [if_neg h1, if_neg h2, if_neg h3, if_neg h4, if_neg h5] at h
  cases h
theorem own_emptyZ (w : World) (base : Nat) (hb : base ≤ w.heap.size) : OwnZ (w.alloc (.cells #[] 3)) base (.slice (some ⟨w.heap.size, 0, none⟩) 0 0) [] :=
  ⟨rfl, Or.inr ⟨w.heap.size, 0, #[], rfl, hb, by show (w.heap.push _)[w.heap.size]? = _; simp, Nat.le_refl _, by simp [maxLen], rfl, rfl⟩⟩
theorem pl_mk {w w' : World} {g n pc : Nat} {P : Nat → Int} (h1 : pc ≤ 9223372036854775807) (h2 : RowAt w' g (iR (n + 1) P)) (h3 : Below w.heap.size w w') : ∃ g' pc', Ending.returned (.slice (some ⟨g, 0, none⟩) (n + 1) pc) = .returned (.slice (some ⟨g', 0, none⟩) (n + 1) pc') ∧ pc' ≤ 9223372036854775807 ∧ RowAt w' g' (iR (n + 1) P) ∧ Below w.heap.size w w' := ⟨g, pc, rfl, h1, h2, h3⟩
set_option maxHeartbeats 8000000 in
theorem places_any (l : List It) (hok : ∀ x ∈ l, x.okay) (hcan : CanAll l) (at0 : Option Addr) (c : Nat) (w : World) (hA : ItAt w at0 l) (hl : l.length ≤ 4000) (hc : c ≤ 9223372036854775807) (BG gc : Nat) (G : Nat → Bool) (hG : RowAt w BG (bR l.length G)) (hgc : gc ≤ 9223372036854775807) :
    Calls Tryd.prog 14 #[.slice at0 l.length c, .slice (some ⟨BG, 0, none⟩) l.length gc] w fun e w' => ∃ g pc, e = .returned (.slice (some ⟨g, 0, none⟩) (l.length + 1) pc) ∧ pc ≤ 9223372036854775807 ∧ RowAt w' g (iR (l.length + 1) (plR (szR (szL l) G))) ∧ Below w.heap.size w w' := by
  have HA := Lib.hid hA
  have HOK := Lib.hid hok
  have HCA := Lib.hid hcan
  have HG := Lib.hid hG
  have HLL := Lib.hid hl
  have hli : (l.length : Int) ≤ 4000 := by omega
  obtain ⟨P, hP⟩ : ∃ P, P = plR (szR (szL l) G) := ⟨_, rfl⟩
  have HP := Lib.hid hP
  have HPB := Lib.hid (show ∀ i, 0 ≤ P i ∧ P i ≤ 8 * (i : Int) by
    rw [hP]
    refine plR_bd fun i => ?_
    unfold szR
    have := szL_bd l i
    split <;> omega)
  rw [← hP]
  clear hA hok hcan hG hP
  go_enter Tryd.func14, Tryd.ntmps14
  go_upto_region 2 with fail
  have HO0 := Lib.hid (own_emptyZ w w.heap.size (Nat.le_refl _))
  have HB0 := Lib.hid (Below.alloc (Below.refl w.heap.size w) (Nat.le_refl _) (.cells #[] 3))
  obtain ⟨e0, he0⟩ : ∃ e, e = w.heap.size := ⟨_, rfl⟩
  have HWS := Lib.hid (show w.heap.size ≤ w.heap.size from Nat.le_refl _)
  generalize hW1 : w.alloc (.cells #[] 3) = W1 at *
  go_wp2_with fail
  go_loopw [5, 6, 7] (fun s5 s6 s7 wr => ∃ (k : Nat) (pk : Int), k ≤ l.length ∧ s7 = .int .i64 k ∧ s6 = .int .i64 pk ∧ pk = P k ∧ OwnZ wr w.heap.size s5 ((List.range k).map P) ∧ Below w.heap.size w wr) (fun _ _ s7 _ => l.length - (intOf s7).toNat)
  case atStart => exact ⟨0, 0, Nat.zero_le _, rfl, rfl, by rw [HP.out]; rfl, HO0.out, HB0.out⟩
  case round =>
    obtain ⟨k, pk, hk, rfl, rfl, hpk, hO, hB⟩ := hrel
    obtain ⟨sa, sc, rfl, hsc⟩ := own_slZ hO
    have HO := Lib.hid hO
    have HB := Lib.hid hB
    have hpn : ((List.range k).map P).length = k := by simp
    simp only [hpn]
    simp only [hpn] at HO hsc
    have HPK := Lib.hid (HPB.out k)
    rw [← hpk] at HPK
    have HPE := Lib.hid hpk
    clear hpk
    have p0 := HPK.out.1
    have p1 : pk ≤ 32000 := by have := HPK.out.2; omega
    have HSW := Lib.hid (show w.heap.size ≤ wr.heap.size from HB.out.size)
    clear hO hB hpn
    by_cases hkl : k < l.length
    · obtain ⟨x, hx⟩ : ∃ x, l[k]? = some x := ⟨_, List.getElem?_eq_getElem hkl⟩
      have HKL := Lib.hid hkl
      have HXI := Lib.hid hx
      have HIC := Lib.hid (fun W (h : Below w.heap.size w W) => (HA.out.later h) k x hx)
      have HX := Lib.hid (HOK.out x (List.mem_of_getElem? hx))
      have HKD := Lib.hid (can_kd (HCA.out x (List.mem_of_getElem? hx)))
      have HAA := Lib.hid (HA.out k x hx)
      obtain ⟨g, off, hat, -⟩ := HAA.out
      subst hat
      have k0 : (0 : Int) ≤ (k : Int) := by omega
      have k1 : (k : Int) < (l.length : Int) := by omega
      clear hx hkl hk
      go_upto_region 5 with fail
      go_cut [5] (fun s5 wx => OwnZ wx w.heap.size s5 ((List.range k).map P ++ [pk]) ∧ Below w.heap.size w wx)
      case first =>
        go_wp2_with (at_builtin; refine app_int rfl (.tmp 16) (.tmp 18) rfl w.heap.size (.slice sa k sc) ((List.range k).map P) rfl HO.out pk rfl (by have := HKL.out; have := HLL.out; simp; omega) HSW.out ?_; intro v' w' h1 h2; have HV := Lib.hid h1; have HO2 := Lib.hid h2; clear h1 h2)
        go_meet
        exact ⟨HV.out, HO2.out.below HB.out (Nat.le_refl _) (fun j hj => hj)⟩
      case rest =>
        obtain ⟨ho, hb⟩ := hcut
        obtain ⟨va, vc, rfl, hvc⟩ := own_slZ ho
        have hvl : ((List.range k).map P ++ [pk]).length = k + 1 := by simp
        have OW := Lib.hid (show OwnZ wc w.heap.size (.slice va (k + 1) vc) ((List.range k).map P ++ [pk]) by rw [hvl] at ho; exact ho)
        have BW := Lib.hid hb
        clear ho hb HO HB HSW
        obtain ⟨g', off', hat, hg, c0, c1, c2, c3, c4, c5, c6⟩ := HIC.out wc BW.out
        injection hat with hat; injection hat with h1 h2; subst h1 h2
        obtain ⟨kd, o, d, a, b', i, lb⟩ := x
        dsimp only at c0 c1 c2 c3 c4 c5 c6
        simp only [hvl]
        clear hvl
        by_cases h2 : kd = 2
        · have t2 : (kd == 2) = true := by simp [h2]
          have t5 : (kd == 5) = false := by simp [h2]
          have HSV := Lib.hid (show szI ⟨kd, o, d, a, b', i, lb⟩ = 0 by unfold szI; dsimp only; rw [if_neg (by omega), if_neg (by omega)])
          clear h2
          have f0 := (HG.out.over BW.out).cell k _ (bR_at G HKL.out)
          have fl := (HG.out.over BW.out).lt
          cases hGk : G k with
          | true =>
            rw [hGk] at f0
            have HNX := Lib.hid (show P (k + 1) = pk + 8 by rw [HP.out, HPE.out, HP.out]; show _ + szR (szL l) G k = _; unfold szR; rw [hGk]; rfl)
            clear hGk
            go_wp2_with fail
            exact ⟨⟨k + 1, _, HKL.out, rfl, rfl, HNX.out.symm, by rw [List.range_succ, List.map_append, List.map_singleton, ← HPE.out]; exact OW.out, BW.out⟩, by have := HKL.out; simp [intOf]; omega⟩
          | false =>
            rw [hGk] at f0
            have HNX := Lib.hid (show P (k + 1) = pk + 0 by rw [HP.out, HPE.out, HP.out]; show _ + szR (szL l) G k = _; unfold szR; rw [hGk, szL_at HXI.out, HSV.out]; rfl)
            clear hGk
            go_wp2_with fail
            exact ⟨⟨k + 1, _, HKL.out, rfl, rfl, by rw [HNX.out]; try rw [Int.add_zero], by rw [List.range_succ, List.map_append, List.map_singleton, ← HPE.out]; exact OW.out, BW.out⟩, by have := HKL.out; simp [intOf]; omega⟩
        · have t2 : (kd == 2) = false := by simp [h2]
          by_cases h5 : kd = 5
          · have t5 : (kd == 5) = true := by simp [h5]
            have HSV := Lib.hid (show szI ⟨kd, o, d, a, b', i, lb⟩ = 4 * ((setS d i).length : Int) by unfold szI; dsimp only; rw [if_neg (by omega), if_pos h5])
            have HST := Lib.hid (fun W => rset_any d i W HX.out.2.2.2.2.2.1)
            have hs2 : ((setS d i).length : Int) ≤ 2 := by have := setS_len d i; omega
            have hs0 : (0 : Int) ≤ ((setS d i).length : Int) := by omega
            obtain ⟨L, hL⟩ : ∃ L, L = setS d i := ⟨_, rfl⟩
            rw [← hL] at HSV HST hs2 hs0
            clear h2 h5 hL
            go_upto_region 10 with fail
            obtain ⟨W8, hW8⟩ : ∃ W, W = wc := ⟨_, rfl⟩
            rw [← hW8] at c0 c1 c2 c3 c4 c5 c6 hg BW OW ⊢
            clear hW8
            have PS := Lib.hid (show ∀ W', Below W8.heap.size W8 W' → (fun (w' : World) => w'.cell? ⟨g, off + k * 7 + 2, none⟩ = some (.int .i64 d) ∧ w'.cell? ⟨g, off + k * 7 + 5, none⟩ = some (.int .i32 i) ∧ Below W8.heap.size W8 w') W' from fun W' h => ⟨(h.cell (p := ⟨g, _, none⟩) hg).trans c2, (h.cell (p := ⟨g, _, none⟩) hg).trans c5, h⟩)
            have hmul : IntKind.i64.wrap (4 * (L.length : Int)) = 4 * (L.length : Int) := by simp [IntKind.wrap, IntKind.signed, IntKind.bits]; omega
            go_cut [8] (fun s8 wx => s8 = .int .i64 (4 * (L.length : Int)) ∧ Below W8.heap.size W8 wx)
            case first =>
              go_region_held3 (fun (w' : World) => w'.cell? ⟨g, off + k * 7 + 2, none⟩ = some (.int .i64 d) ∧ w'.cell? ⟨g, off + k * 7 + 5, none⟩ = some (.int .i32 i) ∧ Below W8.heap.size W8 w')
                (first | (with_reducible assumption) | (refine PS.out _ ?_; first | (with_reducible exact Below.refl _ _) | (with_reducible exact (Below.refl _ _).drew) | (with_reducible exact hB2) | (with_reducible exact hB2.drew)))
                (first | (go_at_call 24; (with_reducible refine (HST.out _).mono ?_); unfold SetPost; rintro e w9 ⟨v9, rfl, hv9, hb9⟩; obtain ⟨qa, qc, rfl⟩ := own_slI hv9; have hB2 : Below W8.heap.size W8 w9 := (by first | (with_reducible exact hb9) | exact below_call (Below.refl W8.heap.size W8).drew hb9); clear hb9 hv9))
              all_goals (go_wp2_with fail)
              all_goals go_meet
              all_goals (first | exact ⟨rfl, hB2⟩ | exact ⟨rfl, hB2.drew⟩)
            case rest =>
              obtain ⟨h8, hb⟩ := hcut
              subst h8
              have BW8 := Lib.hid (below_call BW.out hb)
              have OW8 := Lib.hid (own_overZ OW.out (Out.of_below (fun _ => False) hb) (fun _ _ => id))
              have s4 : 4 * (L.length : Int) ≤ 8 := by omega
              have s5 : 0 ≤ 4 * (L.length : Int) := by omega
              obtain ⟨z, hz⟩ : ∃ z, z = 4 * (L.length : Int) := ⟨_, rfl⟩
              rw [← hz] at HSV s4 s5 ⊢
              clear hb c0 c1 c2 c3 c4 c5 c6 BW OW PS hmul hs2 hs0 hz HST
              have BW := BW8
              have OW := OW8
              have f0 := (HG.out.over BW.out).cell k _ (bR_at G HKL.out)
              have fl := (HG.out.over BW.out).lt
              cases hGk : G k with
              | true =>
                rw [hGk] at f0
                have HNX := Lib.hid (show P (k + 1) = pk + 8 by rw [HP.out, HPE.out, HP.out]; show _ + szR (szL l) G k = _; unfold szR; rw [hGk]; rfl)
                clear hGk
                go_wp2_with fail
                exact ⟨⟨k + 1, _, HKL.out, rfl, rfl, HNX.out.symm, by rw [List.range_succ, List.map_append, List.map_singleton, ← HPE.out]; exact OW.out, BW.out⟩, by have := HKL.out; simp [intOf]; omega⟩
              | false =>
                rw [hGk] at f0
                have HNX := Lib.hid (show P (k + 1) = pk + z by rw [HP.out, HPE.out, HP.out]; show _ + szR (szL l) G k = _; unfold szR; rw [hGk, szL_at HXI.out, HSV.out]; rfl)
                clear hGk
                go_wp2_with fail
                exact ⟨⟨k + 1, _, HKL.out, rfl, rfl, by rw [HNX.out]; try rw [Int.add_zero], by rw [List.range_succ, List.map_append, List.map_singleton, ← HPE.out]; exact OW.out, BW.out⟩, by have := HKL.out; simp [intOf]; omega⟩
          · have t5 : (kd == 5) = false := by simp [h5]
            have HSV := Lib.hid (show szI ⟨kd, o, d, a, b', i, lb⟩ = 4 by unfold szI; dsimp only; rw [if_pos (by have h := HKD.out; dsimp only at h; omega)])
            clear h2 h5
            have f0 := (HG.out.over BW.out).cell k _ (bR_at G HKL.out)
            have fl := (HG.out.over BW.out).lt
            cases hGk : G k with
            | true =>
              rw [hGk] at f0
              have HNX := Lib.hid (show P (k + 1) = pk + 8 by rw [HP.out, HPE.out, HP.out]; show _ + szR (szL l) G k = _; unfold szR; rw [hGk]; rfl)
              clear hGk
              go_wp2_with fail
              exact ⟨⟨k + 1, _, HKL.out, rfl, rfl, HNX.out.symm, by rw [List.range_succ, List.map_append, List.map_singleton, ← HPE.out]; exact OW.out, BW.out⟩, by have := HKL.out; simp [intOf]; omega⟩
            | false =>
              rw [hGk] at f0
              have HNX := Lib.hid (show P (k + 1) = pk + 4 by rw [HP.out, HPE.out, HP.out]; show _ + szR (szL l) G k = _; unfold szR; rw [hGk, szL_at HXI.out, HSV.out]; rfl)
              clear hGk
              go_wp2_with fail
              exact ⟨⟨k + 1, _, HKL.out, rfl, rfl, by rw [HNX.out]; try rw [Int.add_zero], by rw [List.range_succ, List.map_append, List.map_singleton, ← HPE.out]; exact OW.out, BW.out⟩, by have := HKL.out; simp [intOf]; omega⟩
    · obtain rfl : k = l.length := by omega
      have kx : ¬ ((l.length : Int) < (l.length : Int)) := by omega
      clear hkl hk
      go_upto_region 14 with fail
      go_cut [4] (fun s4 wx => OwnZ wx w.heap.size s4 ((List.range l.length).map P ++ [pk]) ∧ Below w.heap.size w wx)
      case first =>
        go_wp2_with (at_builtin; refine app_int rfl (.tmp 54) (.tmp 56) rfl w.heap.size (.slice sa l.length sc) ((List.range l.length).map P) rfl HO.out pk rfl (by have := HLL.out; simp; omega) HSW.out ?_; intro v' w' h1 h2; have HV := Lib.hid h1; have HO2 := Lib.hid h2; clear h1 h2)
        go_meet
        exact ⟨HV.out, HO2.out.below HB.out (Nat.le_refl _) (fun j hj => hj)⟩
      case rest =>
        obtain ⟨ho, hb⟩ := hcut
        rw [show (List.range l.length).map P ++ [pk] = (List.range (l.length + 1)).map P by rw [List.range_succ, List.map_append, HPE.out]; rfl] at ho
        obtain ⟨g, vc, rfl, hvc, hgb, hrow⟩ := own_rowZ ho (by rw [List.range_succ]; simp)
        have HR := Lib.hid hrow
        have BW := Lib.hid hb
        have hvl : ((List.range (l.length + 1)).map P).length = l.length + 1 := by simp
        simp only [hvl]
        clear hvl ho hb hrow HO HB
        go_wp2_with fail
        go_ret
        exact pl_mk hvc (by rw [iR_zV]; exact HR.out) BW.out
end Go.Proofs.YtipecnofjdhobaaDoor
