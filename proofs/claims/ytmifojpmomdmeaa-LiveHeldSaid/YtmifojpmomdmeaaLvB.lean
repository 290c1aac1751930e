/- live.takes. -/
import Derived.Test.YtmifojpmomdmeaaLvA
import Derived.Test.YtmifojpmomdmeaaLvM
namespace Go.Proofs.Ytmifojpmomdmeaa
open Go Go.RowKit Go.Maps
set_option linter.unusedVariables false
set_option linter.unusedSimpArgs false
set_option maxRecDepth 100000

theorem find_hit {L : List Nat} {c : Nat → Bool} {q y : Nat} (h0 : (L.take q).find? c = none) (h : L[q]? = some y) (hc : c y = true) : L.find? c = some y := by
  have e : L = L.take q ++ L.drop q := (List.take_append_drop q L).symm
  rw [e, List.find?_append, h0, List.drop_eq_getElem_cons (List.getElem?_eq_some_iff.1 h).1, (List.getElem?_eq_some_iff.1 h).2]
  simp [hc]
theorem find_miss {L : List Nat} {c : Nat → Bool} {q y : Nat} (h0 : (L.take q).find? c = none) (h : L[q]? = some y) (hc : c y = false) : (L.take (q + 1)).find? c = none := by
  rw [List.take_add_one, h, List.find?_append, h0]
  simp [hc]
set_option maxHeartbeats 8000000 in
theorem takes_any (g : GrQ) (m : Lv) (i B b n : Nat) (p : Nat → Option Nat) (w : World) (hN : NdsIn w g.na g.ns g.nc) (hn : g.ns.length ≤ 1000) (hv : 1 ≤ m.L.getD i 0 ∧ m.L.getD i 0 ≤ g.ns.length) (hi : i ≤ 1000)
    (hah : ∀ (k : Nat) (nd : Nd), g.ns[k]? = some nd → ∀ z ∈ insN nd, 0 ≤ z ∧ z ≤ (k : Int)) (hmi : ∀ v, 1 ≤ v → v ≤ g.ns.length → m.ins v = insF g.ns (v - 1)) (hmt : ∀ v, 1 ≤ v → v ≤ g.ns.length → m.tk v = decide (opF g.ns (v - 1) = 9 ∨ opF g.ns (v - 1) = 11 ∨ opF g.ns (v - 1) = 7 ∨ opF g.ns (v - 1) = 8)) (hmo : (m.out : Int) = g.o)
    (hB : RowAt w B (intsV (mapI (g.ns.length + 1) m.last))) (hM : MapAt w b n p) :
    Calls Try.prog 21 #[g.val, .int .i64 (m.L.getD i 0 : Nat), .int .i64 (i : Int), .slice (some ⟨B, 0, none⟩) (g.ns.length + 1) (g.ns.length + 1), .map (some b)] w fun e w' =>
      e = .returned (.tuple #[.int .i64 (((m.takes i p).getD 0 : Nat) : Int), .bool (m.takes i p).isSome]) ∧ Below w.heap.size w w' := by
  obtain ⟨T, Z, Z0, NL⟩ := node_type
  have hL := NL.load
  have hAl := NL.alloc
  have hSt := NL.store
  have tA := NL.agg
  have tS := NL.size
  have tZ := NL.zero
  obtain ⟨v, hv0⟩ : ∃ v, v = m.L.getD i 0 := ⟨_, rfl⟩
  have HTD := Lib.hid (show m.takes i p = if m.tk v then (m.ins v).find? (m.can i p) else none by rw [hv0]; rfl)
  rw [← hv0] at hv ⊢
  obtain ⟨gx, gy, gz, ca, cc, C, na, nc, ns, go⟩ := g
  dsimp only at *
  obtain ⟨v1, v2⟩ := hv
  obtain ⟨j, rfl⟩ : ∃ j, v = j + 1 := ⟨v - 1, by omega⟩
  obtain ⟨nd, hnd⟩ : ∃ x, ns[j]? = some x := ⟨_, List.getElem?_eq_getElem (by omega)⟩
  have HI := Lib.hid (show m.ins (j + 1) = (insN nd).map Int.toNat by rw [hmi (j + 1) v1 v2, Nat.add_sub_cancel, insF_at hnd])
  have HT := Lib.hid (show m.tk (j + 1) = decide (nd.op = 9 ∨ nd.op = 11 ∨ nd.op = 7 ∨ nd.op = 8) by rw [hmt (j + 1) v1 v2, Nat.add_sub_cancel, opF_at hnd])
  have HZB := Lib.hid (hah j nd hnd)
  obtain ⟨nb, noff, hna, hnb, hrg⟩ := nds_range hN j nd hnd
  subst hna
  have hnl := hN.1
  rw [List.length_map] at hnl
  have hcb : nc ≤ 9223372036854775807 := hN.2.1
  have HRB := Lib.hid hB
  have HMA := Lib.hid hM
  have HMO := Lib.hid hmo
  obtain ⟨vp, hvp⟩ : ∃ x : Nat, x = j + 1 := ⟨_, rfl⟩
  unfold GrQ.val
  dsimp only
  have RG := Lib.hid (RowAt.new w [.int .i64 gx, .int .i64 gy, .int .i64 gz, .slice ca C.length cc, .slice (some ⟨nb, noff, none⟩) ns.length nc, .int .i64 go] 26)
  have BW := Lib.hid (Below.alloc (Below.refl w.heap.size w) (Nat.le_refl _) (.cells #[.int .i64 gx, .int .i64 gy, .int .i64 gz, .slice ca C.length cc, .slice (some ⟨nb, noff, none⟩) ns.length nc, .int .i64 go] 26))
  have u0 : (0 : Int) ≤ (j : Int) := by omega
  have u1 : (j : Int) < (ns.length : Int) := by omega
  have hw : IntKind.i64.wrap ((vp : Int) - 1) = (j : Int) := by rw [hvp]; simp [IntKind.wrap, IntKind.signed, IntKind.bits]; omega
  have hw2 : (vp : Int) - 1 = (j : Int) := by omega
  have hw3 : IntKind.i64.wrap (j : Int) = (j : Int) := by simp [IntKind.wrap, IntKind.signed, IntKind.bits]; omega
  have HRG := Lib.hid (fun (W : World) (hW : Below w.heap.size w W) => NL.read nd W nb (noff + j * 26) (fun q u hu => (hW.cell (p := ⟨nb, _, none⟩) hnb).trans (hrg q u hu)))
  have RI := Lib.hid (fun W => ins_any nd W)
  have tLn := NL.len nd
  have HNB := Lib.hid hnb
  rw [← hvp]
  have HJN := Lib.hid v2
  clear hN hB hM hrg hnd hah hmi hmt hmo hv0 v1 v2
  go_enter Try.func21, Try.ntmps21
  simp only [hL, hAl, hSt]
  clear hL hAl hSt
  go_upto_region 1 with fail
  obtain ⟨W1, hW1⟩ : ∃ W, W = w.alloc (.cells #[.int .i64 gx, .int .i64 gy, .int .i64 gz, .slice ca C.length cc, .slice (some ⟨nb, noff, none⟩) ns.length nc, .int .i64 go] 26) := ⟨_, rfl⟩
  have hE : w.alloc (.cells [Value.int .i64 gx, .int .i64 gy, .int .i64 gz, .slice ca C.length cc, .slice (some ⟨nb, noff, none⟩) ns.length nc, .int .i64 go].toArray 26) = W1 := by rw [hW1]
  rw [hE] at RG
  rw [← hW1] at BW ⊢
  clear hE hW1
  have b4 := RG.out.cell 4 _ rfl
  have bl := RG.out.lt
  have tR := HRG.out _ BW.out
  have hnb2 := Nat.lt_of_lt_of_le HNB.out BW.out.size
  have tB := NL.st1 nd W1
  go_upto_region 2 with fail
  have hal : Below W1.heap.size W1 (W1.alloc (.cells nd.cells.toArray T)) := Below.alloc (Below.refl _ _) (Nat.le_refl _) _
  have RX := Lib.hid (RowAt.new W1 nd.cells T)
  have RG2 := Lib.hid (RG.out.over hal)
  have B2 := Lib.hid (below_call BW.out hal)
  clear b4 bl tR hnb2 tB
  obtain ⟨X, hX⟩ : ∃ X, X = W1.heap.size := ⟨_, rfl⟩
  rw [← hX] at RX ⊢
  clear hal hX
  obtain ⟨W2, hW2⟩ : ∃ W, W = W1.alloc (.cells nd.cells.toArray T) := ⟨_, rfl⟩
  rw [← hW2] at RX RG2 B2 ⊢
  clear hW2
  have x0 := RX.out.cell 0 (.int .i64 nd.op) rfl
  have xl := RX.out.lt
  have tR := NL.read nd W2 X 0 RX.out.range
  by_cases hor : nd.op = 9 ∨ nd.op = 11 ∨ nd.op = 7 ∨ nd.op = 8
  · have HE := Lib.hid (show m.takes i p = ((insN nd).map Int.toNat).find? (m.can i p) by rw [HTD.out, HT.out, decide_eq_true hor, if_pos rfl, HI.out])
    clear HTD HT HI
    rcases hor with h | h | h | h <;> rw [h] at x0 <;> clear h
    all_goals
      go_wp2_with (go_at_call 38; (with_reducible refine (RI.out _).mono ?_); rintro e w5 ⟨at0, rfl, hb5, hin⟩; have HB5 := Lib.hid hb5; have HIN := Lib.hid hin; clear hb5 hin)
      have hil : ((insN nd).length : Int) ≤ 2 := by have := ins_len nd; omega
      clear tR x0 xl
      have HR5 := Lib.hid (HRB.out.over (below_call B2.out HB5.out))
      have HM5 := Lib.hid (HMA.out.over (below_call B2.out HB5.out))
      have HG5 := Lib.hid (RG2.out.over HB5.out)
      go_loopw [33] (fun s33 wx => ∃ q : Nat, q ≤ (insN nd).length ∧ s33 = .int .i64 q ∧ wx = w5 ∧ (((insN nd).map Int.toNat).take q).find? (m.can i p) = none) (fun s33 _ => (insN nd).length - (intOf s33).toNat)
      case atStart => exact ⟨0, Nat.zero_le _, rfl, rfl, rfl⟩
      case round =>
        obtain ⟨q, hq, rfl, hww, hf⟩ := hrel
        subst hww
        have HF := Lib.hid hf
        clear hf
        by_cases hql : q < (insN nd).length
        · obtain ⟨z, hzz⟩ : ∃ z, (insN nd)[q]? = some z := ⟨_, List.getElem?_eq_getElem hql⟩
          obtain ⟨z0, z1⟩ := HZB.out z (List.mem_of_getElem? hzz)
          obtain ⟨y, rfl⟩ : ∃ y : Nat, z = (y : Int) := ⟨z.toNat, by omega⟩
          obtain ⟨gi, hat, hgi, hgl, hci⟩ := HIN.out q _ hzz
          subst hat
          have hyN : y < ns.length + 1 := by have := HJN.out; omega
          have d0 := HR5.out.cell y _ (mapI_at _ hyN)
          have dl := HR5.out.lt
          have g5 := HG5.out.cell 5 _ rfl
          have gl := HG5.out.lt
          have y0 : (0 : Int) ≤ (y : Int) := by omega
          have y1 : (y : Int) < (ns.length : Int) + 1 := by omega
          have q0 : (0 : Int) ≤ (q : Int) := by omega
          have q1 : (q : Int) < ((insN nd).length : Int) := by omega
          have HQ := Lib.hid hql
          have HLQ := Lib.hid (show ((insN nd).map Int.toNat)[q]? = some y by rw [List.getElem?_map, hzz]; simp)
          have HYO := Lib.hid (show y = m.out ↔ (y : Int) = go by have := HMO.out; omega)
          clear hzz hql hq z0 z1
          by_cases hp : (p y).isSome = true
          · by_cases ho : go = (y : Int)
            · subst ho
              go_wp2_with (at_lookup; refine look_ok _ rfl _ _ 57 rfl Try.underlying57 b n p rfl HM5.out y rfl (by omega) true hp ?_; intro c0)
              exact ⟨⟨q + 1, by have := HQ.out; omega, rfl, trivial, find_miss HF.out HLQ.out (by simp [Lv.can, HYO.out.2 rfl])⟩, by have := HQ.out; simp [intOf]; omega⟩
            · have ho2 : ¬ (y : Int) = go := fun e => ho e.symm
              obtain ⟨l, hll⟩ : ∃ l, l = m.last y := ⟨_, rfl⟩
              rw [← hll] at d0
              have HLL := Lib.hid hll
              clear hll
              by_cases hl : l = (i : Int)
              · go_wp2_with (at_lookup; refine look_ok _ rfl _ _ 57 rfl Try.underlying57 b n p rfl HM5.out y rfl (by omega) true hp ?_; intro c0)
                go_returns
                exact ⟨by rw [HE.out, find_hit HF.out HLQ.out (by simp [Lv.can, hp, mt HYO.out.1 ho2, ← HLL.out, hl])]; rfl, below_call B2.out HB5.out⟩
              · go_wp2_with (at_lookup; refine look_ok _ rfl _ _ 57 rfl Try.underlying57 b n p rfl HM5.out y rfl (by omega) true hp ?_; intro c0)
                rotate_left
                exact ⟨⟨q + 1, by have := HQ.out; omega, rfl, trivial, find_miss HF.out HLQ.out (by simp [Lv.can, ← HLL.out, hl])⟩, by have := HQ.out; simp [intOf]; omega⟩
                rename_i hx
                exfalso
                simp [hl] at hx
          · rw [Bool.not_eq_true] at hp
            go_wp2_with (at_lookup; refine look_ok _ rfl _ _ 57 rfl Try.underlying57 b n p rfl HM5.out y rfl (by omega) false hp ?_; intro c0)
            exact ⟨⟨q + 1, by have := HQ.out; omega, rfl, trivial, find_miss HF.out HLQ.out (by simp [Lv.can, hp])⟩, by have := HQ.out; simp [intOf]; omega⟩
        · obtain rfl : q = (insN nd).length := by omega
          have q1 : ¬ (((insN nd).length : Int) < ((insN nd).length : Int)) := by omega
          have HE2 := Lib.hid (show m.takes i p = none by
            have h := HF.out
            rw [List.take_of_length_le (by simp)] at h
            rw [HE.out, h])
          clear hql hq
          go_wp2_with fail
          go_returns
          exact ⟨by rw [HE2.out]; rfl, below_call B2.out HB5.out⟩
  · have HE := Lib.hid (show m.takes i p = none by rw [HTD.out, HT.out, decide_eq_false hor]; rfl)
    have o1 : ¬ nd.op = 9 := fun e => hor (.inl e)
    have o2 : ¬ nd.op = 11 := fun e => hor (.inr (.inl e))
    have o3 : ¬ nd.op = 7 := fun e => hor (.inr (.inr (.inl e)))
    have o4 : ¬ nd.op = 8 := fun e => hor (.inr (.inr (.inr e)))
    clear HTD HT HI tR hor
    go_wp2_with fail
    go_returns
    exact ⟨by rw [HE.out]; rfl, B2.out⟩
end Go.Proofs.Ytmifojpmomdmeaa
