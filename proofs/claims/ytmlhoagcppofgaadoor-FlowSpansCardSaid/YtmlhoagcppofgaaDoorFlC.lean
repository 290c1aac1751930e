/- Package flow: Back, for all words. -/
import Derived.Test.YtmlhoagcppofgaaDoorFl
import Derived.Test.YtmlhoagcppofgaaDoorFlB
import Derived.Deep.OwnRows
namespace Go.Proofs.YtmlhoagcppofgaaDoor
open Go Go.RowKit Pl
set_option linter.unusedVariables false

theorem own_formF {w : World} {base n size : Nat} {e : TypeId} {v : Value} {xs : List Value} (h : w.ownsRow base e size v n xs) : ∃ a c, v = .slice a n c := by
  obtain ⟨_, ⟨hv, hn⟩ | ⟨g, cap, cur, hv, hg, hh, hc, hcm, _⟩⟩ := h
  · subst hn; exact ⟨none, 0, hv⟩
  · exact ⟨_, cap, hv⟩
theorem own_laterF {w w1 : World} {base n size : Nat} {e : TypeId} {v : Value} {xs : List Value} (h : w.ownsRow base e size v n xs) (hb : Below w.heap.size w w1) : w1.ownsRow base e size v n xs :=
  h.kept (show w.grownBy w1 none from ⟨hb.os, hb.tape, hb.output, hb.size, fun i hi _ => hb.block i hi⟩) (by cases v.ownBlock <;> simp)
theorem below_grownF {m : Nat} {w w1 w' : World} {v : Value} (h : Below m w w1) (hg : w1.grownBy w' v.ownBlock) (hm : m ≤ w1.heap.size) (hv : ∀ k, v.ownBlock = some k → m ≤ k) : Below m w w' :=
  h.grown hg hm hv
theorem info_2F : (Tryd.prog.info? 48).map (fun i => (i.zero, i.size, i.bytes)) = some (some (.agg #[.int .i64 0, .int .i64 0]), 2, 16) := by kernel_rfl
theorem news_2F (w : World) (x y : Int) (H : Nat) (hH : w.heap.size = H) : ∀ j u, [Value.int .i64 x, Value.int .i64 y][j]? = some u → (w.alloc (.cells #[.int .i64 x, .int .i64 y] 48)).cell? ((⟨H, 0, none⟩ : Addr).add j) = some u := by
  subst hH
  intro j u hj
  match j, hj with
  | 0, hj => cases hj; go_simp
  | 1, hj => cases hj; go_simp
theorem two_oneF (x y : Int) : ∀ u ∈ [Value.int .i64 x, Value.int .i64 y], u.oneCell' = true := by
  intro u hu
  rcases List.mem_cons.1 hu with rfl | hu
  · rfl
  · rcases List.mem_cons.1 hu with rfl | hu
    · rfl
    · cases hu
def pairsV (l : List (Nat × Nat)) : List Value := l.flatMap fun p => [.int .i64 (p.1 : Int), .int .i64 (p.2 : Int)]
theorem pairs_len (l : List (Nat × Nat)) : (pairsV l).length = 2 * l.length := by
  induction l with
  | nil => rfl
  | cons p l ih => rw [show pairsV (p :: l) = [.int .i64 (p.1 : Int), .int .i64 (p.2 : Int)] ++ pairsV l from rfl, List.length_append, ih]; simp; omega
theorem pairs_put (l : List (Nat × Nat)) (p : Nat × Nat) : pairsV (l ++ [p]) = pairsV l ++ [.int .i64 (p.1 : Int), .int .i64 (p.2 : Int)] := by
  unfold pairsV; rw [List.flatMap_append]; rfl
theorem dec_gen (x : Int) (h0 : 0 ≤ x) (h1 : x < 4294967296) : ∃ o d u v im : Int, decI x = ⟨o, d, u, v, im⟩ ∧ okI x = decide (o ≠ 0) ∧ (-2147483648 ≤ im ∧ im ≤ 2147483647) := by
  have hm := dec_imm x h0 h1
  cases h : decI x with
  | mk o d u v im =>
    rw [h] at hm
    exact ⟨o, d, u, v, im, rfl, okI_iff h h0 h1, hm⟩
/-- how a branch or a jump goes back, if it does -/
theorem bk_cases (i n : Nat) (q : Q5) (hi : i < n) : (∃ k : Nat, bkQ i q = some k ∧ aimO q.o = true ∧ q.i % 4 = 0 ∧ (i : Int) + q.i / 4 = k ∧ k ≤ i) ∨ (bkQ i q = none ∧ (¬ (aimO q.o = true ∧ q.i % 4 = 0) ∨ ∃ k : Int, aimO q.o = true ∧ q.i % 4 = 0 ∧ (i : Int) + q.i / 4 = k ∧ (¬ (0 ≤ k ∧ k < n) ∨ (i : Int) < k))) := by
  by_cases h : aimO q.o = true ∧ q.i % 4 = 0
  · by_cases g : 0 ≤ (i : Int) + q.i / 4 ∧ (i : Int) + q.i / 4 ≤ i
    · refine .inl ⟨((i : Int) + q.i / 4).toNat, ?_, h.1, h.2, by omega, by omega⟩
      unfold bkQ; rw [if_pos ⟨h.1, h.2, g.1, g.2⟩]
    · refine .inr ⟨?_, .inr ⟨(i : Int) + q.i / 4, h.1, h.2, rfl, by omega⟩⟩
      unfold bkQ; rw [if_neg (fun e => g e.2.2)]
  · refine .inr ⟨?_, .inl h⟩
    unfold bkQ; rw [if_neg (fun e => h ⟨e.1, e.2.1⟩)]

set_option maxRecDepth 100000 in
set_option maxHeartbeats 2000000 in
theorem back_any (a : Option Addr) (c : Nat) (l : List Nat) (w : World) (ht : T3 w) (hw : WordsC w a l c) (hl : l.length ≤ 1000) :
    Calls Tryd.prog 18 #[.slice a l.length c] w fun e w' => ∃ v, e = .returned v ∧ w'.ownsRow w.heap.size 48 2 v (backsTo l l.length).length (pairsV (backsTo l l.length)) ∧ Below w.heap.size w w' := by
  obtain ⟨i0, hi, hz0, hz1, hz2⟩ := info_parts info_2F
  have HW := Lib.hid hw
  have HT := Lib.hid ht
  clear hw ht
  go_enter Tryd.func18, Tryd.ntmps18
  go_wp2_with fail
  go_loopw [3, 12] (fun v i wr => ∃ n : Nat, n ≤ l.length ∧ i = .int .i64 n ∧ wr.ownsRow w.heap.size 48 2 v (backsTo l n).length (pairsV (backsTo l n)) ∧ Below w.heap.size w wr) (fun _ i _ => l.length - (intOf i).toNat)
  case atStart => exact ⟨0, Nat.zero_le _, rfl, World.ownsRow_nil _ _ _ _, by go_grown⟩
  case round =>
    obtain ⟨n, hn, rfl, own, hb⟩ := hrel
    by_cases hlt : n < l.length
    · obtain ⟨b, off, rfl, hbb, hc, hx⟩ := words_cell (HW.out.later hb) hlt
      have hcl := HW.out.2.1
      have hcm := HW.out.2.2.1
      have u9 := IntWalk.i64_in ((n : Int) + 1) (by omega)
      have OWN := Lib.hid own
      have HB := Lib.hid hb
      have HX := Lib.hid hx
      have QA := Lib.hid (show qAt l n = decI ((l.getD n 0 : Nat) : Int) from rfl)
      clear own hb
      generalize l.getD n 0 = X at *
      obtain ⟨o, d, u, v, im, hQ, hok, hm⟩ := dec_gen (X : Int) (by omega) (by have := HX.out; omega)
      have HQ := Lib.hid hQ
      have HO := Lib.hid hok
      clear hQ hok hx
      have BK := bk_cases n l.length ⟨o, d, u, v, im⟩ hlt
      have QL : qAt l n = ⟨o, d, u, v, im⟩ := QA.out.trans HQ.out
      have LN := backsTo_len l n
      have E1 := Lib.hid (show (backsTo l n).length + 1 ≤ maxLen by simp only [maxLen]; omega)
      have E2 := Lib.hid (show ((backsTo l n).length + 1) * 16 ≤ 140737488355328 by omega)
      have hb0 := HB.out.size
      clear LN
      go_wp2_with fail
      refine (dec_any _ _ (HT.out.later HB.out) (by omega) (by have := HX.out; omega)).mono ?_
      unfold DecP
      rw [HQ.out, HO.out]
      unfold agg5
      rintro e w1 ⟨rfl, hb1⟩
      have OWN1 := Lib.hid (own_laterF OWN.out hb1)
      have HB1 := Lib.hid (below_trans HB.out hb1)
      have hs1 := hb1.size
      rcases BK with ⟨k, hbk, ha, h4, hk, hkn⟩ | ⟨hbk, hno | ⟨k, ha, h4, hk, hkn⟩⟩
      · have BT := Lib.hid (backsTo_some (l := l) (m := n) (k := k) (by rw [QL]; exact hbk))
        have TG := Lib.hid (fun W => target_yes n o d u v im (k : Int) W (by omega) hm.1 hm.2 ha h4 hk)
        have IP := Lib.hid (fun a c W => isPlace_yes a l.length c k W (by omega) hl)
        have hle : decide ((k : Int) ≤ (n : Int)) = true := by simp; omega
        have hle2 : (k ≤ n) = True := eq_true hkn
        clear hbk ha h4 hk QL hkn
        go_wp2_with fail
        refine (TG.out _).mono ?_
        rintro e w2 ⟨rfl, hb2⟩
        have OWN2 := Lib.hid (own_laterF (OWN1.out.alloc _) hb2)
        have HB2 := Lib.hid (below_trans (HB1.out.alloc (o := (.cells #[.int .i64 o, .int .i64 d, .int .i64 u, .int .i64 v, .int .i32 im] 29)) (by omega)) hb2)
        have VO := Lib.hid OWN2.out.lt
        have NW2 := fun W => news_2F W (n : Int) (k : Int) _ rfl
        have hs2 := hb2.size
        simp at hs2
        have hs3 : w.heap.size ≤ w2.heap.size := by omega
        clear hb1 hb2 hs1 hs2 hb0
        go_wp2_with (first | (go_at_call 20; refine (IP.out _ _ _).mono ?_; rintro e w3 ⟨rfl, rfl⟩) | (at_builtin; refine wpList_append_own _ rfl (.tmp 39) (.tmp 43) 44 rfl w.heap.size 48 i0 (.agg #[.int .i64 0, .int .i64 0]) 2 16 Tryd.underlying44 hi hz0 hz1 hz2 rfl (by decide) _ _ _ rfl (OWN2.out.alloc _) ⟨_, 0, none⟩ 1 1 [.int .i64 (n : Int), .int .i64 (k : Int)] rfl rfl (NW2 _) (two_oneF _ _) E1.out E2.out (by simp; omega) ?_; intro v1 w4 hown hg hn))
        refine ⟨⟨n + 1, by omega, rfl, ?_, ?_⟩, by simp [intOf]; omega⟩
        · rw [BT.out, pairs_put, List.length_append]; exact hown
        · exact below_grownF (HB2.out.alloc (by omega) _) hg (by simp; omega) (fun q hq => (VO.out q hq).1)
      · have BT := Lib.hid (backsTo_none (l := l) (m := n) (by rw [QL]; exact hbk))
        have TG := Lib.hid (fun W => target_no n o d u v im W hm.1 hm.2 hno)
        clear hbk hno QL
        go_wp2_with fail
        refine (TG.out _).mono ?_
        rintro e w2 ⟨rfl, hb2⟩
        go_wp2_with fail
        refine ⟨⟨n + 1, by omega, rfl, ?_, below_trans (HB1.out.alloc (o := (.cells #[.int .i64 o, .int .i64 d, .int .i64 u, .int .i64 v, .int .i32 im] 29)) (by omega)) hb2⟩, by simp [intOf]; omega⟩
        rw [BT.out]
        exact own_laterF (OWN1.out.alloc _) hb2
      · have BT := Lib.hid (backsTo_none (l := l) (m := n) (by rw [QL]; exact hbk))
        have TG := Lib.hid (fun W => target_yes n o d u v im k W (by omega) hm.1 hm.2 ha h4 hk)
        have HK := Lib.hid hkn
        clear hbk ha h4 hk QL hkn
        go_wp2_with fail
        refine (TG.out _).mono ?_
        rintro e w2 ⟨rfl, hb2⟩
        by_cases hp : 0 ≤ k ∧ k < (l.length : Int)
        · have IP := Lib.hid (fun a c W => isPlace_any a l.length c k W hl)
          have hpd := decide_eq_true hp
          have hle : decide (k ≤ (n : Int)) = false := by have := HK.out; simp; omega
          clear hp
          go_wp2_with ((go_at_call 20; refine (IP.out _ _ _).mono ?_; rw [hpd]; rintro e w3 ⟨rfl, rfl⟩))
          refine ⟨⟨n + 1, by omega, rfl, ?_, below_trans (HB1.out.alloc (o := (.cells #[.int .i64 o, .int .i64 d, .int .i64 u, .int .i64 v, .int .i32 im] 29)) (by omega)) hb2⟩, by simp [intOf]; omega⟩
          rw [BT.out]
          exact own_laterF (OWN1.out.alloc _) hb2
        · have IP := Lib.hid (fun a c W => isPlace_any a l.length c k W hl)
          have hpd := decide_eq_false hp
          clear hp
          go_wp2_with ((go_at_call 20; refine (IP.out _ _ _).mono ?_; rw [hpd]; rintro e w3 ⟨rfl, rfl⟩))
          refine ⟨⟨n + 1, by omega, rfl, ?_, below_trans (HB1.out.alloc (o := (.cells #[.int .i64 o, .int .i64 d, .int .i64 u, .int .i64 v, .int .i32 im] 29)) (by omega)) hb2⟩, by simp [intOf]; omega⟩
          rw [BT.out]
          exact own_laterF (OWN1.out.alloc _) hb2
    · obtain rfl : l.length = n := by omega
      have OWN := Lib.hid own
      have HB := Lib.hid hb
      clear own hb
      go_wp2_with fail
      go_ret
      exact ⟨_, rfl, OWN.out, HB.out⟩
end Go.Proofs.YtmlhoagcppofgaaDoor
