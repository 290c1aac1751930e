/- What items stand for: each instruction of it has a word. -/
import Derived.Test.YtipecnofjdhobaaDoorRxF
import Derived.Test.YtipecnofjdhobaaDoorRxC
import Derived.Maps.AppendAt
import Derived.Test.YtipecnofjdhobaaDoorInstC
namespace Go.Proofs.YtipecnofjdhobaaDoor
open Go Go.RowKit Pl
set_option linter.unusedVariables false
set_option linter.unusedSimpArgs false

def turnS (op : Int) : Int := if op = 36 then 37 else if op = 37 then 36 else if op = 38 then 39 else if op = 39 then 38 else if op = 40 then 41 else if op = 41 then 40 else 0
theorem can_kd' {x : It} (h : canIt x = true) : x.kd = 1 ∨ x.kd = 2 ∨ x.kd = 3 ∨ x.kd = 4 ∨ x.kd = 5 := by
  unfold canIt at h
  refine Classical.byContradiction fun e => ?_
  rw [if_neg (fun k => e (by omega)), if_neg (fun k => e (by omega)), if_neg (fun k => e (by omega)), if_neg (fun k => e (by omega)), if_neg (fun k => e (by omega))] at h
  cases h
/-- the instructions of an item; its label lies off bytes from it -/
def expI (x : It) (far : Bool) (off : Int) : List Q5 :=
  if x.kd = 2 then [] else if x.kd = 5 then setS x.rd x.im
  else if x.kd = 3 ∧ far = true then [⟨turnS x.op, x.rd, x.ra, x.rb, 8⟩, ⟨44, 0, 0, 0, off - 4⟩]
  else if x.kd = 1 then [x.q] else [⟨x.op, x.rd, x.ra, x.rb, off⟩]
theorem num_b {n : Int} (h : -4096 ≤ n ∧ n ≤ 4094) (h2 : n % 2 = 0) : numOk 3 n = true := by
  unfold numOk
  rw [if_neg (by decide), if_neg (by decide)]
  unfold putOk
  rw [decide_eq_true_eq]
  refine ⟨by decide, by decide, (has_iff (by decide) (by decide) (by omega) (by omega)).2 ?_⟩
  unfold hasS
  simp
  omega
theorem num_j {n : Int} (h : -40000 ≤ n ∧ n ≤ 40000) (h2 : n % 2 = 0) : numOk 5 n = true := by
  unfold numOk
  rw [if_neg (by decide), if_neg (by decide)]
  unfold putOk
  rw [decide_eq_true_eq]
  refine ⟨by decide, by decide, (has_iff (by decide) (by decide) (by omega) (by omega)).2 ?_⟩
  unfold hasS
  simp
  omega
theorem num_i {n : Int} (h : -2048 ≤ n ∧ n ≤ 2047) : numOk 1 n = true := by
  unfold numOk
  rw [if_neg (by decide), if_neg (by decide)]
  unfold putOk
  rw [decide_eq_true_eq]
  refine ⟨by decide, by decide, (has_iff (by decide) (by decide) (by omega) (by omega)).2 ?_⟩
  unfold hasS
  simp
  omega
theorem can_b {o d a b i n : Int} (ho : 36 ≤ o ∧ o ≤ 41) (h : canI ⟨o, d, a, b, i⟩ = true) (hn : -4096 ≤ n ∧ n ≤ 4094) (h2 : n % 2 = 0) {o2 : Int} (ho2 : 36 ≤ o2 ∧ o2 ≤ 41) : canI ⟨o2, d, a, b, n⟩ = true := by
  unfold canI at h ⊢
  dsimp only at h ⊢
  simp only [Bool.and_eq_true] at h ⊢
  obtain ⟨⟨⟨⟨h0, h1⟩, h2'⟩, h3⟩, h4⟩ := h
  have e1 : rD o2 = rD o := by rw [show rD o2 = false by unfold rD; simp; omega, show rD o = false by unfold rD; simp; omega]
  have e2 : rA o2 = rA o := by rw [show rA o2 = true by unfold rA; simp; omega, show rA o = true by unfold rA; simp; omega]
  have e3 : rB o2 = rB o := by rw [show rB o2 = true by unfold rB; simp; omega, show rB o = true by unfold rB; simp; omega]
  have e4 : formI o2 = 3 := by unfold formI; repeat (first | rw [if_pos (by omega)] | rw [if_neg (by omega)])
  exact ⟨⟨⟨⟨by unfold isOpI; simp; omega, by rw [e1]; exact h1⟩, by rw [e2]; exact h2'⟩, by rw [e3]; exact h3⟩, by rw [e4]; exact num_b hn h2⟩
theorem can_j {d a b i n : Int} (h : canI ⟨44, d, a, b, i⟩ = true) (hn : -40000 ≤ n ∧ n ≤ 40000) (h2 : n % 2 = 0) : canI ⟨44, d, a, b, n⟩ = true := by
  unfold canI at h ⊢
  dsimp only at h ⊢
  simp only [Bool.and_eq_true] at h ⊢
  exact ⟨h.1, num_j hn h2⟩
theorem turn_bd {o : Int} (h : 36 ≤ o ∧ o ≤ 41) : (36 ≤ turnS o ∧ turnS o ≤ 41) ∧ turnS o ≠ o := by
  obtain rfl | rfl | rfl | rfl | rfl | rfl : o = 36 ∨ o = 37 ∨ o = 38 ∨ o = 39 ∨ o = 40 ∨ o = 41 := by omega
  all_goals decide
theorem lowS_bd (n : Int) : -2048 ≤ lowS n ∧ lowS n ≤ 2047 := by unfold lowS wrap32; omega
theorem num_u {n : Int} (h0 : -2147483648 ≤ n) (h1 : n ≤ 2147483647) (h : n % 4096 = 0) : numOk 4 n = true := by
  unfold numOk
  rw [if_neg (by decide), if_neg (by decide)]
  unfold putOk
  rw [decide_eq_true_eq]
  refine ⟨by decide, by decide, (has_iff (by decide) (by decide) (by omega) (by omega)).2 ?_⟩
  unfold hasS
  simp
  omega
theorem set_can {rd n : Int} (h : -2147483648 ≤ n ∧ n ≤ 2147483647) : ∀ q ∈ setS rd n, canI q = true := by
  intro q hq
  unfold setS at hq
  split at hq
  · rename_i hr
    have A : ∀ (a i : Int), 0 ≤ a ∧ a < 32 → -2048 ≤ i ∧ i ≤ 2047 → canI ⟨19, rd, a, 0, i⟩ = true := fun a i ha hi => by
      unfold canI
      dsimp only
      simp only [Bool.and_eq_true]
      exact ⟨⟨⟨⟨by decide, by simp [regOk, rD]; omega⟩, by simp [regOk, rA]; omega⟩, by decide⟩, by rw [show formI 19 = 1 by decide]; exact num_i hi⟩
    have U : ∀ i : Int, -2147483648 ≤ i → i ≤ 2147483647 → i % 4096 = 0 → canI ⟨42, rd, 0, 0, i⟩ = true := fun i h0 h1 h2 => by
      unfold canI
      dsimp only
      simp only [Bool.and_eq_true]
      exact ⟨⟨⟨⟨by decide, by simp [regOk, rD]; omega⟩, by decide⟩, by decide⟩, by rw [show formI 42 = 4 by decide]; exact num_u h0 h1 h2⟩
    have hl := lowS_bd n
    have hw : -2147483648 ≤ wrap32 (n - lowS n) ∧ wrap32 (n - lowS n) ≤ 2147483647 ∧ wrap32 (n - lowS n) % 4096 = 0 := by unfold lowS wrap32; omega
    split at hq
    · simp only [List.mem_singleton] at hq; subst hq; exact A 0 n (by omega) (by omega)
    · split at hq
      · simp only [List.mem_cons, List.mem_nil_iff, or_false] at hq
        rcases hq with rfl | rfl
        · exact U _ hw.1 hw.2.1 hw.2.2
        · exact A rd _ (by omega) hl
      · simp only [List.mem_singleton] at hq; subst hq; exact U _ hw.1 hw.2.1 hw.2.2
  · simp at hq
/-- all that an item stands for has words -/
theorem exp_can {x : It} (hx : x.okay) (hc : canIt x = true) {far : Bool} {off : Int} (h0 : x.kd = 3 → far = false → -4096 ≤ off ∧ off ≤ 4094) (h1 : x.kd = 3 ∨ x.kd = 4 → (-39000 ≤ off ∧ off ≤ 39000) ∧ off % 4 = 0) : ∀ q ∈ expI x far off, canI q = true := by
  obtain ⟨kd, o, d, a, b, i, lb⟩ := x
  unfold canIt It.q at hc
  unfold expI It.q
  dsimp only at hc h0 h1 ⊢
  intro q hq
  by_cases k1 : kd = 1
  · subst k1
    simp at hq hc
    subst hq; exact hc
  by_cases k2 : kd = 2
  · subst k2; simp at hq
  by_cases k3 : kd = 3
  · subst k3
    simp at hc
    obtain ⟨⟨⟨p1, p2⟩, p3⟩, p4⟩ := hc
    have hh := h1 (.inl rfl)
    cases far with
    | true =>
      simp at hq
      rcases hq with rfl | rfl
      · exact can_b ⟨p1, p2⟩ p4 (by omega) (by decide) (turn_bd ⟨p1, p2⟩).1
      · exact can_j (d := 0) (a := 0) (b := 0) (i := 0) (by decide) (by omega) (by omega)
    | false =>
      simp at hq
      subst hq
      exact can_b ⟨p1, p2⟩ p4 (h0 rfl rfl) (by omega) ⟨p1, p2⟩
  by_cases k4 : kd = 4
  · subst k4
    simp at hq hc
    subst hq
    obtain ⟨⟨p1, p2⟩, p3⟩ := hc
    subst p1
    exact can_j p3 (by have := h1 (.inr rfl); omega) (by have := h1 (.inr rfl); omega)
  by_cases k5 : kd = 5
  · subst k5
    simp at hq
    exact set_can hx.2.2.2.2.2.1 q hq
  rw [if_neg k1, if_neg k2, if_neg k3, if_neg k4, if_neg k5] at hc
  cases hc
/-- and is as long as there is room -/
theorem exp_len {x : It} (hc : canIt x = true) {far : Bool} (off : Int) (hf : far = true → x.kd = 3) : 4 * ((expI x far off).length : Int) = if far then 8 else szI x := by
  have hk := can_kd' hc
  unfold expI szI
  cases far with
  | true =>
    have k3 := hf rfl
    rw [if_neg (by omega), if_neg (by omega), if_pos ⟨k3, rfl⟩]
    rfl
  | false =>
    simp only [Bool.false_eq_true, and_false, if_false]
    by_cases k2 : x.kd = 2
    · rw [if_pos k2, if_neg (by omega), if_neg (by omega)]; rfl
    by_cases k5 : x.kd = 5
    · rw [if_neg k2, if_pos k5, if_neg (by omega), if_pos k5]
    · have k1 : x.kd = 1 ∨ x.kd = 3 ∨ x.kd = 4 := by omega
      rw [if_neg k2, if_neg k5, if_pos k1]
      split <;> rfl
end Go.Proofs.YtipecnofjdhobaaDoor

namespace Go.Proofs.YtipecnofjdhobaaDoor
open Go Go.RowKit Go.Maps Pl
set_option linter.unusedVariables false
set_option linter.unusedSimpArgs false
set_option maxRecDepth 100000

set_option maxHeartbeats 400000 in
theorem turn_any (op : Int) (w : World) : Calls Tryd.prog 44 #[.int .i64 op] w fun e w' => e = .returned (.int .i64 (turnS op)) ∧ w = w' := by
  by_cases h : 36 ≤ op ∧ op ≤ 41
  · obtain rfl | rfl | rfl | rfl | rfl | rfl : op = 36 ∨ op = 37 ∨ op = 38 ∨ op = 39 ∨ op = 40 ∨ op = 41 := by omega
    all_goals
      go_enter Tryd.func44, Tryd.ntmps44
      go_wp2
      go_ret
      exact ⟨rfl, rfl⟩
  · have e : turnS op = 0 := by unfold turnS; repeat (rw [if_neg (by omega)])
    rw [e]
    clear e
    have t0 : (op == 36) = false := by simp; omega
    have t1 : (op == 37) = false := by simp; omega
    have t2 : (op == 38) = false := by simp; omega
    have t3 : (op == 39) = false := by simp; omega
    have t4 : (op == 40) = false := by simp; omega
    have t5 : (op == 41) = false := by simp; omega
    go_enter Tryd.func44, Tryd.ntmps44
    go_wp2
    go_ret
    exact ⟨rfl, rfl⟩
set_option maxHeartbeats 4000000 in
theorem over_any (o d a b i off : Int) (w : World) (h : -2147483648 ≤ off ∧ off ≤ 2147483647) :
    Calls Tryd.prog 33 #[.agg #[.int .i64 o, .int .i64 d, .int .i64 a, .int .i64 b, .int .i32 i], .int .i64 off] w (SetPost w [⟨turnS o, d, a, b, 8⟩, ⟨44, 0, 0, 0, off⟩]) := by
  have h1 := h.1
  have h2 := h.2
  have hw : IntKind.i32.wrap off = off := by simp [IntKind.wrap, IntKind.signed, IntKind.bits]; omega
  have HT := Lib.hid (fun W => turn_any o W)
  obtain ⟨T, hT⟩ : ∃ T, T = turnS o := ⟨_, rfl⟩
  rw [← hT] at HT ⊢
  clear hT
  have RA := Lib.hid (RowAt.new w [.int .i64 o, .int .i64 d, .int .i64 a, .int .i64 b, .int .i32 i] 36)
  have BA := Lib.hid (Below.alloc (Below.refl w.heap.size w) (Nat.le_refl _) (.cells #[.int .i64 o, .int .i64 d, .int .i64 a, .int .i64 b, .int .i32 i] 36))
  go_enter Tryd.func33, Tryd.ntmps33
  go_upto_region 1 with fail
  obtain ⟨A, hA⟩ : ∃ A, A = w.heap.size := ⟨_, rfl⟩
  rw [← hA] at RA ⊢
  have HAW := Lib.hid (show w.heap.size ≤ A by omega)
  obtain ⟨W1, hW1⟩ : ∃ W, W = w.alloc (.cells #[.int .i64 o, .int .i64 d, .int .i64 a, .int .i64 b, .int .i32 i] 36) := ⟨_, rfl⟩
  have hE : w.alloc (.cells [Value.int .i64 o, .int .i64 d, .int .i64 a, .int .i64 b, .int .i32 i].toArray 36) = W1 := by rw [hW1]
  rw [hE] at RA
  rw [← hW1] at BA ⊢
  clear hE hW1 hA
  have c0 := RA.out.cell 0 _ rfl
  have c1 := RA.out.cell 1 _ rfl
  have c2 := RA.out.cell 2 _ rfl
  have c3 := RA.out.cell 3 _ rfl
  have c4 := RA.out.cell 4 _ rfl
  have f0 := RA.out.fr 0
  have f4 := RA.out.fr 4
  have cl := RA.out.lt
  go_wp2_with (go_at_call 44; refine (HT.out _).mono ?_; rintro e w5 ⟨rfl, rfl⟩)
  have HBX := Lib.hid (((out_setB W1 A 0 (.int .i64 T)).trans (out_setB _ A 4 (.int .i32 8))).below BA.out (Nat.le_refl _) (fun j hj => by subst hj; exact HAW.out))
  have HBF := Lib.hid (below_call HBX.out (Below.alloc (Below.refl _ _) (Nat.le_refl _) (.cells #[.int .i64 T, .int .i64 d, .int .i64 a, .int .i64 b, .int .i32 8, .int .i64 44, .int .i64 0, .int .i64 0, .int .i64 0, .int .i32 off] 36)))
  go_ret
  exact ⟨_, rfl, own_lit _ w.heap.size HBX.out.size [⟨T, d, a, b, 8⟩, ⟨44, 0, 0, 0, off⟩] _ rfl 2 rfl (by decide) _ (by simp), HBF.out⟩
theorem own_lower {w : World} {B B2 : Nat} {v : Value} {l : List Q5} (h : B ≤ B2) (k : OwnIns w B2 v l) : OwnIns w B v l := by
  obtain ⟨h1, h2 | ⟨g, c, cur, h3, hb, hr⟩⟩ := k
  · exact ⟨h1, .inl h2⟩
  · exact ⟨h1, .inr ⟨g, c, cur, h3, Nat.le_trans h hb, hr⟩⟩
set_option maxHeartbeats 4000000 in
theorem exp_2 (kd o d a b i l off : Int) (far : Bool) (w : World) (i0 : -2147483648 ≤ i) (i1 : i ≤ 2147483647) (o0 : -2147483000 ≤ off) (o1 : off ≤ 2147483647) (hk : kd = 2) :
    Calls Tryd.prog 20 #[.agg #[.int .i64 kd, .int .i64 o, .int .i64 d, .int .i64 a, .int .i64 b, .int .i32 i, .int .i64 l], .bool far, .int .i64 off] w (SetPost w []) := by
  have t2 : (kd == 2) = true := by rw [hk]; rfl
  have t5 : (kd == 5) = false := by rw [hk]; rfl
  have t3 : (kd == 3) = false := by rw [hk]; rfl
  have t1 : (kd == 1) = false := by rw [hk]; rfl
  clear hk
  have RA := Lib.hid (RowAt.new w [.int .i64 kd, .int .i64 o, .int .i64 d, .int .i64 a, .int .i64 b, .int .i32 i, .int .i64 l] 41)
  have BA := Lib.hid (Below.alloc (Below.refl w.heap.size w) (Nat.le_refl _) (.cells #[.int .i64 kd, .int .i64 o, .int .i64 d, .int .i64 a, .int .i64 b, .int .i32 i, .int .i64 l] 41))
  go_enter Tryd.func20, Tryd.ntmps20
  go_upto_region 1 with fail
  obtain ⟨A, hA⟩ : ∃ A, A = w.heap.size := ⟨_, rfl⟩
  rw [← hA] at RA ⊢
  have HAW := Lib.hid (show w.heap.size ≤ A by omega)
  obtain ⟨W1, hW1⟩ : ∃ W, W = w.alloc (.cells #[.int .i64 kd, .int .i64 o, .int .i64 d, .int .i64 a, .int .i64 b, .int .i32 i, .int .i64 l] 41) := ⟨_, rfl⟩
  have hE : w.alloc (.cells [.int .i64 kd, .int .i64 o, .int .i64 d, .int .i64 a, .int .i64 b, .int .i32 i, .int .i64 l].toArray 41) = W1 := by rw [hW1]
  rw [hE] at RA
  rw [← hW1] at BA ⊢
  clear hE hW1 hA
  have c0 := RA.out.cell 0 _ rfl
  have c1 := RA.out.cell 1 _ rfl
  have c2 := RA.out.cell 2 _ rfl
  have c3 := RA.out.cell 3 _ rfl
  have c4 := RA.out.cell 4 _ rfl
  have c5 := RA.out.cell 5 _ rfl
  have f5 := RA.out.fr 5
  have cl := RA.out.lt
  go_wp2_with fail
  go_ret
  exact ⟨_, rfl, World.ownsRow_nil _ _ _ _, BA.out⟩
set_option maxHeartbeats 4000000 in
theorem exp_5 (kd o d a b i l off : Int) (far : Bool) (w : World) (i0 : -2147483648 ≤ i) (i1 : i ≤ 2147483647) (o0 : -2147483000 ≤ off) (o1 : off ≤ 2147483647) (hk : kd = 5) :
    Calls Tryd.prog 20 #[.agg #[.int .i64 kd, .int .i64 o, .int .i64 d, .int .i64 a, .int .i64 b, .int .i32 i, .int .i64 l], .bool far, .int .i64 off] w (SetPost w (setS d i)) := by
  have t2 : (kd == 2) = false := by rw [hk]; rfl
  have t5 : (kd == 5) = true := by rw [hk]; rfl
  have t3 : (kd == 3) = false := by rw [hk]; rfl
  have t1 : (kd == 1) = false := by rw [hk]; rfl
  clear hk
  have HST := Lib.hid (fun W => set_any d i W ⟨i0, i1⟩)
  have RA := Lib.hid (RowAt.new w [.int .i64 kd, .int .i64 o, .int .i64 d, .int .i64 a, .int .i64 b, .int .i32 i, .int .i64 l] 41)
  have BA := Lib.hid (Below.alloc (Below.refl w.heap.size w) (Nat.le_refl _) (.cells #[.int .i64 kd, .int .i64 o, .int .i64 d, .int .i64 a, .int .i64 b, .int .i32 i, .int .i64 l] 41))
  go_enter Tryd.func20, Tryd.ntmps20
  go_upto_region 1 with fail
  obtain ⟨A, hA⟩ : ∃ A, A = w.heap.size := ⟨_, rfl⟩
  rw [← hA] at RA ⊢
  have HAW := Lib.hid (show w.heap.size ≤ A by omega)
  obtain ⟨W1, hW1⟩ : ∃ W, W = w.alloc (.cells #[.int .i64 kd, .int .i64 o, .int .i64 d, .int .i64 a, .int .i64 b, .int .i32 i, .int .i64 l] 41) := ⟨_, rfl⟩
  have hE : w.alloc (.cells [.int .i64 kd, .int .i64 o, .int .i64 d, .int .i64 a, .int .i64 b, .int .i32 i, .int .i64 l].toArray 41) = W1 := by rw [hW1]
  rw [hE] at RA
  rw [← hW1] at BA ⊢
  clear hE hW1 hA
  have c0 := RA.out.cell 0 _ rfl
  have c1 := RA.out.cell 1 _ rfl
  have c2 := RA.out.cell 2 _ rfl
  have c3 := RA.out.cell 3 _ rfl
  have c4 := RA.out.cell 4 _ rfl
  have c5 := RA.out.cell 5 _ rfl
  have f5 := RA.out.fr 5
  have cl := RA.out.lt
  go_wp2_with (go_at_call 32; refine (HST.out _).mono ?_; unfold SetPost; rintro e w5 ⟨v5, rfl, hv5, hb5⟩; have HV := Lib.hid hv5; have HB5 := Lib.hid (below_call BA.out hb5); clear hb5 hv5)
  go_ret
  exact ⟨_, rfl, own_lower BA.out.size HV.out, HB5.out⟩
set_option maxHeartbeats 4000000 in
theorem exp_3f (kd o d a b i l off : Int) (w : World) (i0 : -2147483648 ≤ i) (i1 : i ≤ 2147483647) (o0 : -2147483000 ≤ off) (o1 : off ≤ 2147483647) (hk : kd = 3) :
    Calls Tryd.prog 20 #[.agg #[.int .i64 kd, .int .i64 o, .int .i64 d, .int .i64 a, .int .i64 b, .int .i32 i, .int .i64 l], .bool true, .int .i64 off] w (SetPost w [⟨turnS o, d, a, b, 8⟩, ⟨44, 0, 0, 0, off - 4⟩]) := by
  have t2 : (kd == 2) = false := by rw [hk]; rfl
  have t5 : (kd == 5) = false := by rw [hk]; rfl
  have t3 : (kd == 3) = true := by rw [hk]; rfl
  have t1 : (kd == 1) = false := by rw [hk]; rfl
  clear hk
  have hw : IntKind.i64.wrap (off - 4) = off - 4 := by simp [IntKind.wrap, IntKind.signed, IntKind.bits]; omega
  have HOV := Lib.hid (fun W => over_any o d a b i (off - 4) W ⟨by omega, by omega⟩)
  have RA := Lib.hid (RowAt.new w [.int .i64 kd, .int .i64 o, .int .i64 d, .int .i64 a, .int .i64 b, .int .i32 i, .int .i64 l] 41)
  have BA := Lib.hid (Below.alloc (Below.refl w.heap.size w) (Nat.le_refl _) (.cells #[.int .i64 kd, .int .i64 o, .int .i64 d, .int .i64 a, .int .i64 b, .int .i32 i, .int .i64 l] 41))
  go_enter Tryd.func20, Tryd.ntmps20
  go_upto_region 1 with fail
  obtain ⟨A, hA⟩ : ∃ A, A = w.heap.size := ⟨_, rfl⟩
  rw [← hA] at RA ⊢
  have HAW := Lib.hid (show w.heap.size ≤ A by omega)
  obtain ⟨W1, hW1⟩ : ∃ W, W = w.alloc (.cells #[.int .i64 kd, .int .i64 o, .int .i64 d, .int .i64 a, .int .i64 b, .int .i32 i, .int .i64 l] 41) := ⟨_, rfl⟩
  have hE : w.alloc (.cells [.int .i64 kd, .int .i64 o, .int .i64 d, .int .i64 a, .int .i64 b, .int .i32 i, .int .i64 l].toArray 41) = W1 := by rw [hW1]
  rw [hE] at RA
  rw [← hW1] at BA ⊢
  clear hE hW1 hA
  have c0 := RA.out.cell 0 _ rfl
  have c1 := RA.out.cell 1 _ rfl
  have c2 := RA.out.cell 2 _ rfl
  have c3 := RA.out.cell 3 _ rfl
  have c4 := RA.out.cell 4 _ rfl
  have c5 := RA.out.cell 5 _ rfl
  have f5 := RA.out.fr 5
  have cl := RA.out.lt
  go_wp2_with (go_at_call 33; refine (HOV.out _).mono ?_; unfold SetPost; rintro e w5 ⟨v5, rfl, hv5, hb5⟩; have HV := Lib.hid hv5; have HB5 := Lib.hid (below_call BA.out hb5); clear hb5 hv5)
  go_ret
  exact ⟨_, rfl, own_lower BA.out.size HV.out, HB5.out⟩
set_option maxHeartbeats 4000000 in
theorem exp_1 (kd o d a b i l off : Int) (far : Bool) (w : World) (i0 : -2147483648 ≤ i) (i1 : i ≤ 2147483647) (o0 : -2147483000 ≤ off) (o1 : off ≤ 2147483647) (hk : kd = 1) :
    Calls Tryd.prog 20 #[.agg #[.int .i64 kd, .int .i64 o, .int .i64 d, .int .i64 a, .int .i64 b, .int .i32 i, .int .i64 l], .bool far, .int .i64 off] w (SetPost w [⟨o, d, a, b, i⟩]) := by
  have t2 : (kd == 2) = false := by rw [hk]; rfl
  have t5 : (kd == 5) = false := by rw [hk]; rfl
  have t3 : (kd == 3) = false := by rw [hk]; rfl
  have t1 : (kd == 1) = true := by rw [hk]; rfl
  clear hk
  have hw : IntKind.i32.wrap i = i := by simp [IntKind.wrap, IntKind.signed, IntKind.bits]; omega
  have hw2 : IntKind.i64.wrap i = i := by simp [IntKind.wrap, IntKind.signed, IntKind.bits]; omega
  have RA := Lib.hid (RowAt.new w [.int .i64 kd, .int .i64 o, .int .i64 d, .int .i64 a, .int .i64 b, .int .i32 i, .int .i64 l] 41)
  have BA := Lib.hid (Below.alloc (Below.refl w.heap.size w) (Nat.le_refl _) (.cells #[.int .i64 kd, .int .i64 o, .int .i64 d, .int .i64 a, .int .i64 b, .int .i32 i, .int .i64 l] 41))
  go_enter Tryd.func20, Tryd.ntmps20
  go_upto_region 1 with fail
  obtain ⟨A, hA⟩ : ∃ A, A = w.heap.size := ⟨_, rfl⟩
  rw [← hA] at RA ⊢
  have HAW := Lib.hid (show w.heap.size ≤ A by omega)
  obtain ⟨W1, hW1⟩ : ∃ W, W = w.alloc (.cells #[.int .i64 kd, .int .i64 o, .int .i64 d, .int .i64 a, .int .i64 b, .int .i32 i, .int .i64 l] 41) := ⟨_, rfl⟩
  have hE : w.alloc (.cells [.int .i64 kd, .int .i64 o, .int .i64 d, .int .i64 a, .int .i64 b, .int .i32 i, .int .i64 l].toArray 41) = W1 := by rw [hW1]
  rw [hE] at RA
  rw [← hW1] at BA ⊢
  clear hE hW1 hA
  have c0 := RA.out.cell 0 _ rfl
  have c1 := RA.out.cell 1 _ rfl
  have c2 := RA.out.cell 2 _ rfl
  have c3 := RA.out.cell 3 _ rfl
  have c4 := RA.out.cell 4 _ rfl
  have c5 := RA.out.cell 5 _ rfl
  have f5 := RA.out.fr 5
  have cl := RA.out.lt
  have HBX := Lib.hid ((out_setB W1 A 5 (.int .i32 i)).below BA.out (Nat.le_refl _) (fun j hj => by subst hj; exact HAW.out))
  have HBF := Lib.hid (below_call HBX.out (Below.alloc (Below.refl _ _) (Nat.le_refl _) (.cells #[.int .i64 o, .int .i64 d, .int .i64 a, .int .i64 b, .int .i32 i] 36)))
  go_wp2_with fail
  go_ret
  exact ⟨_, rfl, own_lit _ w.heap.size HBX.out.size [⟨o, d, a, b, i⟩] _ rfl 1 rfl (by decide) _ (by simp), HBF.out⟩
set_option maxHeartbeats 4000000 in
theorem exp_3n (kd o d a b i l off : Int) (w : World) (i0 : -2147483648 ≤ i) (i1 : i ≤ 2147483647) (o0 : -2147483000 ≤ off) (o1 : off ≤ 2147483647) (hk : kd = 3) :
    Calls Tryd.prog 20 #[.agg #[.int .i64 kd, .int .i64 o, .int .i64 d, .int .i64 a, .int .i64 b, .int .i32 i, .int .i64 l], .bool false, .int .i64 off] w (SetPost w [⟨o, d, a, b, off⟩]) := by
  have t2 : (kd == 2) = false := by rw [hk]; rfl
  have t5 : (kd == 5) = false := by rw [hk]; rfl
  have t3 : (kd == 3) = true := by rw [hk]; rfl
  have t1 : (kd == 1) = false := by rw [hk]; rfl
  clear hk
  have hw : IntKind.i32.wrap off = off := by simp [IntKind.wrap, IntKind.signed, IntKind.bits]; omega
  have hw2 : IntKind.i64.wrap off = off := by simp [IntKind.wrap, IntKind.signed, IntKind.bits]; omega
  have RA := Lib.hid (RowAt.new w [.int .i64 kd, .int .i64 o, .int .i64 d, .int .i64 a, .int .i64 b, .int .i32 i, .int .i64 l] 41)
  have BA := Lib.hid (Below.alloc (Below.refl w.heap.size w) (Nat.le_refl _) (.cells #[.int .i64 kd, .int .i64 o, .int .i64 d, .int .i64 a, .int .i64 b, .int .i32 i, .int .i64 l] 41))
  go_enter Tryd.func20, Tryd.ntmps20
  go_upto_region 1 with fail
  obtain ⟨A, hA⟩ : ∃ A, A = w.heap.size := ⟨_, rfl⟩
  rw [← hA] at RA ⊢
  have HAW := Lib.hid (show w.heap.size ≤ A by omega)
  obtain ⟨W1, hW1⟩ : ∃ W, W = w.alloc (.cells #[.int .i64 kd, .int .i64 o, .int .i64 d, .int .i64 a, .int .i64 b, .int .i32 i, .int .i64 l] 41) := ⟨_, rfl⟩
  have hE : w.alloc (.cells [.int .i64 kd, .int .i64 o, .int .i64 d, .int .i64 a, .int .i64 b, .int .i32 i, .int .i64 l].toArray 41) = W1 := by rw [hW1]
  rw [hE] at RA
  rw [← hW1] at BA ⊢
  clear hE hW1 hA
  have c0 := RA.out.cell 0 _ rfl
  have c1 := RA.out.cell 1 _ rfl
  have c2 := RA.out.cell 2 _ rfl
  have c3 := RA.out.cell 3 _ rfl
  have c4 := RA.out.cell 4 _ rfl
  have c5 := RA.out.cell 5 _ rfl
  have f5 := RA.out.fr 5
  have cl := RA.out.lt
  have HBX := Lib.hid ((out_setB W1 A 5 (.int .i32 off)).below BA.out (Nat.le_refl _) (fun j hj => by subst hj; exact HAW.out))
  have HBF := Lib.hid (below_call HBX.out (Below.alloc (Below.refl _ _) (Nat.le_refl _) (.cells #[.int .i64 o, .int .i64 d, .int .i64 a, .int .i64 b, .int .i32 off] 36)))
  go_wp2_with fail
  go_ret
  exact ⟨_, rfl, own_lit _ w.heap.size HBX.out.size [⟨o, d, a, b, off⟩] _ rfl 1 rfl (by decide) _ (by simp), HBF.out⟩
set_option maxHeartbeats 4000000 in
theorem exp_o (kd o d a b i l off : Int) (far : Bool) (w : World) (i0 : -2147483648 ≤ i) (i1 : i ≤ 2147483647) (o0 : -2147483000 ≤ off) (o1 : off ≤ 2147483647) (hk : kd ≠ 1 ∧ kd ≠ 2 ∧ kd ≠ 3 ∧ kd ≠ 5) :
    Calls Tryd.prog 20 #[.agg #[.int .i64 kd, .int .i64 o, .int .i64 d, .int .i64 a, .int .i64 b, .int .i32 i, .int .i64 l], .bool far, .int .i64 off] w (SetPost w [⟨o, d, a, b, off⟩]) := by
  have t2 : (kd == 2) = false := by simp; omega
  have t5 : (kd == 5) = false := by simp; omega
  have t3 : (kd == 3) = false := by simp; omega
  have t1 : (kd == 1) = false := by simp; omega
  clear hk
  have hw : IntKind.i32.wrap off = off := by simp [IntKind.wrap, IntKind.signed, IntKind.bits]; omega
  have hw2 : IntKind.i64.wrap off = off := by simp [IntKind.wrap, IntKind.signed, IntKind.bits]; omega
  have RA := Lib.hid (RowAt.new w [.int .i64 kd, .int .i64 o, .int .i64 d, .int .i64 a, .int .i64 b, .int .i32 i, .int .i64 l] 41)
  have BA := Lib.hid (Below.alloc (Below.refl w.heap.size w) (Nat.le_refl _) (.cells #[.int .i64 kd, .int .i64 o, .int .i64 d, .int .i64 a, .int .i64 b, .int .i32 i, .int .i64 l] 41))
  go_enter Tryd.func20, Tryd.ntmps20
  go_upto_region 1 with fail
  obtain ⟨A, hA⟩ : ∃ A, A = w.heap.size := ⟨_, rfl⟩
  rw [← hA] at RA ⊢
  have HAW := Lib.hid (show w.heap.size ≤ A by omega)
  obtain ⟨W1, hW1⟩ : ∃ W, W = w.alloc (.cells #[.int .i64 kd, .int .i64 o, .int .i64 d, .int .i64 a, .int .i64 b, .int .i32 i, .int .i64 l] 41) := ⟨_, rfl⟩
  have hE : w.alloc (.cells [.int .i64 kd, .int .i64 o, .int .i64 d, .int .i64 a, .int .i64 b, .int .i32 i, .int .i64 l].toArray 41) = W1 := by rw [hW1]
  rw [hE] at RA
  rw [← hW1] at BA ⊢
  clear hE hW1 hA
  have c0 := RA.out.cell 0 _ rfl
  have c1 := RA.out.cell 1 _ rfl
  have c2 := RA.out.cell 2 _ rfl
  have c3 := RA.out.cell 3 _ rfl
  have c4 := RA.out.cell 4 _ rfl
  have c5 := RA.out.cell 5 _ rfl
  have f5 := RA.out.fr 5
  have cl := RA.out.lt
  have HBX := Lib.hid ((out_setB W1 A 5 (.int .i32 off)).below BA.out (Nat.le_refl _) (fun j hj => by subst hj; exact HAW.out))
  have HBF := Lib.hid (below_call HBX.out (Below.alloc (Below.refl _ _) (Nat.le_refl _) (.cells #[.int .i64 o, .int .i64 d, .int .i64 a, .int .i64 b, .int .i32 off] 36)))
  go_wp2_with fail
  go_ret
  exact ⟨_, rfl, own_lit _ w.heap.size HBX.out.size [⟨o, d, a, b, off⟩] _ rfl 1 rfl (by decide) _ (by simp), HBF.out⟩
theorem expand_any (x : It) (hx : x.okay) (far : Bool) (off : Int) (w : World) (h : -2147483000 ≤ off ∧ off ≤ 2147483647) :
    Calls Tryd.prog 20 #[x.val, .bool far, .int .i64 off] w (SetPost w (expI x far off)) := by
  obtain ⟨kd, o, d, a, b, i, l⟩ := x
  obtain ⟨_, _, _, _, _, ⟨i0, i1⟩, _⟩ := hx
  unfold It.val expI It.q
  dsimp only at i0 i1 ⊢
  by_cases k2 : kd = 2
  · rw [if_pos k2]; exact exp_2 kd o d a b i l off far w i0 i1 h.1 h.2 k2
  rw [if_neg k2]
  by_cases k5 : kd = 5
  · rw [if_pos k5]; exact exp_5 kd o d a b i l off far w i0 i1 h.1 h.2 k5
  rw [if_neg k5]
  by_cases k3 : kd = 3
  · cases far with
    | true => rw [if_pos ⟨k3, rfl⟩]; exact exp_3f kd o d a b i l off w i0 i1 h.1 h.2 k3
    | false => rw [if_neg (fun e => by cases e.2), if_neg (by omega)]; exact exp_3n kd o d a b i l off w i0 i1 h.1 h.2 k3
  rw [if_neg (fun e => k3 e.1)]
  by_cases k1 : kd = 1
  · rw [if_pos k1]; exact exp_1 kd o d a b i l off far w i0 i1 h.1 h.2 k1
  rw [if_neg k1]
  exact exp_o kd o d a b i l off far w i0 i1 h.1 h.2 ⟨k1, k2, k3, k5⟩
end Go.Proofs.YtipecnofjdhobaaDoor

namespace Go.Proofs.YtipecnofjdhobaaDoor
open Go Go.RowKit Pl
set_option linter.unusedVariables false
set_option linter.unusedSimpArgs false

def wordsK (l : List It) (F : Nat → Bool) (off : Nat → Int) : Nat → List Int
  | 0 => []
  | k + 1 => wordsK l F off k ++ (match l[k]? with | some x => (expI x (F k) (off k)).map encI | none => [])
theorem wordsK_succ {l : List It} {F : Nat → Bool} {off : Nat → Int} {k : Nat} {x : It} (h : l[k]? = some x) : wordsK l F off (k + 1) = wordsK l F off k ++ (expI x (F k) (off k)).map encI := by
  show _ ++ (match l[k]? with | some x => _ | none => _) = _
  rw [h]
theorem wordsK_len {l : List It} (hc : CanAll l) {F : Nat → Bool} (hF : ∀ i, F i = true → i < l.length ∧ brL l i = true) (off : Nat → Int) : ∀ k, k ≤ l.length → 4 * ((wordsK l F off k).length : Int) = plR (szR (szL l) F) k
  | 0, _ => rfl
  | k + 1, hk => by
    obtain ⟨x, hx⟩ : ∃ x, l[k]? = some x := ⟨_, List.getElem?_eq_getElem (by omega)⟩
    have ih := wordsK_len hc hF off k (by omega)
    rw [wordsK_succ hx, List.length_append, List.length_map]
    have h := exp_len (hc x (List.mem_of_getElem? hx)) (far := F k) (off k) (fun hf => by
      have := (hF k hf).2
      rw [brL_at hx] at this
      simpa using this)
    show _ = plR (szR (szL l) F) k + szR (szL l) F k
    have e : szR (szL l) F k = if F k then 8 else szI x := by unfold szR; rw [szL_at hx]
    rw [e, ← ih, ← h]
    push_cast
    omega
theorem setS_4 (x : It) : szI x % 4 = 0 := by
  unfold szI
  split
  · rfl
  · split
    · omega
    · rfl
theorem pl_4 (l : List It) (F : Nat → Bool) : ∀ k, plR (szR (szL l) F) k % 4 = 0
  | 0 => rfl
  | k + 1 => by
    have h := pl_4 l F k
    have e : szR (szL l) F k % 4 = 0 := by
      unfold szR
      split
      · rfl
      · unfold szL
        split
        · exact setS_4 _
        · rfl
    show (plR (szR (szL l) F) k + szR (szL l) F k) % 4 = 0
    omega
/-- each word is an instruction's -/
theorem wordsK_can {l : List It} (hok : ∀ x ∈ l, x.okay) (hc : CanAll l) (hl : l.length ≤ 4000) {tg : Nat → Int} (ht : TgOk l tg) {F : Nat → Bool} (hcl : (rxM l tg).closed F) {off : Nat → Int}
    (ho : ∀ (i : Nat) (x : It), l[i]? = some x → x.kd = 3 ∨ x.kd = 4 → off i = (rxM l tg).pl F ((rxM l tg).to i) - (rxM l tg).pl F i) : ∀ k, ∀ z ∈ wordsK l F off k, ∃ q, canI q = true ∧ z = wordI q
  | 0, z, hz => by simp [wordsK] at hz
  | k + 1, z, hz => by
    cases hx : l[k]? with
    | none =>
      have e : wordsK l F off (k + 1) = wordsK l F off k := by
        show _ ++ (match l[k]? with | some x => _ | none => _) = _
        rw [hx]; exact List.append_nil _
      rw [e] at hz
      exact wordsK_can hok hc hl ht hcl ho k z hz
    | some x =>
      rw [wordsK_succ hx] at hz
      rcases List.mem_append.1 hz with hz | hz
      · exact wordsK_can hok hc hl ht hcl ho k z hz
      · obtain ⟨q, hq, rfl⟩ := List.mem_map.1 hz
        have hxm := List.mem_of_getElem? hx
        have hkl := (List.getElem?_eq_some_iff.1 hx).1
        have hcan := exp_can (hok x hxm) (hc x hxm) (far := F k) (off := off k) (fun h3 hf => by
          have h := hcl k hkl (by show brL l k = true; rw [brL_at hx]; simp [h3]) hf
          rw [← ho k x hx (.inl h3)] at h
          unfold nearR at h
          simpa using h) (fun h34 => by
          have e := ho k x hx h34
          obtain ⟨t, y, h1, h2, _⟩ := ht.t k x hx h34
          have ht0 : (rxM l tg).to k = t := by show (tg k).toNat = t; rw [h1]; rfl
          rw [ht0] at e
          have b1 := pl_bd (rxM_ok ht) F t
          have b2 := pl_bd (rxM_ok ht) F k
          have m1 : (rxM l tg).pl F t % 4 = 0 := pl_4 l F t
          have m2 : (rxM l tg).pl F k % 4 = 0 := pl_4 l F k
          omega) q hq
        exact ⟨q, hcan, by unfold encI; rw [hcan]; rfl⟩
/-- which branches are far is settled -/
theorem far_one {l : List It} {tg tg2 : Nat → Int} (h1 : TgOk l tg) (h2 : TgOk l tg2) {F F2 : Nat → Bool} (c1 : (rxM l tg).closed F) (c2 : (rxM l tg2).closed F2) (m1 : ∀ G, (rxM l tg).closed G → ∀ i, F i = true → G i = true) (m2 : ∀ G, (rxM l tg2).closed G → ∀ i, F2 i = true → G i = true) : F = F2 := by
  have hto : ∀ i, i < l.length → brL l i = true → (rxM l tg).to i = (rxM l tg2).to i := fun i hi hb => by
    obtain ⟨x, hx, hk⟩ := brL_some hb
    obtain ⟨t, y, a1, _, a2, a3, a4⟩ := h1.t i x hx (.inl hk)
    obtain ⟨t2, y2, b1, _, b2, b3, b4⟩ := h2.t i x hx (.inl hk)
    have := h1.u t t2 y y2 a2 b2 a3 b3 (by rw [a4, b4])
    show (tg i).toNat = (tg2 i).toNat
    rw [a1, b1, this]
  have k1 : (rxM l tg2).closed F := fun i hi hb hf => by rw [← hto i hi hb]; exact c1 i hi hb hf
  have k2 : (rxM l tg).closed F2 := fun i hi hb hf => by rw [hto i hi hb]; exact c2 i hi hb hf
  funext i
  cases h : F i with
  | true => exact (m1 F2 k2 i h).symm
  | false =>
    cases g : F2 i with
    | false => rfl
    | true => have := m2 F k1 i g; rw [h] at this; cases this
end Go.Proofs.YtipecnofjdhobaaDoor

namespace Go.Proofs.YtipecnofjdhobaaDoor
open Go Go.RowKit Go.Maps Pl
set_option linter.unusedVariables false
set_option linter.unusedSimpArgs false
set_option maxRecDepth 100000

def uV (l : List Int) : List Value := l.map fun v => Value.int .u32 v
abbrev OwnU (w : World) (B : Nat) (v : Value) (l : List Int) : Prop := w.ownsRow B 29 1 v l.length (uV l)
theorem own_slU {w : World} {B : Nat} {v : Value} {l : List Int} (h : OwnU w B v l) : ∃ a c, v = .slice a l.length c ∧ c ≤ 9223372036854775807 := by
  obtain ⟨h1, ⟨rfl, h2⟩ | ⟨g, c, cur, rfl, hb, hg, hc, hm, _⟩⟩ := h
  · rw [h2]; exact ⟨none, 0, rfl, by omega⟩
  · exact ⟨_, c, rfl, hm⟩
theorem own_cellU {w : World} {B : Nat} {v : Value} {l : List Int} (h : OwnU w B v l) {j : Nat} {z : Int} (hz : l[j]? = some z) : ∃ g c, v = .slice (some ⟨g, 0, none⟩) l.length c ∧ B ≤ g ∧ g < w.heap.size ∧ w.cell? ⟨g, j, none⟩ = some (.int .u32 z) := by
  have hj := (List.getElem?_eq_some_iff.1 hz).1
  obtain ⟨h1, ⟨rfl, h2⟩ | ⟨g', c, cur, rfl, hb, hh, hc, hm, hs, ht⟩⟩ := h
  · omega
  · refine ⟨g', c, rfl, hb, (Array.getElem?_eq_some_iff.1 hh).1, ?_⟩
    have hu : (uV l)[j]? = some (.int .u32 z) := by simp [uV, hz]
    rw [← ht] at hu
    rw [List.getElem?_take_of_lt (by
      refine Decidable.byContradiction fun e => ?_
      rw [List.getElem?_eq_none (by simp; omega)] at hu; simp at hu)] at hu
    simp only [World.cell?, hh]
    simpa using hu
theorem own_overU {w w' : World} {B : Nat} {v : Value} {l : List Int} (h : OwnU w B v l) {S : Nat → Prop} (k : Out S w w') (hs : ∀ g, v.ownBlock = some g → ¬ S g) : OwnU w' B v l := by
  obtain ⟨h1, h2 | ⟨g, c, cur, rfl, hb, hg, hr⟩⟩ := h
  · exact ⟨h1, .inl h2⟩
  · exact ⟨h1, .inr ⟨g, c, cur, rfl, hb, (k.block g (Array.getElem?_eq_some_iff.1 hg).1 (hs g rfl)).trans hg, hr⟩⟩
/-- one word more behind a row of one's own -/
theorem app_u32 {ops : Array Oper} {rest : List Oper} {o : Oper} {a : Act} {Q : Exit → Act → World → Prop} {w : World} (hgd : o.guard = none) (s x : Operand)
    (ho : o.op = .call { callee := .builtin .append, args := #[s, x], argTypes := #[25, 25] }) (B : Nat) (v : Value) (l : List Int) (hs : a.eval s = v) (hown : OwnU w B v l) (n : Int)
    (hx : a.eval x = .slice (some ⟨w.heap.size, 0, none⟩) 1 1) (hl : l.length ≤ 1000000) (hB : B ≤ w.heap.size)
    (h : ∀ v' w', OwnU w' B v' (l ++ [n]) → Out (fun j => v.ownBlock = some j) w w' → (∀ g, v'.ownBlock = some g → v.ownBlock = some g ∨ w.heap.size ≤ g) → wpList Tryd.prog ops Q rest (a.put o.dst v') w') :
    wpList Tryd.prog ops Q (o :: rest) a (w.alloc (.cells #[.int .u32 n] 29)) := by
  obtain ⟨i0, hi, hz0, hz1, hz2⟩ : ∃ i, Tryd.prog.info? 29 = some i ∧ i.zero = some (.int .u32 0) ∧ i.size = 1 ∧ i.bytes = 4 := ⟨(Tryd.prog.info? 29).get!, by kernel_rfl, by kernel_rfl, by kernel_rfl, by kernel_rfl⟩
  have hal := Below.alloc (Below.refl w.heap.size w) (Nat.le_refl _) (.cells #[.int .u32 n] 29)
  have hal2 : Out (fun _ => False) w (w.alloc (.cells #[.int .u32 n] 29)) := Out.of_below _ hal
  refine wpList_append_own_at _ hgd s x 25 ho B 29 i0 (.int .u32 0) 1 4 Tryd.underlying25 hi hz0 hz1 hz2 rfl (by decide) v l.length (uV l) hs (own_overU hown hal2 (fun _ _ => id)) ⟨w.heap.size, 0, none⟩ 1 1 [.int .u32 n] hx rfl (fun j u hu => by rw [addr_add0]; exact (RowAt.new _ [.int .u32 n] _).cell j u hu) (fun u hu => by simp at hu; subst hu; rfl) (by unfold maxLen; omega) (by omega) (by simp; omega) ?_
  intro v' w' h1 h2 h3 h4
  have h1' : OwnU w' B v' (l ++ [n]) := by
    unfold OwnU
    rw [List.length_append, show uV (l ++ [n]) = uV l ++ [.int .u32 n] by simp [uV]]
    exact h1
  have h2' : Out (fun j => v.ownBlock = some j) (w.alloc (.cells #[.int .u32 n] 29)) w' := Out.of_grown h2 (fun k e => e)
  refine h v' w' h1' ((hal2.mono (fun _ e => e.elim)).trans h2') fun g hg => ?_
  rcases h4 with h4 | h4
  · exact .inl (h4 ▸ hg)
  · rw [h4] at hg; simp at hg; exact .inr (by omega)
/-- instructions in a row -/
def InsAt (w : World) (a : Option Addr) (l : List Q5) : Prop :=
  ∀ (k : Nat) (x : Q5), l[k]? = some x → ∃ g, a = some ⟨g, 0, none⟩ ∧ g < w.heap.size ∧ w.cell? ⟨g, k * 5, none⟩ = some (.int .i64 x.o) ∧ w.cell? ⟨g, k * 5 + 1, none⟩ = some (.int .i64 x.d) ∧ w.cell? ⟨g, k * 5 + 2, none⟩ = some (.int .i64 x.a) ∧ w.cell? ⟨g, k * 5 + 3, none⟩ = some (.int .i64 x.b) ∧ w.cell? ⟨g, k * 5 + 4, none⟩ = some (.int .i32 x.i)
theorem flat_at : ∀ (ls : List Q5) (k : Nat) (x : Q5), ls[k]? = some x → (flat ls)[k * 5]? = some (.int .i64 x.o) ∧ (flat ls)[k * 5 + 1]? = some (.int .i64 x.d) ∧ (flat ls)[k * 5 + 2]? = some (.int .i64 x.a) ∧ (flat ls)[k * 5 + 3]? = some (.int .i64 x.b) ∧ (flat ls)[k * 5 + 4]? = some (.int .i32 x.i)
  | [], k, x, h => by simp at h
  | y :: r, 0, x, h => by
    obtain rfl : y = x := by simpa using h
    exact ⟨rfl, rfl, rfl, rfl, rfl⟩
  | y :: r, k + 1, x, h => by
    have ih := flat_at r k x (by simpa using h)
    rw [show (k + 1) * 5 = k * 5 + 5 by omega]
    exact ih
theorem own_insA {w : World} {B : Nat} {a : Option Addr} {n c : Nat} {ls : List Q5} (h : OwnIns w B (.slice a n c) ls) : InsAt w a ls := by
  have h' := h
  obtain ⟨h1, ⟨h0, h2⟩ | ⟨g, c, cur, h0, hb, hg, hc, hm, hs, ht⟩⟩ := h
  · intro k x hx
    rw [List.eq_nil_of_length_eq_zero h2] at hx
    simp at hx
  · intro k x hx
    injection h0 with h0 hn0 hc0
    subst h0 hc0 hn0
    have hk := (List.getElem?_eq_some_iff.1 hx).1
    have ha : ∀ j u, j < 5 → (flat ls)[k * 5 + j]? = some u → w.cell? ⟨g, k * 5 + j, none⟩ = some u := fun j u hj hu => by
      have := World.ownsRow.cellAt h' (k * 5 + j) (by omega)
      rw [this]; exact hu
    obtain ⟨f0, f1, f2, f3, f4⟩ := flat_at ls k x hx
    exact ⟨g, rfl, (Array.getElem?_eq_some_iff.1 hg).1, ha 0 _ (by omega) f0, ha 1 _ (by omega) f1, ha 2 _ (by omega) f2, ha 3 _ (by omega) f3, ha 4 _ (by omega) f4⟩
theorem InsAt.out {w w' : World} {a : Option Addr} {l : List Q5} {S : Nat → Prop} (h : InsAt w a l) (k : Out S w w') (hs : ∀ g, a = some ⟨g, 0, none⟩ → ¬ S g) : InsAt w' a l := fun i x hx => by
  obtain ⟨g, h0, h1, c0, c1, c2, c3, c4⟩ := h i x hx
  have hn := hs g h0
  exact ⟨g, h0, Nat.lt_of_lt_of_le h1 k.size, (k.cell (p := ⟨g, _, none⟩) h1 hn).trans c0, (k.cell (p := ⟨g, _, none⟩) h1 hn).trans c1, (k.cell (p := ⟨g, _, none⟩) h1 hn).trans c2, (k.cell (p := ⟨g, _, none⟩) h1 hn).trans c3, (k.cell (p := ⟨g, _, none⟩) h1 hn).trans c4⟩
theorem own_insB {w : World} {B g : Nat} {n c : Nat} {ls : List Q5} (h : OwnIns w B (.slice (some ⟨g, 0, none⟩) n c) ls) : B ≤ g ∨ ls = [] := by
  obtain ⟨h1, ⟨h0, h2⟩ | ⟨g', c', cur, h0, hb, hg, hc, hm, hs, ht⟩⟩ := h
  · exact .inr (List.eq_nil_of_length_eq_zero h2)
  · injection h0 with h0; injection h0 with h0; injection h0 with h0; subst h0; exact .inl hb
end Go.Proofs.YtipecnofjdhobaaDoor

namespace Go.Proofs.YtipecnofjdhobaaDoor
open Go Go.RowKit Go.Maps Pl
set_option linter.unusedVariables false
set_option linter.unusedSimpArgs false
set_option maxRecDepth 100000

/-- where labels lie, behind k items -/
structure InvP (l : List It) (P : Nat → Int) (k : Nat) (K : List Int) (f : Int → Int) : Prop where
  at_ : ∀ (i : Nat) (x : It), i < k → l[i]? = some x → x.kd = 2 → x.lb ∈ K ∧ f x.lb = P i
  bd : ∀ y, 0 ≤ f y ∧ f y ≤ 32000
  of : ∀ y ∈ K, ∃ (i : Nat) (x : It), l[i]? = some x ∧ x.kd = 2 ∧ x.lb = y
theorem invP_0 (l : List It) (P : Nat → Int) : InvP l P 0 [] (fun _ => 0) := ⟨fun i x h => by omega, fun _ => by simp, fun y h => by simp at h⟩
theorem invP_skip {l : List It} {P : Nat → Int} {k : Nat} {K : List Int} {f : Int → Int} {x : It} (h : InvP l P k K f) (hx : l[k]? = some x) (h2 : x.kd ≠ 2) : InvP l P (k + 1) K f := by
  refine ⟨fun i y hi hy hk => ?_, h.bd, h.of⟩
  by_cases e : i = k
  · subst e; rw [hx] at hy; injection hy with hy; subst hy; exact absurd hk h2
  · exact h.at_ i y (by omega) hy hk
theorem invP_put {l : List It} (hu : Uniq l) {P : Nat → Int} (hP : ∀ i, 0 ≤ P i ∧ P i ≤ 8 * (i : Int)) (hl : l.length ≤ 4000) {k : Nat} {K : List Int} {f : Int → Int} {x : It} (h : InvP l P k K f) (hx : l[k]? = some x) (h2 : x.kd = 2) : InvP l P (k + 1) (if x.lb ∈ K then K else K ++ [x.lb]) (fun y => if x.lb = y then P k else f y) := by
  have hk := (List.getElem?_eq_some_iff.1 hx).1
  refine ⟨fun i y hi hy hky => ?_, fun y => ?_, fun y hy => ?_⟩
  · by_cases e : i = k
    · subst e; rw [hx] at hy; injection hy with hy; subst hy
      exact ⟨by split <;> simp [*], if_pos rfl⟩
    · obtain ⟨a, b⟩ := h.at_ i y (by omega) hy hky
      refine ⟨by split <;> simp [a], ?_⟩
      rw [if_neg (fun (q : x.lb = y.lb) => e (hu i k y x hy hx hky h2 q.symm)), b]
  · split
    · have := hP k; omega
    · exact h.bd y
  · split at hy
    · exact h.of y hy
    · rcases List.mem_append.1 hy with hy | hy
      · exact h.of y hy
      · obtain rfl : y = x.lb := by simpa using hy
        exact ⟨k, x, hx, h2, rfl⟩
/-- how far off an item's label lies -/
def offL (l : List It) (f : Int → Int) (P : Nat → Int) (i : Nat) : Int := match l[i]? with | some x => f x.lb - P i | none => 0
theorem offL_at {l : List It} {f : Int → Int} {P : Nat → Int} {i : Nat} {x : It} (h : l[i]? = some x) : offL l f P i = f x.lb - P i := by unfold offL; rw [h]
theorem off_to {l : List It} {tg : Nat → Int} (ht : TgOk l tg) {P : Nat → Int} {K : List Int} {f : Int → Int} (h : InvP l P l.length K f) (i : Nat) (x : It) (hx : l[i]? = some x) (hk : x.kd = 3 ∨ x.kd = 4) : offL l f P i = P ((rxM l tg).to i) - P i := by
  obtain ⟨t, y, a1, a2, a3, a4, a5⟩ := ht.t i x hx hk
  have e : (rxM l tg).to i = t := by show (tg i).toNat = t; rw [a1]; rfl
  rw [offL_at hx, e, ← a5, (h.at_ t y a2 a3 a4).2]
def AsPost (l : List It) (base : Int) (w : World) (e : Ending) (w' : World) : Prop :=
  Below w.heap.size w w' ∧ ((∃ (wv : Value) (mb n : Nat) (K : List Int) (f : Int → Int) (tg : Nat → Int) (F : Nat → Bool), e = .returned (.tuple #[wv, .map (some mb), .int .i64 0]) ∧ base % 4 = 0 ∧ OwnU w' w.heap.size wv (wordsK l F (offL l f ((rxM l tg).pl F)) l.length) ∧ MapG w' mb n K f ∧
      InvP l ((rxM l tg).pl F) l.length K f ∧ CanAll l ∧ TgOk l tg ∧ (rxM l tg).closed F ∧ (∀ G, (rxM l tg).closed G → ∀ i, F i = true → G i = true) ∧ (∀ i, F i = true → i < l.length ∧ brL l i = true)) ∨
    ((∃ r : Int, r ≠ 0 ∧ e = .returned (.tuple #[.slice none 0 0, .map none, .int .i64 r])) ∧ (base % 4 = 0 → ¬ (CanAll l ∧ Uniq l ∧ Present l))))
theorem as_no {l : List It} {base : Int} {w w' : World} (hb : Below w.heap.size w w') {r : Int} (hr : r ≠ 0) (h : base % 4 = 0 → ¬ (CanAll l ∧ Uniq l ∧ Present l)) : AsPost l base w (.returned (.tuple #[.slice none 0 0, .map none, .int .i64 r])) w' := ⟨hb, .inr ⟨⟨r, hr, rfl⟩, h⟩⟩
theorem own_lowerU {w : World} {B B2 : Nat} {v : Value} {l : List Int} (h : B ≤ B2) (k : OwnU w B2 v l) : OwnU w B v l := by
  obtain ⟨h1, h2 | ⟨g, c, cur, h3, hb, hr⟩⟩ := k
  · exact ⟨h1, .inl h2⟩
  · exact ⟨h1, .inr ⟨g, c, cur, h3, Nat.le_trans h hb, hr⟩⟩
theorem as_yes {l : List It} {base : Int} {w w' : World} {wv : Value} {mb n : Nat} {K : List Int} {f : Int → Int} {tg : Nat → Int} {F : Nat → Bool} (hb : Below w.heap.size w w') (h0 : base % 4 = 0) (h1 : OwnU w' w.heap.size wv (wordsK l F (offL l f ((rxM l tg).pl F)) l.length)) (h2 : MapG w' mb n K f) (h3 : InvP l ((rxM l tg).pl F) l.length K f) (h4 : CanAll l) (h5 : TgOk l tg) (h6 : (rxM l tg).closed F) (h7 : ∀ G, (rxM l tg).closed G → ∀ i, F i = true → G i = true) (h8 : ∀ i, F i = true → i < l.length ∧ brL l i = true) :
    AsPost l base w (.returned (.tuple #[wv, .map (some mb), .int .i64 0])) w' := ⟨hb, .inl ⟨wv, mb, n, K, f, tg, F, rfl, h0, h1, h2, h3, h4, h5, h6, h7, h8⟩⟩
theorem MapG.look_run {w : World} {b n : Nat} {K : List Int} {f : Int → Int} (h : MapG w b n K f) {y : Int} (hy : In64 y) : (Instr.lookup 46 (.map (some b)) (.int .i64 y) false).run Tryd.prog w = .ok (.int .i64 (f y)) w := by
  obtain ⟨D, hD, h2⟩ := h
  obtain ⟨c, hr, hc, _⟩ := hD.lookup_int lawJ Tryd.underlying46 Tryd.underlying3 (zeroJ w) (keyJ hy)
  rw [(h2 y).2] at hc
  injection hc with hc
  injection hc with _ hc
  rw [hc]; exact hr
theorem exp_bd {x : It} (hx : x.okay) (far : Bool) {off : Int} (h : -2147483000 ≤ off ∧ off ≤ 2147483647) : ∀ q ∈ expI x far off, -2147483648 ≤ q.i ∧ q.i ≤ 2147483647 := by
  have hi := hx.2.2.2.2.2.1
  intro q hq
  unfold expI at hq
  split at hq
  · simp at hq
  · split at hq
    · unfold setS at hq
      have hl := lowS_bd x.im
      have hw : ∀ n, -2147483648 ≤ wrap32 n ∧ wrap32 n ≤ 2147483647 := fun n => by unfold wrap32; omega
      split at hq
      · split at hq
        · simp only [List.mem_singleton] at hq; subst hq; exact hi
        · split at hq
          · simp only [List.mem_cons, List.mem_nil_iff, or_false] at hq
            rcases hq with rfl | rfl
            · exact hw _
            · dsimp only; omega
          · simp only [List.mem_singleton] at hq; subst hq; exact hw _
      · simp at hq
    · split at hq
      · simp only [List.mem_cons, List.mem_nil_iff, or_false] at hq
        rcases hq with rfl | rfl
        · dsimp only; omega
        · dsimp only; omega
      · split at hq
        · simp only [List.mem_singleton] at hq; subst hq; exact hi
        · simp only [List.mem_singleton] at hq; subst hq; dsimp only; omega
theorem exp_two (x : It) (far : Bool) (off : Int) : (expI x far off).length ≤ 2 := by
  unfold expI
  split
  · simp
  · split
    · exact setS_len _ _
    · split
      · simp
      · split <;> simp
theorem MapG.put_run {w : World} {b n : Nat} {K : List Int} {f : Int → Int} (h : MapG w b n K f) (hn : n ≤ 1000000) {y c : Int} (hy : In64 y) (hc : In64 c) :
    ∃ w', (Instr.mapUpdate 46 (.map (some b)) (.int .i64 y) (.int .i64 c)).run Tryd.prog w = .ok () w' ∧ MapG w' b (n + 1) (if y ∈ K then K else K ++ [y]) (fun x => if y = x then c else f x) ∧ Out (fun j => j = b) w w' := by
  obtain ⟨D, hD, h2⟩ := h
  obtain ⟨w', hr, h3, h4⟩ := hD.update lawJ Tryd.underlying46 (Nat.lt_of_le_of_lt hn (by decide)) (keyJ hy) (plainElem_int Tryd.underlying3 (wf64 hc))
  exact ⟨w', hr, ⟨_, h3, givesG_put hD.isMap h2 y c⟩, Out.of_grown h4 fun k hk => by injection hk with hk; exact hk.symm⟩
theorem MapG.drew {w : World} {b n : Nat} {K : List Int} {f : Int → Int} (h : MapG w b n K f) : MapG w.drew b n K f := h.over (Below.refl _ _).drew
set_option maxHeartbeats 16000000 in
theorem assemble_any (l : List It) (hok : ∀ x ∈ l, x.okay) (base : Int) (at0 : Option Addr) (c : Nat) (w : World) (ht3 : T3 w) (hA : ItAt w at0 l) (hl : l.length ≤ 4000) (hc : c ≤ 9223372036854775807) (hb0 : 0 ≤ base) (hb1 : base < 4294967296) :
    Calls Tryd.prog 11 #[.int .u32 base, .slice at0 l.length c] w (AsPost l base w) := by
  have HA := Lib.hid hA
  have HOK := Lib.hid hok
  have HLL := Lib.hid hl
  have HCC := Lib.hid hc
  have HT3 := Lib.hid ht3
  have hli : (l.length : Int) ≤ 4000 := by omega
  have hmp := fun (W : World) => run_makeMap (P := Tryd.prog) 46 W
  have HLY := Lib.hid (layout_any l hok at0 c w hA hl hc)
  clear hA hok ht3
  by_cases hbm : base % 4 = 0
  · have tb : (base % 4 != 0) = false := by simp [hbm]
    have HBM := Lib.hid hbm
    go_enter Tryd.func11, Tryd.ntmps11
    go_wp2_with (go_at_call 19; refine HLY.out.mono ?_; rintro e w2 ⟨hb2, ⟨b, bf, tg, F, rfl, h1, h2, h3, h4, h5, h6, h7, h8, h9⟩ | ⟨⟨r, hr, rfl⟩, hn⟩⟩)
    · have HB2 := Lib.hid hb2
      have RP := Lib.hid h3
      have RF := Lib.hid h4
      have HCA := Lib.hid h5
      have HTG := Lib.hid h6
      have HCL := Lib.hid h7
      have HLE := Lib.hid h8
      have HFB := Lib.hid h9
      have HPB := Lib.hid (pl_bd (rxM_ok h6) F)
      clear hb2 h3 h4 h5 h6 h7 h8 h9 HLY hbm
      go_upto_region 7 with fail
      have HM1 := Lib.hid (MapG.made w2)
      have HBa := Lib.hid (Below.alloc (Below.refl w2.heap.size w2) (Nat.le_refl _) (.map #[] 0))
      have HB3 := Lib.hid (below_call HB2.out HBa.out)
      have RP3 := Lib.hid (RP.out.over HBa.out)
      have RF3 := Lib.hid (RF.out.over HBa.out)
      obtain ⟨mb, hmb⟩ : ∃ b, b = w2.heap.size := ⟨_, rfl⟩
      rw [← hmb] at HM1 ⊢
      have HWM := Lib.hid (show w.heap.size ≤ mb by rw [hmb]; exact HB2.out.size)
      have HBM2 := Lib.hid (show ¬ b = mb by have := RP.out.lt; omega)
      have HFM2 := Lib.hid (show ¬ bf = mb by have := RF.out.lt; omega)
      clear hmb hmp RP RF HBa
      generalize w2.alloc (.map #[] 0) = W3 at *
      obtain ⟨P, hP⟩ : ∃ P, P = (rxM l tg).pl F := ⟨_, rfl⟩
      have HPE := Lib.hid hP
      rw [← hP] at RP3 HPB
      clear hP
      go_wp2_with fail
      go_loopw [35] (fun s35 wr => ∃ (k n : Nat) (K : List Int) (f : Int → Int), k ≤ l.length ∧ s35 = .int .i64 k ∧ n ≤ k ∧ MapG wr mb n K f ∧ InvP l P k K f ∧ Out (fun j => j = mb) W3 wr) (fun s35 _ => l.length - (intOf s35).toNat)
      case atStart => exact ⟨0, 0, [], _, Nat.zero_le _, rfl, Nat.zero_le _, HM1.out, invP_0 _ _, Out.refl _ _⟩
      case round =>
        obtain ⟨k, n, K, f, hk, rfl, hn, hmp, hI, hO⟩ := hrel
        have HMP := Lib.hid hmp
        have HI := Lib.hid hI
        have HU := Lib.hid hO
        have HN := Lib.hid hn
        have HBr := Lib.hid (hO.below HB3.out (Nat.le_refl _) (fun j hj => by subst hj; exact HWM.out))
        clear hmp hO hI hn
        by_cases hkl : k < l.length
        · obtain ⟨x, hx⟩ : ∃ x, l[k]? = some x := ⟨_, List.getElem?_eq_getElem hkl⟩
          obtain ⟨g, off, hat, hg, c0, c1, c2, c3, c4, c5, c6⟩ := (HA.out.later HBr.out) k x hx
          subst hat
          have HX := Lib.hid (HOK.out x (List.mem_of_getElem? hx))
          have HKL := Lib.hid hkl
          have HXI := Lib.hid hx
          have k0 : (0 : Int) ≤ (k : Int) := by omega
          have k1 : (k : Int) < (l.length : Int) := by omega
          have k2 : (k : Int) < (l.length : Int) + 1 := by omega
          have k4 : (k : Int) < ((l.length + 1 : Nat) : Int) := by omega
          obtain ⟨kd, o, d, a, b', i, lb⟩ := x
          dsimp only at c0 c1 c2 c3 c4 c5 c6
          clear hx hkl hk
          go_upto_region 10 with fail
          have hal : Below wr.heap.size wr (wr.alloc (.cells #[.int .i64 kd, .int .i64 o, .int .i64 d, .int .i64 a, .int .i64 b', .int .i32 i, .int .i64 lb] 41)) := Below.alloc (Below.refl _ _) (Nat.le_refl _) _
          have RA := Lib.hid (RowAt.new wr [.int .i64 kd, .int .i64 o, .int .i64 d, .int .i64 a, .int .i64 b', .int .i32 i, .int .i64 lb] 41)
          have HMA := Lib.hid (HMP.out.over hal)
          have HOA := Lib.hid (HU.out.trans (Out.of_below (fun j => j = mb) hal))
          obtain ⟨A, hA⟩ : ∃ A, A = wr.heap.size := ⟨_, rfl⟩
          rw [← hA] at RA ⊢
          obtain ⟨W, hW⟩ : ∃ W, W = wr.alloc (.cells #[.int .i64 kd, .int .i64 o, .int .i64 d, .int .i64 a, .int .i64 b', .int .i32 i, .int .i64 lb] 41) := ⟨_, rfl⟩
          have hE : wr.alloc (.cells [Value.int .i64 kd, .int .i64 o, .int .i64 d, .int .i64 a, .int .i64 b', .int .i32 i, .int .i64 lb].toArray 41) = W := by rw [hW]
          rw [hE] at RA
          rw [← hW] at HMA HOA ⊢
          clear hal hA hW hE c0 c1 c2 c3 c4 c5 c6
          have a0 := RA.out.cell 0 _ rfl
          have a6 := RA.out.cell 6 _ rfl
          have al := RA.out.lt
          by_cases h2 : kd = 2
          · have t2 : (kd == 2) = true := by simp [h2]
            have HPI := Lib.hid (invP_put HTG.out.u HPB.out HLL.out HI.out HXI.out h2)
            have rp := RP3.out.outN HOA.out HBM2.out
            have p0 := rp.cell k _ (iR_at (n := l.length + 1) P (by have := HKL.out; omega))
            have pl := rp.lt
            have HPI64 := Lib.hid (show In64 (P k) by have := HPB.out k; unfold In64; omega)
            obtain ⟨pk, hpk⟩ : ∃ z, z = P k := ⟨_, rfl⟩
            rw [← hpk] at p0 HPI HPI64
            clear h2 rp hpk
            go_upto_region 11 with fail
            obtain ⟨w8, hmu, hm8, ho8⟩ := HMA.out.drew.put_run (by have := HKL.out; have := HN.out; have := HLL.out; omega) HX.out.2.2.2.2.2.2 HPI64.out
            have HM8 := Lib.hid hm8
            have HO8 := Lib.hid ho8
            clear hm8 ho8
            go_region
            go_wp2_with fail
            exact ⟨⟨k + 1, n + 1, _, _, HKL.out, rfl, by have := HN.out; omega, HM8.out, HPI.out, (HOA.out.trans (Out.of_below _ (Below.refl _ _).drew)).trans HO8.out⟩, by have := HKL.out; simp [intOf]; omega⟩
          · have t2 : (kd == 2) = false := by simp [h2]
            have HPI := Lib.hid (invP_skip HI.out HXI.out h2)
            clear h2
            go_wp2_with fail
            exact ⟨⟨k + 1, n, _, _, HKL.out, rfl, by have := HN.out; omega, HMA.out, HPI.out, HOA.out⟩, by have := HKL.out; simp [intOf]; omega⟩
        · obtain rfl : k = l.length := by omega
          have kx : ¬ ((l.length : Int) < (l.length : Int)) := by omega
          clear hkl hk
          have HWT := Lib.hid HTG.out
          have HMZ := Lib.hid HMP.out
          have HIZ := Lib.hid HI.out
          have RPZ := Lib.hid (RP3.out.outN HU.out HBM2.out)
          have RFZ := Lib.hid (RF3.out.outN HU.out HFM2.out)
          obtain ⟨W4, hW4⟩ : ∃ W : World, W = wr := ⟨_, rfl⟩
          rw [← hW4] at HMZ RPZ RFZ HBr ⊢
          clear hW4 HMP HI HU
          have HW4 := Lib.hid (show w.heap.size ≤ W4.heap.size from HBr.out.size)
          obtain ⟨OF, hOF⟩ : ∃ o, o = offL l f P := ⟨_, rfl⟩
          have HOF := Lib.hid hOF
          clear hOF
          go_wp2_with fail
          go_loopw [13, 53] (fun s13 s53 wr => ∃ k : Nat, k ≤ l.length ∧ s53 = .int .i64 k ∧ OwnU wr W4.heap.size s13 (wordsK l F OF k) ∧ Below W4.heap.size W4 wr) (fun _ s53 _ => l.length - (intOf s53).toNat)
          case atStart => exact ⟨0, Nat.zero_le _, rfl, World.ownsRow_nil _ _ _ _, Below.refl _ _⟩
          case round =>
            obtain ⟨k, hk, rfl, hO, hB⟩ := hrel
            obtain ⟨sa, sc, rfl, hsc⟩ := own_slU hO
            have HO := Lib.hid hO
            have HB := Lib.hid hB
            clear hO hB
            by_cases hkl : k < l.length
            · obtain ⟨x, hx⟩ : ∃ x, l[k]? = some x := ⟨_, List.getElem?_eq_getElem hkl⟩
              obtain ⟨g, off, hat, hg, c0, c1, c2, c3, c4, c5, c6⟩ := ((HA.out.later HBr.out).later HB.out) k x hx
              subst hat
              have HX := Lib.hid (HOK.out x (List.mem_of_getElem? hx))
              have HKL := Lib.hid hkl
              have HXI := Lib.hid hx
              have HWS := Lib.hid (wordsK_succ (F := F) (off := OF) hx)
              have HOX := Lib.hid (show OF k = f x.lb - P k by rw [HOF.out]; exact offL_at hx)
              have k0 : (0 : Int) ≤ (k : Int) := by omega
              have k1 : (k : Int) < (l.length : Int) := by omega
              have k2 : (k : Int) < (l.length : Int) + 1 := by omega
              have k4 : (k : Int) < ((l.length + 1 : Nat) : Int) := by omega
              have HLW := Lib.hid (wordsK_len HCA.out HFB.out OF k (by omega))
              have HEX := Lib.hid (fun W (h : -2147483000 ≤ OF k ∧ OF k ≤ 2147483647) => expand_any x HX.out (F k) (OF k) W h)
              have HEB := Lib.hid (fun (h : -2147483000 ≤ OF k ∧ OF k ≤ 2147483647) => exp_bd HX.out (F k) h)
              obtain ⟨L, hL⟩ : ∃ L, L = wordsK l F OF k := ⟨_, rfl⟩
              rw [← hL] at HO HWS HLW ⊢
              obtain ⟨kd, o, d, a, b', i, lb⟩ := x
              dsimp only at c0 c1 c2 c3 c4 c5 c6 HOX
              unfold It.val at HEX
              dsimp only at HEX
              clear hx hkl hk hL
              go_upto_region 17 with fail
              have hal : Below wr.heap.size wr (wr.alloc (.cells #[Value.int .i64 kd, Value.int .i64 o, Value.int .i64 d, Value.int .i64 a, Value.int .i64 b', Value.int .i32 i, Value.int .i64 lb] 41)) := Below.alloc (Below.refl _ _) (Nat.le_refl _) _
              have RA := Lib.hid (RowAt.new wr [Value.int .i64 kd, Value.int .i64 o, Value.int .i64 d, Value.int .i64 a, Value.int .i64 b', Value.int .i32 i, Value.int .i64 lb] 41)
              have HOA := Lib.hid (own_overU HO.out (Out.of_below (fun _ => False) hal) (fun _ _ => id))
              have HBA := Lib.hid (show Below W4.heap.size W4 (wr.alloc (.cells #[Value.int .i64 kd, Value.int .i64 o, Value.int .i64 d, Value.int .i64 a, Value.int .i64 b', Value.int .i32 i, Value.int .i64 lb] 41)) from below_call HB.out hal)
              obtain ⟨A, hA⟩ : ∃ A, A = wr.heap.size := ⟨_, rfl⟩
              rw [← hA] at RA ⊢
              obtain ⟨W, hW⟩ : ∃ W, W = wr.alloc (.cells #[Value.int .i64 kd, Value.int .i64 o, Value.int .i64 d, Value.int .i64 a, Value.int .i64 b', Value.int .i32 i, Value.int .i64 lb] 41) := ⟨_, rfl⟩
              have hE : wr.alloc (.cells [Value.int .i64 kd, Value.int .i64 o, Value.int .i64 d, Value.int .i64 a, Value.int .i64 b', Value.int .i32 i, Value.int .i64 lb].toArray 41) = W := by rw [hW]
              rw [hE] at RA
              rw [← hW] at HOA HBA ⊢
              clear hal hA hW hE c0 c1 c2 c3 c4 c5 c6 HO HB
              obtain ⟨fk, hfk⟩ : ∃ z, z = F k := ⟨_, rfl⟩
              obtain ⟨pk, hpk⟩ : ∃ z, z = P k := ⟨_, rfl⟩
              obtain ⟨fl, hfl⟩ : ∃ z, z = f lb := ⟨_, rfl⟩
              have hb1' := HPB.out k
              have hb2' := HIZ.out.bd lb
              have rp := RPZ.out.over HBA.out
              have rf := RFZ.out.over HBA.out
              have p0 := rp.cell k _ (iR_at (n := l.length + 1) P (by have := HKL.out; omega))
              have q0 := rf.cell k _ (bR_at F HKL.out)
              have pl := rp.lt
              have ql := rf.lt
              have HLR := Lib.hid (fun W' (h : Below W.heap.size W W') => MapG.look_run (HMZ.out.outN (Out.of_below (fun _ => False) (below_call HBA.out h)) id) HX.out.2.2.2.2.2.2)
              dsimp only at HLR
              rw [← hfl] at HLR hb2' HOX
              rw [← hpk] at p0 hb1' HOX
              rw [← hfk] at q0 HEX HWS
              rw [HOX.out] at HEX HWS HEB
              rw [← hfk] at HEB
              have hwr : IntKind.i64.wrap (fl - pk) = fl - pk := by simp [IntKind.wrap, IntKind.signed, IntKind.bits]; omega
              have HEY := Lib.hid (fun W => HEX.out W ⟨by omega, by omega⟩)
              have HEZ := Lib.hid (HEB.out ⟨by omega, by omega⟩)
              obtain ⟨Q, hQ⟩ : ∃ Q, Q = expI ⟨kd, o, d, a, b', i, lb⟩ fk (fl - pk) := ⟨_, rfl⟩
              rw [← hQ] at HEY HEZ HWS
              have HQL := Lib.hid (show Q.length ≤ 2 by rw [hQ]; exact exp_two _ _ _)
              have PS := Lib.hid (show ∀ W', Below W.heap.size W W' → (fun (w' : World) => w'.cell? ⟨A, 0, none⟩ = some (.int .i64 kd) ∧ w'.cell? ⟨A, 1, none⟩ = some (.int .i64 o) ∧ w'.cell? ⟨A, 2, none⟩ = some (.int .i64 d) ∧ w'.cell? ⟨A, 3, none⟩ = some (.int .i64 a) ∧ w'.cell? ⟨A, 4, none⟩ = some (.int .i64 b') ∧ w'.cell? ⟨A, 5, none⟩ = some (.int .i32 i) ∧ w'.cell? ⟨A, 6, none⟩ = some (.int .i64 lb) ∧ w'.cell? ⟨bf, k, none⟩ = some (.bool fk) ∧ w'.cell? ⟨b, k, none⟩ = some (.int .i64 pk) ∧ (Instr.lookup 46 (.map (some mb)) (.int .i64 lb) false).run Tryd.prog w' = .ok (.int .i64 fl) w' ∧ Below W.heap.size W w') W' from fun W' h => ⟨(RA.out.over h).cell 0 _ rfl, (RA.out.over h).cell 1 _ rfl, (RA.out.over h).cell 2 _ rfl, (RA.out.over h).cell 3 _ rfl, (RA.out.over h).cell 4 _ rfl, (RA.out.over h).cell 5 _ rfl, (RA.out.over h).cell 6 _ rfl, (h.cell (p := ⟨bf, _, none⟩) ql).trans q0, (h.cell (p := ⟨b, _, none⟩) pl).trans p0, HLR.out W' h, h⟩)
              clear hfk hpk hfl hb1' hb2' rp rf HEX HEB hQ
              have al := RA.out.lt
              go_cut [72, 73, 74] (fun s72 s73 s74 wx => ∃ va vc, s72 = .slice va Q.length vc ∧ s73 = .int .i64 (Q.length : Nat) ∧ s74 = .int .i64 0 ∧ OwnIns wx W.heap.size (.slice va Q.length vc) Q ∧ Below W.heap.size W wx)
              case first =>
                obtain ⟨z0, z1, z2, z3, z4, z5, z6, z7, z8, z9, -⟩ := PS.out _ (Below.refl _ _)
                go_region_held3 (fun (w' : World) => w'.cell? ⟨A, 0, none⟩ = some (.int .i64 kd) ∧ w'.cell? ⟨A, 1, none⟩ = some (.int .i64 o) ∧ w'.cell? ⟨A, 2, none⟩ = some (.int .i64 d) ∧ w'.cell? ⟨A, 3, none⟩ = some (.int .i64 a) ∧ w'.cell? ⟨A, 4, none⟩ = some (.int .i64 b') ∧ w'.cell? ⟨A, 5, none⟩ = some (.int .i32 i) ∧ w'.cell? ⟨A, 6, none⟩ = some (.int .i64 lb) ∧ w'.cell? ⟨bf, k, none⟩ = some (.bool fk) ∧ w'.cell? ⟨b, k, none⟩ = some (.int .i64 pk) ∧ (Instr.lookup 46 (.map (some mb)) (.int .i64 lb) false).run Tryd.prog w' = .ok (.int .i64 fl) w' ∧ Below W.heap.size W w') (first | (with_reducible assumption) | (refine PS.out _ ?_; first | (with_reducible exact Below.refl _ _) | (with_reducible exact (Below.refl _ _).drew) | (with_reducible exact hB5) | (with_reducible exact hB5.drew)))
                  (first | (go_at_call 20; (with_reducible refine (HEY.out _).mono ?_); unfold SetPost; rintro e w5 ⟨v5, rfl, hv5, hb5⟩; obtain ⟨va, vc, rfl⟩ := own_slI hv5; have hB5 : Below W.heap.size W w5 := (by first | (with_reducible exact hb5) | exact below_call (Below.refl W.heap.size W).drew hb5)))
                all_goals (go_wp2_with fail)
                all_goals go_meet
                all_goals exact ⟨va, vc, rfl, rfl, rfl, hv5, hB5⟩
              case rest =>
                obtain ⟨va, vc, h72, h73, h74, hoi, hbc⟩ := hcut
                subst h72 h73 h74
                have HIA := Lib.hid (own_insA hoi)
                have HBI := Lib.hid (fun g (h : va = some ⟨g, 0, none⟩) => show W.heap.size ≤ g ∨ Q = [] from own_insB (by rw [← h]; exact hoi))
                have HOC := Lib.hid (own_overU HOA.out (Out.of_below (fun _ => False) hbc) (fun _ _ => id))
                have HLT := Lib.hid (fun g (h : (Value.slice sa L.length sc).ownBlock = some g) => (World.ownsRow.lt HOA.out g h).2)
                have HBC := Lib.hid (below_call HBA.out hbc)
                have HQI := Lib.hid (show (Q.length : Int) ≤ 2 by have := HQL.out; omega)
                have HLN := Lib.hid (show L.length ≤ 8000 by have h1 := HLW.out; have h2 := HPB.out k; rw [HPE.out] at h2; have h3 : plR (szR (szL l) F) k = (rxM l tg).pl F k := rfl; rw [h3] at h1; have := HKL.out; omega)
                clear hoi hbc HOA HBA PS HLR HEY RA
                go_wp2_with fail
                go_loopw [13, 74] (fun s13 s74 wy => ∃ j : Nat, j ≤ Q.length ∧ s74 = .int .i64 j ∧ OwnU wy W4.heap.size s13 (L ++ (Q.take j).map encI) ∧ InsAt wy va Q ∧ (∀ g, s13.ownBlock = some g → va ≠ some ⟨g, 0, none⟩ ∨ Q = []) ∧ Below W4.heap.size W4 wy) (fun _ s74 _ => Q.length - (intOf s74).toNat)
                case atStart => exact ⟨0, Nat.zero_le _, rfl, by simpa using HOC.out, HIA.out, fun g h => by
                  by_cases e : Q = []
                  · exact .inr e
                  · refine .inl fun h2 => ?_
                    rcases HBI.out g h2 with h3 | h3
                    · have := HLT.out g h; omega
                    · exact e h3, HBC.out⟩
                case round =>
                  obtain ⟨j, hj, rfl, hO, hIn, hap, hB⟩ := hrel
                  obtain ⟨ua, uc, rfl, huc⟩ := own_slU hO
                  have HO := Lib.hid hO
                  have HIn := Lib.hid hIn
                  have HAP := Lib.hid hap
                  have HB := Lib.hid hB
                  clear hO hIn hap hB
                  by_cases hjl : j < Q.length
                  · obtain ⟨q, hq⟩ : ∃ q, Q[j]? = some q := ⟨_, List.getElem?_eq_getElem hjl⟩
                    obtain ⟨gq, hva, hgq, e0, e1, e2, e3, e4⟩ := HIn.out j q hq
                    subst hva
                    have HJL := Lib.hid hjl
                    have HQQ := Lib.hid (show Q ≠ [] by intro e; rw [e] at hq; simp at hq)
                    have HQB := Lib.hid (HEZ.out q (List.mem_of_getElem? hq))
                    have HTK := Lib.hid (show (Q.take (j + 1)).map encI = (Q.take j).map encI ++ [encI q] by rw [List.take_add_one, hq]; simp)
                    have j0 : (0 : Int) ≤ (j : Int) := by omega
                    have j1 : (j : Int) < (Q.length : Int) := by omega
                    have j3 : (j : Int) ≤ 2 := by have := HQI.out; omega
                    have HEN := Lib.hid (fun W (h : T3 W) => enc_any q.o q.d q.a q.b q.i W HQB.out.1 HQB.out.2 h)
                    obtain ⟨qo, qd, qa, qb, qi⟩ := q
                    dsimp only at e0 e1 e2 e3 e4 HEN
                    obtain ⟨M, hM⟩ : ∃ M, M = L ++ (Q.take j).map encI := ⟨_, rfl⟩
                    have HMM := Lib.hid hM
                    rw [← hM] at HO HAP ⊢
                    have HML := Lib.hid (show M.length ≤ 9000 by rw [hM]; have := HLN.out; have := HQL.out; simp; omega)
                    have HQJ := Lib.hid hq
                    clear hq hjl hj hM
                    go_upto_region 20 with fail
                    have hal : Below wr.heap.size wr (wr.alloc (.cells #[Value.int .i64 qo, Value.int .i64 qd, Value.int .i64 qa, Value.int .i64 qb, Value.int .i32 qi] 36)) := Below.alloc (Below.refl _ _) (Nat.le_refl _) _
                    have RQ := Lib.hid (RowAt.new wr [Value.int .i64 qo, Value.int .i64 qd, Value.int .i64 qa, Value.int .i64 qb, Value.int .i32 qi] 36)
                    have HOB := Lib.hid (own_overU HO.out (Out.of_below (fun _ => False) hal) (fun _ _ => id))
                    have HBB := Lib.hid (show Below W4.heap.size W4 (wr.alloc (.cells #[Value.int .i64 qo, Value.int .i64 qd, Value.int .i64 qa, Value.int .i64 qb, Value.int .i32 qi] 36)) from below_call HB.out hal)
                    have HIB := Lib.hid (HIn.out.out (Out.of_below (fun _ => False) hal) (fun _ _ => id))
                    obtain ⟨A2, hA2⟩ : ∃ A, A = wr.heap.size := ⟨_, rfl⟩
                    rw [← hA2] at RQ ⊢
                    obtain ⟨Y, hY⟩ : ∃ W, W = wr.alloc (.cells #[Value.int .i64 qo, Value.int .i64 qd, Value.int .i64 qa, Value.int .i64 qb, Value.int .i32 qi] 36) := ⟨_, rfl⟩
                    have hE2 : wr.alloc (.cells [Value.int .i64 qo, Value.int .i64 qd, Value.int .i64 qa, Value.int .i64 qb, Value.int .i32 qi].toArray 36) = Y := by rw [hY]
                    rw [hE2] at RQ
                    rw [← hY] at HOB HBB HIB ⊢
                    have HEN2 := Lib.hid (HEN.out Y (HT3.out.later (below_call HBr.out HBB.out)))
                    clear hal hA2 hY hE2 e0 e1 e2 e3 e4 HO HB HIn HEN
                    have x0 := RQ.out.cell 0 _ rfl
                    have x1 := RQ.out.cell 1 _ rfl
                    have x2 := RQ.out.cell 2 _ rfl
                    have x3 := RQ.out.cell 3 _ rfl
                    have x4 := RQ.out.cell 4 _ rfl
                    have xl := RQ.out.lt
                    go_wp2_with (first | (go_at_call 21; refine HEN2.out.mono ?_; unfold EncP; rintro e w6 ⟨rfl, hb6⟩; have HB6 := Lib.hid (below_call HBB.out hb6); have HO6 := Lib.hid (own_overU HOB.out (Out.of_below (fun _ => False) hb6) (fun _ _ => id)); have HI6 := Lib.hid (HIB.out.out (Out.of_below (fun _ => False) hb6) (fun _ _ => id)); have HS6 := Lib.hid (show W4.heap.size ≤ w6.heap.size from HB6.out.size); clear hb6) | (at_builtin; refine app_u32 rfl (.tmp 83) (.tmp 85) rfl W4.heap.size (.slice ua M.length uc) M rfl HO6.out _ rfl (by have := HML.out; omega) HS6.out ?_; intro v7 w7 h1 h2 h3; have HV7 := Lib.hid h1; have HU7 := Lib.hid h2; have HN7 := Lib.hid h3; clear h1 h2 h3))
                    exact ⟨⟨j + 1, HJL.out, rfl, by rw [HTK.out, ← List.append_assoc, ← HMM.out]; exact HV7.out, HI6.out.out HU7.out (fun g hg hs => by
                      rcases HAP.out g hs with h | h
                      · exact h hg
                      · exact HQQ.out h), fun g hg => by
                      rcases HN7.out g hg with h | h
                      · exact HAP.out g h
                      · refine .inl fun e => ?_
                        injection e with e; injection e with e
                        have := hgq
                        have := HB6.out
                        subst e
                        have hq6 : gq < w6.heap.size := by
                          obtain ⟨g2, q1, q2, _⟩ := HI6.out j _ HQJ.out
                          injection q1 with q1; injection q1 with q1; omega
                        omega, HU7.out.below HB6.out (Nat.le_refl _) (fun g hg => (World.ownsRow.lt HO6.out g hg).1)⟩, by have := HJL.out; simp [intOf]; omega⟩
                  · obtain rfl : j = Q.length := by omega
                    have jx : ¬ ((Q.length : Int) < (Q.length : Int)) := by omega
                    have HFI := Lib.hid (show OwnU wr W4.heap.size (.slice ua (wordsK l F OF (k + 1)).length uc) (wordsK l F OF (k + 1)) by
                      have h := HO.out
                      rw [List.take_length, ← HWS.out] at h
                      exact h)
                    have hee : (L ++ (Q.take Q.length).map encI).length = (wordsK l F OF (k + 1)).length := by rw [List.take_length, ← HWS.out]
                    simp only [hee]
                    clear hjl hj hee
                    go_wp2_with fail
                    exact ⟨⟨k + 1, HKL.out, rfl, HFI.out, HB.out⟩, by have := HKL.out; simp [intOf]; omega⟩
            · obtain rfl : k = l.length := by omega
              have kx : ¬ ((l.length : Int) < (l.length : Int)) := by omega
              have HMF := Lib.hid (HMZ.out.outN (Out.of_below (fun _ => False) HB.out) id)
              have HBF := Lib.hid (below_call HBr.out HB.out)
              clear hkl hk
              go_wp2_with fail
              go_returns
              exact as_yes HBF.out HBM.out (by rw [← HPE.out, ← HOF.out]; exact own_lowerU HW4.out HO.out) HMF.out (by rw [← HPE.out]; exact HIZ.out) HCA.out HTG.out HCL.out HLE.out HFB.out
    · have HB2 := Lib.hid hb2
      have HNN := Lib.hid hn
      have t1 : (r != 0) = true := by simp [hr]
      have HR := Lib.hid hr
      clear hb2 hn hr hbm
      go_wp2_with fail
      go_returns
      exact as_no HB2.out HR.out (fun _ => HNN.out)
  · have tb : (base % 4 != 0) = true := by simp [hbm]
    have HBM := Lib.hid hbm
    clear hbm
    go_enter Tryd.func11, Tryd.ntmps11
    go_wp2_with fail
    go_returns
    exact as_no (Below.refl _ _) (by decide) (fun h => absurd h HBM.out)
end Go.Proofs.YtipecnofjdhobaaDoor
