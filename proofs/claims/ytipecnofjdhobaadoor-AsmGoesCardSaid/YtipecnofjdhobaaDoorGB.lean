/- Booleans, all of them behind none. -/
import Derived.Test.YtipecnofjdhobaaDoorRxH
import Derived.Test.YtipecnofjdhobaaDoorRyM
import Derived.Test.YtipecnofjdhobaaDoorRxG
import Derived.Test.YtipecnofjdhobaaDoorRxE
namespace Go.Proofs.YtipecnofjdhobaaDoor
open Go Go.RowKit Go.Maps Pl
set_option linter.unusedVariables false
set_option linter.unusedSimpArgs false

theorem app_bools {ops : Array Oper} {rest : List Oper} {o : Oper} {a : Act} {Q : Exit → Act → World → Prop} {w : World} (hgd : o.guard = none) (s x : Operand)
    (ho : o.op = .call { callee := .builtin .append, args := #[s, x], argTypes := #[32, 32] }) (hs : a.eval s = .slice (some ⟨w.heap.size, 0, none⟩) 0 0) (f n fc : Nat) (F : Nat → Bool)
    (hx : a.eval x = .slice (some ⟨f, 0, none⟩) n fc) (hF : RowAt w f (bR n F)) (hn : n ≤ 4000)
    (h : ∀ g c w', w.heap.size ≤ g → c ≤ 9223372036854775807 → RowAt w' g (bR n F) → Below w.heap.size w w' → wpList Tryd.prog ops Q rest (a.put o.dst (.slice (some ⟨g, 0, none⟩) n c)) w') :
    wpList Tryd.prog ops Q (o :: rest) a (w.alloc (.cells #[] 4)) := by
  obtain ⟨i0, hi, hz0, hz1, hz2⟩ : ∃ i, Tryd.prog.info? 4 = some i ∧ i.zero = some (.bool false) ∧ i.size = 1 ∧ i.bytes = 1 := ⟨(Tryd.prog.info? 4).get!, by kernel_rfl, by kernel_rfl, by kernel_rfl, by kernel_rfl⟩
  have hal := Below.alloc (Below.refl w.heap.size w) (Nat.le_refl _) (.cells #[] 4)
  have hown : (w.alloc (.cells #[] 4)).ownsRow w.heap.size 4 1 (.slice (some ⟨w.heap.size, 0, none⟩) 0 0) 0 [] :=
    ⟨rfl, Or.inr ⟨w.heap.size, 0, #[], rfl, Nat.le_refl _, by show (w.heap.push _)[w.heap.size]? = _; simp, Nat.le_refl _, by simp [maxLen], rfl, rfl⟩⟩
  refine wpList_append_own_at _ hgd s x 32 ho w.heap.size 4 i0 (.bool false) 1 1 Tryd.underlying32 hi hz0 hz1 hz2 rfl (by decide) _ 0 [] hs hown ⟨f, 0, none⟩ n fc (bR n F) hx (by simp [bR]) (fun j u hu => by rw [addr_add0]; exact (hF.over hal).cell j u hu) (fun u hu => by simp [bR] at hu; obtain ⟨_, _, rfl⟩ := hu; rfl) (by unfold maxLen; omega) (by omega) hal.size ?_
  intro v' w' h1 h2 h3 h4
  rw [Nat.zero_add, List.nil_append] at h1
  have hO : Out (fun j => w.heap.size = j) (w.alloc (.cells #[] 4)) w' := Out.of_grown h2 (fun k e => by injection e)
  have hB : Below w.heap.size w w' := hO.below hal (Nat.le_refl _) (fun j hj => Nat.le_of_eq hj)
  obtain ⟨h1a, ⟨rfl, _⟩ | ⟨g', c, cur, rfl, hb, hh, hc, hm, hs2, ht⟩⟩ := h1
  · exact absurd (h3.1 rfl).1 (fun e => by cases e)
  · refine h g' c w' hb hm ⟨(Array.getElem?_eq_some_iff.1 hh).1, fun j => ?_, fun j u hu => ?_⟩ hB
    · simp [World.frozen?, hh]
    · rw [← ht] at hu
      rw [List.getElem?_take_of_lt (by
        refine Decidable.byContradiction fun e => ?_
        rw [List.getElem?_eq_none (by simp; omega)] at hu; simp at hu)] at hu
      simp only [World.cell?, hh]
      simpa using hu
end Go.Proofs.YtipecnofjdhobaaDoor

namespace Go.Proofs.YtipecnofjdhobaaDoor
open Go Go.RowKit Go.Maps Pl
set_option linter.unusedVariables false
set_option linter.unusedSimpArgs false
set_option maxRecDepth 100000

set_option maxHeartbeats 4000000 in
theorem rcheck_yes (l : List It) (hok : ∀ x ∈ l, x.okay) (hca : CanAll l) {tg : Nat → Int} (ht : TgOk l tg) (at0 : Option Addr) (c : Nat) (w : World) (hA : ItAt w at0 l) (hl : l.length ≤ 4000) (hc : c ≤ 9223372036854775807) :
    Calls Tryd.prog 13 #[.slice at0 l.length c] w fun e w' => e = .returned (.int .i64 0) ∧ Below w.heap.size w w' := by
  have HA := Lib.hid hA
  have HOK := Lib.hid hok
  have HCA := Lib.hid hca
  have HT := Lib.hid ht
  have HLL := Lib.hid hl
  have HCC := Lib.hid hc
  have hli : (l.length : Int) ≤ 4000 := by omega
  clear hA hok hca ht
  go_enter Tryd.func13, Tryd.ntmps13
  go_wp2_with fail
  go_loopw [3] (fun s3 wr => ∃ k : Nat, k ≤ l.length ∧ s3 = .int .i64 k ∧ Below w.heap.size w wr) (fun s3 _ => l.length - (intOf s3).toNat)
  case atStart => exact ⟨0, Nat.zero_le _, rfl, Below.refl _ _⟩
  case round =>
    obtain ⟨k, hk, rfl, hB⟩ := hrel
    have HB := Lib.hid hB
    clear hB
    by_cases hkl : k < l.length
    · obtain ⟨x, hx⟩ : ∃ x, l[k]? = some x := ⟨_, List.getElem?_eq_getElem hkl⟩
      obtain ⟨g, off, hat, hg, c0, c1, c2, c3, c4, c5, c6⟩ := (HA.out.later HB.out) k x hx
      subst hat
      have HMY := Lib.hid (fun W => may_yes x (HOK.out x (List.mem_of_getElem? hx)) (HCA.out x (List.mem_of_getElem? hx)) W)
      have HKL := Lib.hid hkl
      have k0 : (0 : Int) ≤ (k : Int) := by omega
      have k1 : (k : Int) < (l.length : Int) := by omega
      obtain ⟨kd, o, d, a, b', i, lb⟩ := x
      unfold It.val at HMY
      dsimp only at c0 c1 c2 c3 c4 c5 c6 HMY
      clear hx hkl hk
      go_wp2_with (go_at_call 22; refine (HMY.out _).mono ?_; rintro e w5 ⟨rfl, hb5⟩; have HB5 := Lib.hid (below_call HB.out hb5); clear hb5)
      exact ⟨⟨k + 1, HKL.out, rfl, HB5.out⟩, by have := HKL.out; simp [intOf]; omega⟩
    · obtain rfl : k = l.length := by omega
      have kx : ¬ ((l.length : Int) < (l.length : Int)) := by omega
      clear hkl hk
      obtain ⟨W, hW⟩ : ∃ W : World, W = wr := ⟨_, rfl⟩
      rw [← hW] at HB ⊢
      clear hW
      go_wp2_with fail
      go_loopw [4] (fun s4 wr => ∃ k : Nat, k ≤ l.length ∧ s4 = .int .i64 k ∧ Below w.heap.size w wr) (fun s4 _ => l.length - (intOf s4).toNat)
      case atStart => exact ⟨0, Nat.zero_le _, rfl, HB.out⟩
      case round =>
        obtain ⟨k, hk, rfl, hB⟩ := hrel
        have HB2 := Lib.hid hB
        clear hB
        by_cases hkl : k < l.length
        · obtain ⟨x, hx⟩ : ∃ x, l[k]? = some x := ⟨_, List.getElem?_eq_getElem hkl⟩
          have HXR := Lib.hid (HA.out.later HB2.out)
          obtain ⟨g, off, hat, hg, c0, c1, c2, c3, c4, c5, c6⟩ := HXR.out k x hx
          subst hat
          have HKL := Lib.hid hkl
          have HX := Lib.hid hx
          have k0 : (0 : Int) ≤ (k : Int) := by omega
          have k1 : (k : Int) < (l.length : Int) := by omega
          obtain ⟨wo, hwo⟩ : ∃ W : World, W = wr := ⟨_, rfl⟩
          rw [← hwo] at HB2 HXR c0 c1 c2 c3 c4 c5 c6 hg ⊢
          clear hwo hx hkl hk
          by_cases h24 : 2 ≤ x.kd ∧ x.kd ≤ 4
          · have hfd : ∃ (t : Nat) (y : It), l[t]? = some y ∧ y.kd = 2 ∧ y.lb = x.lb := by
              by_cases h2 : x.kd = 2
              · exact ⟨k, x, HX.out, h2, rfl⟩
              · obtain ⟨t, y, _, _, a1, a2, a3⟩ := HT.out.t k x HX.out (by omega)
                exact ⟨t, y, a1, a2, a3⟩
            obtain ⟨t, y, hy, hy2, hyl⟩ := hfd
            have HF := Lib.hid (find_any l (some ⟨g, off, none⟩) c wo HXR.out HLL.out HCC.out HT.out.u t y hy hy2)
            rw [hyl] at HF
            have t0 : ¬ ((t : Int) < 0) := by omega
            obtain ⟨q1, q2⟩ := h24
            obtain ⟨kd, o, d, a, b', i, lb⟩ := x
            dsimp only at c0 c1 c2 c3 c4 c5 c6 HF q1 q2
            clear hy hy2 hyl
            go_wp2_with (go_at_call 23; refine HF.out.mono ?_; rintro e w5 ⟨rfl, hb5⟩; have HB5 := Lib.hid (below_call HB2.out hb5); clear hb5)
            exact ⟨⟨k + 1, HKL.out, rfl, HB5.out⟩, by have := HKL.out; simp [intOf]; omega⟩
          · obtain ⟨kd, o, d, a, b', i, lb⟩ := x
            dsimp only at c0 c1 c2 c3 c4 c5 c6 h24
            by_cases q1 : 2 ≤ kd
            · have q2 : ¬ kd ≤ 4 := fun h => h24 ⟨q1, h⟩
              clear h24
              go_wp2_with fail
              exact ⟨⟨k + 1, HKL.out, rfl, HB2.out⟩, by have := HKL.out; simp [intOf]; omega⟩
            · clear h24
              go_wp2_with fail
              exact ⟨⟨k + 1, HKL.out, rfl, HB2.out⟩, by have := HKL.out; simp [intOf]; omega⟩
        · obtain rfl : k = l.length := by omega
          have kx : ¬ ((l.length : Int) < (l.length : Int)) := by omega
          clear hkl hk
          go_wp2_with fail
          go_ret
          exact ⟨rfl, HB2.out⟩
end Go.Proofs.YtipecnofjdhobaaDoor

namespace Go.Proofs.YtipecnofjdhobaaDoor
open Go Go.RowKit Pl
set_option linter.unusedVariables false

variable {m : RxI}
def RxI.it (m : RxI) : Nat → Nat → Bool
  | 0 => fun _ => false
  | k + 1 => m.pass (m.it k)
theorem pass_up {F : Nat → Bool} {i : Nat} (h : F i = true) : m.pass F i = true := by unfold RxI.pass; simp [h]
theorem pass_br {F : Nat → Bool} (h : ∀ i, F i = true → i < m.n ∧ m.br i = true) : ∀ i, m.pass F i = true → i < m.n ∧ m.br i = true := by
  intro i hi
  unfold RxI.pass RxI.new at hi
  cases hF : F i with
  | true => exact h i hF
  | false => rw [hF] at hi; simp at hi; exact ⟨hi.1, hi.2.1⟩
theorem it_br : ∀ k i, m.it k i = true → i < m.n ∧ m.br i = true
  | 0, i, h => by cases h
  | k + 1, i, h => pass_br (it_br k) i h
theorem it_least (hm : m.ok) {G : Nat → Bool} (hG : m.closed G) : ∀ k i, m.it k i = true → G i = true
  | 0, i, h => by cases h
  | k + 1, i, h => pass_least hm hG (it_least hm hG k) i h
theorem fix_closed {F : Nat → Bool} (h : m.pass F = F) : m.closed F := by
  intro i hi hb hf
  have := congrFun h i
  unfold RxI.pass RxI.new at this
  rw [hf, hb] at this
  simp [hi] at this
  exact this
theorem left_pos {F : Nat → Bool} {i : Nat} (hb : m.br i = true) (hF : F i = false) : ∀ k, i < k → 0 < m.left F k
  | 0, h => by omega
  | k + 1, h => by
    unfold RxI.left
    by_cases e : i = k
    · subst e; rw [hb, hF]; simp
    · have := left_pos hb hF k (by omega); omega
theorem it_count : ∀ k, m.pass (m.it k) = m.it k ∨ m.left (m.it k) m.n + k ≤ m.left (fun _ => false) m.n
  | 0 => .inr (Nat.le_refl _)
  | k + 1 => by
    rcases it_count k with h | h
    · left
      show m.pass (m.pass (m.it k)) = m.pass (m.it k)
      rw [h, h]
    · by_cases e : m.pass (m.it k) = m.it k
      · left
        show m.pass (m.pass (m.it k)) = m.pass (m.it k)
        rw [e, e]
      · right
        have : ∃ i, m.pass (m.it k) i ≠ m.it k i := Classical.byContradiction fun hn => e (funext fun i => Classical.byContradiction fun h2 => hn ⟨i, h2⟩)
        obtain ⟨i, hi⟩ := this
        cases hF : m.it k i with
        | true => exact absurd ((pass_up hF).trans hF.symm) hi
        | false =>
          have hG : m.pass (m.it k) i = true := by cases hg : m.pass (m.it k) i with | true => rfl | false => exact absurd (hg.trans hF.symm) hi
          have b := pass_br (it_br k) i hG
          have := left_lt (m := m) (F := m.it k) (G := m.pass (m.it k)) (fun j => pass_up) b.2 hF hG m.n b.1
          show m.left (m.pass (m.it k)) m.n + (k + 1) ≤ _
          omega
theorem it_done {k : Nat} (h : k = m.left (fun _ => false) m.n) : m.pass (m.it k) = m.it k := by
  rcases it_count (m := m) k with h1 | h1
  · exact h1
  · funext i
    cases hF : m.it k i with
    | true => exact pass_up hF
    | false =>
      unfold RxI.pass RxI.new
      rw [hF]
      by_cases hi : i < m.n
      · cases hb : m.br i with
        | false => simp
        | true => have := left_pos (m := m) hb hF m.n hi; omega
      · simp [hi]
theorem left_none (m : RxI) (k : Nat) : m.left (fun _ => false) (k + 1) = m.left (fun _ => false) k + (if m.br k then 1 else 0) := by
  show _ + (if m.br k && !false then 1 else 0) = _
  simp
theorem step_n (m : RxI) (F : Nat → Bool) : m.step F m.n = m.pass F := rfl
theorem step_any (m : RxI) (F : Nat → Bool) (k : Nat) (b : Bool) (h : b = (F k || m.new F k)) (i : Nat) : m.step F (k + 1) i = if i = k then b else m.step F k i := by
  cases hn : m.new F k with
  | true =>
    rw [step_yes hn, h, hn]
    simp
  | false =>
    rw [step_no hn, h, hn]
    by_cases e : i = k
    · subst e
      rw [if_pos rfl]
      unfold RxI.step
      simp
    · rw [if_neg e]
theorem step_at (m : RxI) (F : Nat → Bool) (k : Nat) : m.step F k k = F k := by unfold RxI.step; simp
end Go.Proofs.YtipecnofjdhobaaDoor

namespace Go.Proofs.YtipecnofjdhobaaDoor
open Go Go.RowKit Go.Maps Pl
set_option linter.unusedVariables false
set_option linter.unusedSimpArgs false
set_option maxRecDepth 100000

def RlPost (l : List It) (tg : Nat → Int) (w : World) (e : Ending) (w' : World) : Prop :=
  Below w.heap.size w w' ∧ ∃ (b pc f fc : Nat) (F : Nat → Bool), e = .returned (.tuple #[.slice (some ⟨b, 0, none⟩) (l.length + 1) pc, .slice (some ⟨f, 0, none⟩) l.length fc, .int .i64 0]) ∧
    RowAt w' b (iR (l.length + 1) (plR (szR (szL l) F))) ∧ RowAt w' f (bR l.length F) ∧ (rxM l tg).closed F ∧ (∀ G, (rxM l tg).closed G → ∀ i, F i = true → G i = true)
theorem rl_mk {l : List It} {tg : Nat → Int} {w w' : World} {b pc f fc : Nat} {F : Nat → Bool} (hb : Below w.heap.size w w') (h1 : RowAt w' b (iR (l.length + 1) (plR (szR (szL l) F)))) (h2 : RowAt w' f (bR l.length F)) (h3 : (rxM l tg).closed F) (h4 : ∀ G, (rxM l tg).closed G → ∀ i, F i = true → G i = true) :
    RlPost l tg w (.returned (.tuple #[.slice (some ⟨b, 0, none⟩) (l.length + 1) pc, .slice (some ⟨f, 0, none⟩) l.length fc, .int .i64 0])) w' := ⟨hb, b, pc, f, fc, F, rfl, h1, h2, h3, h4⟩
/-- how things stand when a round begins -/
structure RdAt (l : List It) (tg : Nat → Int) (n f fc : Nat) (s7 : Value) (w : World) : Prop where
  fc : fc ≤ 9223372036854775807
  f : RowAt w f (bR l.length ((rxM l tg).it n))
  p : n = 0 ∨ ∃ b pc, s7 = .slice (some ⟨b, 0, none⟩) (l.length + 1) pc ∧ pc ≤ 9223372036854775807 ∧ RowAt w b (iR (l.length + 1) (plR (szR (szL l) ((rxM l tg).it (n - 1)))))
set_option maxHeartbeats 16000000 in
theorem rlayout_yes (l : List It) (hok : ∀ x ∈ l, x.okay) (hca : CanAll l) (tg : Nat → Int) (ht : TgOk l tg) (at0 : Option Addr) (c : Nat) (w : World) (hA : ItAt w at0 l) (hl : l.length ≤ 4000) (hc : c ≤ 9223372036854775807) :
    Calls Tryd.prog 8 #[.slice at0 l.length c] w (RlPost l tg w) := by
  have HCH := Lib.hid (rcheck_yes l hok hca ht at0 c w hA hl hc)
  have HA := Lib.hid hA
  have HOK := Lib.hid hok
  have HCA := Lib.hid hca
  have HT := Lib.hid ht
  have HLL := Lib.hid hl
  have HCC := Lib.hid hc
  have HPB := Lib.hid (fun F => pl_bd (rxM_ok ht) F)
  have hli : (l.length : Int) ≤ 4000 := by omega
  have hmk := fun W => run_make_row' (P := Tryd.prog) 32 4 (.bool false) 1 Tryd.underlying32 info_boolN rfl .i64 .i64 l.length (by omega) (by omega) W
  clear hA hok hca ht
  go_enter Tryd.func8, Tryd.ntmps8
  go_wp2_with (go_at_call 13; refine HCH.out.mono ?_; rintro e w5 ⟨rfl, hb1⟩; have HB5 := Lib.hid hb1; clear hb1)
  have HBa := Lib.hid (Below.alloc (Below.refl w5.heap.size w5) (Nat.le_refl _) (.cells (madeCells #[Value.bool false] l.length) 4))
  have HB6 := Lib.hid (below_call HB5.out HBa.out)
  have RF := Lib.hid (bR_made w5 l.length)
  obtain ⟨BF, hBF⟩ : ∃ B, B = w5.heap.size := ⟨_, rfl⟩
  rw [← hBF] at RF ⊢
  clear hBF hmk HBa HCH
  generalize w5.alloc (.cells (madeCells #[Value.bool false] l.length) 4) = W6 at *
  refine (places_any l HOK.out HCA.out at0 c W6 (HA.out.later HB6.out) HLL.out HCC.out BF l.length (fun _ => false) RF.out (by omega)).mono ?_
  rintro e w7 ⟨b0, pc0, rfl, _, _, hb7⟩
  have HB7 := Lib.hid (below_call HB6.out hb7)
  have RF7 := Lib.hid (RF.out.over hb7)
  clear hb7 RF HB6
  obtain ⟨m, hm⟩ : ∃ m, m = rxM l tg := ⟨_, rfl⟩
  have HM := Lib.hid hm
  clear hm
  go_wp2_with fail
  go_loopw [8, 9] (fun s8 s9 wr => ∃ k : Nat, k ≤ l.length ∧ s9 = .int .i64 k ∧ s8 = .int .i64 (m.left (fun _ => false) k : Nat) ∧ wr = w7) (fun _ s9 _ => l.length - (intOf s9).toNat)
  case atStart => exact ⟨0, Nat.zero_le _, rfl, rfl, rfl⟩
  case round =>
    obtain ⟨k, hk, rfl, rfl, rfl⟩ := hrel
    by_cases hkl : k < l.length
    · obtain ⟨x, hx⟩ : ∃ x, l[k]? = some x := ⟨_, List.getElem?_eq_getElem hkl⟩
      obtain ⟨g, off, hat, hg, c0, c1, c2, c3, c4, c5, c6⟩ := (HA.out.later HB7.out) k x hx
      subst hat
      have HKL := Lib.hid hkl
      have HLN := Lib.hid (left_none m k)
      have HLB := Lib.hid (left_bd (m := m) (fun _ => false) k)
      have HBR := Lib.hid (show m.br k = (x.kd == 3) by rw [HM.out]; exact brL_at hx)
      have k0 : (0 : Int) ≤ (k : Int) := by omega
      have k1 : (k : Int) < (l.length : Int) := by omega
      obtain ⟨q, hq⟩ : ∃ q, q = m.left (fun _ => false) k := ⟨_, rfl⟩
      rw [← hq] at HLN HLB ⊢
      have q0 : (0 : Int) ≤ (q : Int) := by omega
      have q1 : (q : Int) ≤ 4000 := by have := HLB.out; omega
      obtain ⟨kd, o, d, a, b', i, lb⟩ := x
      dsimp only at c0 c1 c2 c3 c4 c5 c6 HBR
      clear hx hkl hk hq
      by_cases h3 : kd = 3
      · have t3 : (kd == 3) = true := by simp [h3]
        clear h3
        go_wp2_with fail
        exact ⟨⟨k + 1, HKL.out, rfl, by rw [HLN.out, HBR.out, t3]; simp, by first | rfl | trivial⟩, by have := HKL.out; simp [intOf]; omega⟩
      · have t3 : (kd == 3) = false := by simp [h3]
        clear h3
        go_wp2_with fail
        exact ⟨⟨k + 1, HKL.out, rfl, by rw [HLN.out, HBR.out, t3]; simp, by first | rfl | trivial⟩, by have := HKL.out; simp [intOf]; omega⟩
    · obtain rfl : k = l.length := by omega
      have kx : ¬ ((l.length : Int) < (l.length : Int)) := by omega
      have HMN := Lib.hid (left_bd (m := m) (fun _ => false) l.length)
      obtain ⟨M, hM⟩ : ∃ M, M = m.left (fun _ => false) l.length := ⟨_, rfl⟩
      have HME := Lib.hid hM
      rw [← hM] at HMN ⊢
      have hM1 : (M : Int) ≤ 4000 := by have := HMN.out; omega
      clear hkl hk hM
      go_wp2_with fail
      go_loopw [6, 7, 10] (fun s6 s7 s10 wr => ∃ (n f fc : Nat), n ≤ M + 1 ∧ s10 = .int .i64 n ∧ s6 = .slice (some ⟨f, 0, none⟩) l.length fc ∧ RdAt l tg n f fc s7 wr ∧ Below w.heap.size w wr) (fun _ _ s10 _ => M + 1 - (intOf s10).toNat)
      case atStart => exact ⟨0, BF, l.length, Nat.zero_le _, rfl, rfl, ⟨by omega, RF7.out, .inl rfl⟩, HB7.out⟩
      case round =>
        obtain ⟨n, f, fc, hn, rfl, rfl, hR, hB⟩ := hrel
        have HR := Lib.hid hR
        have HB := Lib.hid hB
        clear hR hB
        obtain ⟨W, hW⟩ : ∃ W : World, W = wr := ⟨_, rfl⟩
        rw [← hW] at HB HR ⊢
        clear hW
        by_cases hnm : n ≤ M
        · have HNM := Lib.hid hnm
          have n0 : (n : Int) ≤ (M : Int) := by omega
          have HPL := Lib.hid (places_any l HOK.out HCA.out at0 c W (HA.out.later HB.out) HLL.out HCC.out f fc _ HR.out.f HR.out.fc)
          clear hn hnm
          go_wp2_with (first
            | (go_at_call 14; refine HPL.out.mono ?_; rintro e w8 ⟨b, pc, rfl, hpc, hrp, hb8⟩; have RP := Lib.hid hrp; have HB8 := Lib.hid (below_call HB.out hb8); have RF8 := Lib.hid (HR.out.f.over hb8); have HPC := Lib.hid hpc; clear hrp hb8 hpc)
            | (at_builtin; refine app_bools rfl _ _ rfl rfl f l.length fc _ rfl RF8.out HLL.out ?_; intro g gc w9 hgb hgc hrg hb9; have HGB := Lib.hid hgb; have HGC := Lib.hid hgc; have RG9 := Lib.hid hrg; have HB9 := Lib.hid hb9; clear hgb hgc hrg hb9))
          obtain ⟨Fn, hFn⟩ : ∃ F, F = (rxM l tg).it n := ⟨_, rfl⟩
          have HFn := Lib.hid hFn
          rw [← hFn] at RG9 RP
          have HBW := Lib.hid (below_call HB8.out HB9.out)
          have HGW := Lib.hid (show w.heap.size ≤ g from Nat.le_trans HB8.out.size HGB.out)
          have RP9 := Lib.hid (RP.out.over HB9.out)
          have HA9 := Lib.hid (HA.out.later HBW.out)
          have HNG := Lib.hid (show ¬ b = g by have h1 := RP.out.lt; have h2 := HGB.out; omega)
          clear hFn HPL RF8 RP HR HB
          go_loopw [12] (fun s12 wr => ∃ k : Nat, k ≤ l.length ∧ s12 = .int .i64 k ∧ RowAt wr g (bR l.length ((rxM l tg).step Fn k)) ∧ Out (fun j => j = g) w9 wr) (fun s12 _ => l.length - (intOf s12).toNat)
          case atStart => exact ⟨0, Nat.zero_le _, rfl, by rw [step_0]; exact RG9.out, Out.refl _ _⟩
          case round =>
            obtain ⟨k, hk, rfl, hrg, hO⟩ := hrel
            have RGk := Lib.hid hrg
            have HO := Lib.hid hO
            have HBk := Lib.hid (hO.below HBW.out (Nat.le_refl _) (fun j hj => by subst hj; exact HGW.out))
            have RPk := Lib.hid (RP9.out.outN hO HNG.out)
            clear hrg hO
            obtain ⟨wo, hwo⟩ : ∃ W : World, W = wr := ⟨_, rfl⟩
            rw [← hwo] at HBk RGk HO RPk ⊢
            clear hwo
            by_cases hkl : k < l.length
            · obtain ⟨x, hx⟩ : ∃ x, l[k]? = some x := ⟨_, List.getElem?_eq_getElem hkl⟩
              have HXR := Lib.hid (HA.out.later HBk.out)
              obtain ⟨g0, off, hat, hg, c0, -⟩ := HXR.out k x hx
              subst hat
              have HKL := Lib.hid hkl
              have HX := Lib.hid hx
              have HBR := Lib.hid (brL_at hx)
              have k0 : (0 : Int) ≤ (k : Int) := by omega
              have k1 : (k : Int) < (l.length : Int) := by omega
              have gl := RGk.out.lt
              have gc0 := RGk.out.cell k _ (bR_at _ hkl)
              have gf := RGk.out.fr k
              clear hx hkl hk
              by_cases h3 : x.kd = 3
              · have t3 : (x.kd == 3) = true := by simp [h3]
                obtain ⟨t, y, ht1, ht2, ht3, ht4, ht5⟩ := HT.out.t k x HX.out (.inl h3)
                have hto : (rxM l tg).to k = t := by show (tg k).toNat = t; rw [ht1]; rfl
                have HBY := Lib.hid (fun (W : World) (hW : Below wo.heap.size wo W) => by_any l (some ⟨g0, off, none⟩) c W (HXR.out.later hW) HLL.out HCC.out HT.out.u k t x y HX.out ht3 ht4 ht5 b pc (plR (szR (szL l) Fn)) (HPB.out Fn) (RPk.out.over hW) HPC.out)
                obtain ⟨d, hd⟩ : ∃ d, d = plR (szR (szL l) Fn) t - plR (szR (szL l) Fn) k := ⟨_, rfl⟩
                have HNW := Lib.hid (show (rxM l tg).new Fn k = (!Fn k && !nearR d) by
                  show (brL l k && !Fn k && !nearR ((rxM l tg).pl Fn ((rxM l tg).to k) - (rxM l tg).pl Fn k)) = _
                  rw [hto, HBR.out, t3, hd, Bool.true_and]; rfl)
                rw [← hd] at HBY
                clear ht1 ht2 ht3 ht4 ht5 hto hd h3
                by_cases d1 : d < -4096
                · have HSY := Lib.hid (step_any (rxM l tg) Fn k true (by rw [HNW.out]; have : nearR d = false := by unfold nearR; simp; omega
                                                                         rw [this]; cases Fn k <;> rfl))
                  go_wp2_with (go_at_call 15; refine (HBY.out _ (by first | (with_reducible exact Below.refl _ _) | (with_reducible exact hc6))).mono ?_; rintro e w6 ⟨rfl, hb6⟩; have hc6 : Below wo.heap.size wo w6 := (by first | (with_reducible exact hb6) | exact below_call hc6 hb6); clear hb6; have gl1 := (RGk.out.over hc6).lt; have gc1 := (RGk.out.over hc6).cell k _ (bR_at _ HKL.out); have gf1 := (RGk.out.over hc6).fr k)
                  exact ⟨⟨k + 1, HKL.out, rfl, bR_row (RGk.out.over hc6) HKL.out (fun j _ => HSY.out j), (HO.out.trans (Out.of_below _ hc6)).trans (out_setB w6 g k (.bool true))⟩, by have := HKL.out; simp [intOf]; omega⟩
                · by_cases d2 : d > 4094
                  · have HSY := Lib.hid (step_any (rxM l tg) Fn k true (by rw [HNW.out]; have : nearR d = false := by unfold nearR; simp; omega
                                                                           rw [this]; cases Fn k <;> rfl))
                    go_wp2_with (go_at_call 15; refine (HBY.out _ (by first | (with_reducible exact Below.refl _ _) | (with_reducible exact hc6))).mono ?_; rintro e w6 ⟨rfl, hb6⟩; have hc6 : Below wo.heap.size wo w6 := (by first | (with_reducible exact hb6) | exact below_call hc6 hb6); clear hb6; have gl1 := (RGk.out.over hc6).lt; have gc1 := (RGk.out.over hc6).cell k _ (bR_at _ HKL.out); have gf1 := (RGk.out.over hc6).fr k)
                    exact ⟨⟨k + 1, HKL.out, rfl, bR_row (RGk.out.over hc6) HKL.out (fun j _ => HSY.out j), (HO.out.trans (Out.of_below _ hc6)).trans (out_setB w6 g k (.bool true))⟩, by have := HKL.out; simp [intOf]; omega⟩
                  · have HST := Lib.hid (show (rxM l tg).step Fn (k + 1) = (rxM l tg).step Fn k from step_no (by rw [HNW.out]; have : nearR d = true := by unfold nearR; simp; omega
                                                                                                                 rw [this]; cases Fn k <;> rfl))
                    go_wp2_with (go_at_call 15; refine (HBY.out _ (by first | (with_reducible exact Below.refl _ _) | (with_reducible exact hc6))).mono ?_; rintro e w6 ⟨rfl, hb6⟩; have hc6 : Below wo.heap.size wo w6 := (by first | (with_reducible exact hb6) | exact below_call hc6 hb6); clear hb6; have gl1 := (RGk.out.over hc6).lt; have gc1 := (RGk.out.over hc6).cell k _ (bR_at _ HKL.out); have gf1 := (RGk.out.over hc6).fr k)
                    exact ⟨⟨k + 1, HKL.out, rfl, by rw [HST.out]; exact RGk.out.over hc6, HO.out.trans (Out.of_below _ hc6)⟩, by have := HKL.out; simp [intOf]; omega⟩
              · have t3 : (x.kd == 3) = false := by simp [h3]
                have HST := Lib.hid (show (rxM l tg).step Fn (k + 1) = (rxM l tg).step Fn k from step_no (by
                  show (brL l k && !Fn k && !nearR ((rxM l tg).pl Fn ((rxM l tg).to k) - (rxM l tg).pl Fn k)) = _
                  rw [HBR.out, t3]; rfl))
                clear h3
                go_wp2_with fail
                exact ⟨⟨k + 1, HKL.out, rfl, by rw [HST.out]; exact RGk.out, HO.out⟩, by have := HKL.out; simp [intOf]; omega⟩
            · obtain rfl : k = l.length := by omega
              have kx : ¬ ((l.length : Int) < (l.length : Int)) := by omega
              clear hkl hk
              go_wp2_with fail
              exact ⟨⟨n + 1, g, gc, by have := HNM.out; omega, rfl, rfl, ⟨HGC.out, by have h := RGk.out; rw [HFn.out] at h; exact h, .inr ⟨b, pc, rfl, HPC.out, by rw [Nat.add_sub_cancel, ← HFn.out]; exact RPk.out⟩⟩, HBk.out⟩, by have := HNM.out; simp [intOf]; omega⟩
        · obtain rfl : n = M + 1 := by omega
          have nx : ¬ (((M + 1 : Nat) : Int) ≤ (M : Int)) := by omega
          obtain ⟨F, hF⟩ : ∃ F, F = (rxM l tg).it M := ⟨_, rfl⟩
          have hfx : (rxM l tg).pass F = F := by rw [hF]; exact it_done (by rw [HME.out, HM.out]; rfl)
          have HCL := Lib.hid (fix_closed hfx)
          have HLE := Lib.hid (show ∀ G, (rxM l tg).closed G → ∀ i, F i = true → G i = true by rw [hF]; exact fun G hG => it_least (rxM_ok HT.out) hG M)
          have HFB := Lib.hid (show ∀ i, F i = true → i < l.length ∧ brL l i = true by rw [hF]; exact it_br M)
          have RF := Lib.hid (show RowAt W f (bR l.length F) by
            have h := HR.out.f
            rw [show (rxM l tg).it (M + 1) = (rxM l tg).pass ((rxM l tg).it M) from rfl, ← hF, hfx] at h
            exact h)
          obtain ⟨b, pc, rfl, hpc, hrp⟩ := HR.out.p.resolve_left (by omega)
          rw [Nat.add_sub_cancel, ← hF] at hrp
          have RP := Lib.hid hrp
          have HPC := Lib.hid hpc
          have HA9 := Lib.hid (HA.out.later HB.out)
          clear hn hnm hF hfx hpc hrp HR
          go_wp2_with fail
          go_loopw [13] (fun s13 wr => ∃ k : Nat, k ≤ l.length ∧ s13 = .int .i64 k ∧ Below W.heap.size W wr) (fun s13 _ => l.length - (intOf s13).toNat)
          case atStart => exact ⟨0, Nat.zero_le _, rfl, Below.refl _ _⟩
          case round =>
            obtain ⟨k, hk, rfl, hBk⟩ := hrel
            have HBk := Lib.hid hBk
            clear hBk
            obtain ⟨wo, hwo⟩ : ∃ W : World, W = wr := ⟨_, rfl⟩
            rw [← hwo] at HBk ⊢
            clear hwo
            by_cases hkl : k < l.length
            · obtain ⟨x, hx⟩ : ∃ x, l[k]? = some x := ⟨_, List.getElem?_eq_getElem hkl⟩
              have HXR := Lib.hid (HA9.out.later HBk.out)
              have RPk := Lib.hid (RP.out.over HBk.out)
              have RFk := Lib.hid (RF.out.over HBk.out)
              obtain ⟨g0, off, hat, hg, c0, -⟩ := HXR.out k x hx
              subst hat
              have HKL := Lib.hid hkl
              have HX := Lib.hid hx
              have HFk := Lib.hid (fun h => (by have h2 := (HFB.out k h).2; rw [brL_at hx] at h2; simpa using h2 : x.kd = 3))
              have k0 : (0 : Int) ≤ (k : Int) := by omega
              have k1 : (k : Int) < (l.length : Int) := by omega
              have gl := RFk.out.lt
              have gc0 := RFk.out.cell k _ (bR_at F hkl)
              clear hx hkl hk
              by_cases hj : x.kd = 4 ∨ F k = true
              · have hkd : x.kd = 3 ∨ x.kd = 4 := by rcases hj with h | h; exact .inr h; exact .inl (HFk.out h)
                obtain ⟨t, y, ht1, ht2, ht3, ht4, ht5⟩ := HT.out.t k x HX.out hkd
                have HBY := Lib.hid (fun (W : World) (hW : Below wo.heap.size wo W) => by_any l (some ⟨g0, off, none⟩) c W (HXR.out.later hW) HLL.out HCC.out HT.out.u k t x y HX.out ht3 ht4 ht5 b pc (plR (szR (szL l) F)) (HPB.out F) (RPk.out.over hW) HPC.out)
                have b1 := HPB.out F t
                have b2 := HPB.out F k
                have tl := (List.getElem?_eq_some_iff.1 ht3).1
                have e1 : plR (szR (szL l) F) t ≤ 32000 ∧ 0 ≤ plR (szR (szL l) F) t := by have h3 : (rxM l tg).pl F t = plR (szR (szL l) F) t := rfl; have := HLL.out; omega
                have e2 : plR (szR (szL l) F) k ≤ 32000 ∧ 0 ≤ plR (szR (szL l) F) k := by have h3 : (rxM l tg).pl F k = plR (szR (szL l) F) k := rfl; have := HLL.out; have := HKL.out; omega
                obtain ⟨d, hd⟩ : ∃ d, d = plR (szR (szL l) F) t - plR (szR (szL l) F) k := ⟨_, rfl⟩
                have d1 : -32000 ≤ d ∧ d ≤ 32000 := by omega
                obtain ⟨d2, d3⟩ := d1
                have d4 : ¬ d < -1048576 := by omega
                have d5 : ¬ d > 1048574 := by omega
                have d6 : ¬ d < -1048572 := by omega
                have d7 : ¬ d > 1048578 := by omega
                rw [← hd] at HBY
                clear ht1 ht2 ht3 ht4 ht5 hd b1 b2 e1 e2 tl
                by_cases h4 : x.kd = 4
                · have t4 : (x.kd == 4) = true := by simp [h4]
                  have hf : F k = false := by cases h : F k with | true => have := HFk.out h; omega | false => rfl
                  rw [hf] at gc0
                  clear hj hkd h4 hf
                  go_wp2_with (go_at_call 15; refine (HBY.out _ (by first | (with_reducible exact Below.refl _ _) | (with_reducible exact hc6))).mono ?_; rintro e w6 ⟨rfl, hb6⟩; have hc6 : Below wo.heap.size wo w6 := (by first | (with_reducible exact hb6) | exact below_call hc6 hb6); clear hb6; have gl1 := (RFk.out.over hc6).lt; have gc1 := (hc6.cell (p := ⟨f, k, none⟩) RFk.out.lt).trans gc0)
                  exact ⟨⟨k + 1, HKL.out, rfl, below_call HBk.out hc6⟩, by have := HKL.out; simp [intOf]; omega⟩
                · have t4 : (x.kd == 4) = false := by simp [h4]
                  have hf : F k = true := by rcases hj with h | h; exact absurd h h4; exact h
                  rw [hf] at gc0
                  clear hj hkd h4 hf
                  go_wp2_with (go_at_call 15; refine (HBY.out _ (by first | (with_reducible exact Below.refl _ _) | (with_reducible exact hc6))).mono ?_; rintro e w6 ⟨rfl, hb6⟩; have hc6 : Below wo.heap.size wo w6 := (by first | (with_reducible exact hb6) | exact below_call hc6 hb6); clear hb6; have gl1 := (RFk.out.over hc6).lt; have gc1 := (hc6.cell (p := ⟨f, k, none⟩) RFk.out.lt).trans gc0)
                  exact ⟨⟨k + 1, HKL.out, rfl, below_call HBk.out hc6⟩, by have := HKL.out; simp [intOf]; omega⟩
              · have t4 : (x.kd == 4) = false := by simp; exact fun h => hj (.inl h)
                have hf : F k = false := by cases h : F k with | true => exact absurd (.inr h) hj | false => rfl
                rw [hf] at gc0
                clear hj hf
                go_wp2_with fail
                exact ⟨⟨k + 1, HKL.out, rfl, HBk.out⟩, by have := HKL.out; simp [intOf]; omega⟩
            · obtain rfl : k = l.length := by omega
              have kx : ¬ ((l.length : Int) < (l.length : Int)) := by omega
              clear hkl hk
              have HBz := Lib.hid (below_call HB.out HBk.out)
              have RPz := Lib.hid (RP.out.over HBk.out)
              have RFz := Lib.hid (RF.out.over HBk.out)
              go_wp2_with fail
              go_returns
              exact rl_mk HBz.out RPz.out RFz.out HCL.out HLE.out
end Go.Proofs.YtipecnofjdhobaaDoor
