/- Plain: bounds that are brought into the node ahead leave a network sound, with the same shapes. -/
import Derived.Test.YtdbfakllcaojcaaGA
import Derived.Test.YtdbfakllcaojcaaFA
import Derived.Test.YtdbfakllcaojcaaCL
namespace Go.Proofs.Ytdbfakllcaojcaa
open Go Go.RowKit
set_option linter.unusedVariables false

def clampI (x a b : Int) : Int := if x < a then a else if b < x then b else x
theorem clampI_in {x a b : Int} (h : a ≤ b) : a ≤ clampI x a b ∧ clampI x a b ≤ b := by
  unfold clampI; split
  · omega
  · split <;> omega
theorem clampI_mono {x y a b : Int} (h : a ≤ b) (hxy : x ≤ y) : clampI x a b ≤ clampI y a b := by
  unfold clampI; split <;> split <;> (try split) <;> (try split) <;> omega
/-- the node ahead with its bounds brought within the clamp's -/
def brought (m n : Nd) : Nd := { m with lo := clampI m.lo n.lo n.hi, hi := clampI m.hi n.lo n.hi }
theorem brought_op (m n : Nd) : (brought m n).op = m.op := rfl
theorem brought_ins (m n : Nd) : insN (brought m n) = insN m := rfl
theorem outN_brought (m n : Nd) (a b : Sh) : outN (brought m n) a b = outN m a b := rfl
theorem weightsE_brought (C : List Cn) (m n : Nd) (a s : Sh) : weightsE C (brought m n) a s = weightsE C m a s := rfl
theorem idle_brought (m n : Nd) (hl : hL m.op = true) (h : idleN m = true) : idleN (brought m n) = true := by
  have e : (brought m n).op = m.op := rfl
  unfold idleN at h ⊢
  rw [e, hl] at *
  simpa [brought] using h
theorem small_in {x a b : Int} (ha : smallB a = true) (hb : smallB b = true) (h0 : a ≤ x) (h1 : x ≤ b) : smallB x = true := by
  unfold smallB at *
  simp at ha hb ⊢
  omega
theorem numbers_brought (C : List Cn) (m n : Nd) (hm : numbersB C m = true) (hn : numbersB C n = true) : numbersB C (brought m n) = true := by
  unfold numbersB at hm hn ⊢
  simp only [Bool.and_eq_true, decide_eq_true_eq] at hm hn ⊢
  obtain ⟨⟨⟨⟨⟨⟨⟨m1, m2⟩, m3⟩, m4⟩, m5⟩, m6⟩, m7⟩, m8⟩ := hm
  obtain ⟨⟨⟨⟨⟨⟨⟨_, _⟩, _⟩, n4⟩, n5⟩, n6⟩, _⟩, _⟩ := hn
  have c1 := clampI_in (x := m.lo) n6.1
  have c2 := clampI_in (x := m.hi) n6.1
  exact ⟨⟨⟨⟨⟨⟨⟨m1, m2⟩, m3⟩, small_in n4 n5 c1.1 c1.2⟩, small_in n4 n5 c2.1 c2.2⟩, clampI_mono n6.1 m6.1, m6.2⟩, m7⟩, m8⟩
/-- what a sound node is, part by part -/
theorem nodeE_ok {C : List Cn} {n : Nd} {l : List Sh} : (nodeE C n l).1 = 0 ↔ (1 ≤ n.op ∧ n.op ≤ 14) ∧ insOk n l.length = true ∧ idleN n = true ∧ (outN n (l.getD n.a.toNat default) (l.getD n.b.toNat default)).1 = 0 ∧
    (outN n (l.getD n.a.toNat default) (l.getD n.b.toNat default)).2.fit = 0 ∧ ¬ (n.op = 4 ∧ 4096 < (l.getD n.a.toNat default).size) ∧ weightsE C n (l.getD n.a.toNat default) (outN n (l.getD n.a.toNat default) (l.getD n.b.toNat default)).2 = 0 ∧ numbersB C n = true := by
  unfold nodeE
  generalize outN n (l.getD n.a.toNat default) (l.getD n.b.toNat default) = q
  by_cases h1 : n.op < 1 ∨ 14 < n.op
  · rw [if_pos h1]; simp; omega
  rw [if_neg h1]
  by_cases h2 : insOk n l.length = false
  · rw [if_pos h2]; simp [h2]
  rw [if_neg h2]
  by_cases h3 : idleN n = false
  · rw [if_pos h3]; simp [h3]
  rw [if_neg h3]
  by_cases h4 : q.1 ≠ 0
  · rw [if_pos h4]; simp [h4]
  rw [if_neg h4]
  by_cases h5 : q.2.fit ≠ 0
  · rw [if_pos h5]; simp [h5]
  rw [if_neg h5]
  by_cases h6 : n.op = 4 ∧ 4096 < (l.getD n.a.toNat default).size
  · rw [if_pos h6]; exact ⟨fun h => by simp at h, fun h => absurd h6 h.2.2.2.2.2.1⟩
  rw [if_neg h6]
  by_cases h7 : weightsE C n (l.getD n.a.toNat default) q.2 ≠ 0
  · rw [if_pos h7]; exact ⟨fun h => absurd h h7, fun h => absurd h.2.2.2.2.2.2.1 h7⟩
  rw [if_neg h7]
  by_cases h8 : numbersB C n = false
  · rw [if_pos h8]; simp [h8]
  rw [if_neg h8]
  exact ⟨fun _ => ⟨by omega, by simpa using h2, by simpa using h3, by simpa using h4, by simpa using h5, h6, by simpa using h7, by simpa using h8⟩, fun _ => rfl⟩
theorem nodeE_val {C : List Cn} {n : Nd} {l : List Sh} (h : (nodeE C n l).1 = 0) : (nodeE C n l).2 = (outN n (l.getD n.a.toNat default) (l.getD n.b.toNat default)).2 := by
  obtain ⟨h1, h2, h3, h4, h5, h6, h7, h8⟩ := nodeE_ok.1 h
  unfold nodeE
  rw [if_neg (by omega), if_neg (by rw [h2]; simp), if_neg (by rw [h3]; simp), if_neg (by simpa using h4), if_neg (by simpa using h5), if_neg h6, if_neg (by simpa using h7), if_neg (by rw [h8]; simp)]
/-- where a sound node's values lie -/
theorem ins_lt {n : Nd} {m : Nat} (hm : 0 < m) (h1 : 1 ≤ n.op ∧ n.op ≤ 14) (hi : insOk n m = true) (hd : idleN n = true) : (0 ≤ n.a ∧ n.a < m) ∧ (0 ≤ n.b ∧ n.b < m) := by
  unfold idleN at hd
  simp only [Bool.and_eq_true, Bool.or_eq_true] at hd
  obtain ⟨⟨⟨⟨⟨⟨⟨⟨⟨⟨⟨⟨⟨ha, hb⟩, _⟩, _⟩, _⟩, _⟩, _⟩, _⟩, _⟩, _⟩, _⟩, _⟩, _⟩, _⟩ := hd
  unfold insOk insN at hi
  by_cases e1 : n.op = 1
  · have a0 : n.a = 0 := by
      rcases ha with h | h
      · unfold hA at h; simp at h; exact absurd e1 h
      · simpa using h
    have b0 : n.b = 0 := by
      rcases hb with h | h
      · unfold hB at h; simp at h; omega
      · simpa using h
    omega
  · rw [if_neg e1] at hi
    by_cases e2 : hB n.op = true
    · rw [if_pos e2] at hi
      simp at hi
      omega
    · rw [if_neg e2] at hi
      have b0 : n.b = 0 := by
        rcases hb with h | h
        · exact absurd h e2
        · simpa using h
      simp at hi
      omega
/-- the node that stands for a clamp: sound, of the clamp's shape -/
theorem brought_node {C : List Cn} {m n : Nd} {l r : List Sh} {s : Sh} (hl : hL m.op = true) (hm : (nodeE C m l).1 = 0) (hs : (nodeE C m l).2 = s) (hl0 : 0 < l.length) (hn : numbersB C n = true) :
    (nodeE C (brought m n) (l ++ r)).1 = 0 ∧ (nodeE C (brought m n) (l ++ r)).2 = s := by
  obtain ⟨h1, h2, h3, h4, h5, h6, h7, h8⟩ := nodeE_ok.1 hm
  obtain ⟨⟨a0, a1⟩, ⟨b0, b1⟩⟩ := ins_lt hl0 h1 h2 h3
  have ea : (l ++ r).getD (brought m n).a.toNat default = l.getD m.a.toNat default := by
    show (l ++ r).getD m.a.toNat default = _
    simp [List.getD, List.getElem?_append_left (show m.a.toNat < l.length by omega)]
  have eb : (l ++ r).getD (brought m n).b.toNat default = l.getD m.b.toNat default := by
    show (l ++ r).getD m.b.toNat default = _
    simp [List.getD, List.getElem?_append_left (show m.b.toNat < l.length by omega)]
  have hi : insOk (brought m n) (l ++ r).length = true := by
    unfold insOk at h2 ⊢
    rw [brought_ins]
    rw [List.all_eq_true] at h2 ⊢
    intro v hv
    have := of_decide_eq_true (h2 v hv)
    rw [List.length_append]
    exact decide_eq_true (by omega)
  have hk : (nodeE C (brought m n) (l ++ r)).1 = 0 := by
    rw [nodeE_ok, ea, eb, outN_brought, weightsE_brought, brought_op]
    exact ⟨h1, hi, idle_brought m n hl h3, h4, h5, h6, h7, numbers_brought C m n h8 hn⟩
  refine ⟨hk, ?_⟩
  rw [nodeE_val hk, ea, eb, outN_brought, ← nodeE_val hm, hs]
/-- a sound network, node by node -/
theorem shapes_iff {C : List Cn} : ∀ (ns : List Nd) (l r : List Sh), shapesE C ns l = (0, l ++ r) ↔ r.length = ns.length ∧ ∀ (j : Nat) (n : Nd), ns[j]? = some n → nodeE C n (l ++ r.take j) = (0, r.getD j default)
  | [], l, r => by
    rw [shapesE]
    constructor
    · intro h
      have : l ++ r = l := by injection h with _ h; exact h.symm
      have : r = [] := by simpa using this
      subst this
      exact ⟨rfl, fun j n h => by simp at h⟩
    · rintro ⟨h, _⟩
      have : r = [] := List.length_eq_zero_iff.1 (by simpa using h)
      subst this; simp
  | n :: ns, l, r => by
    rw [shapesE]
    by_cases e : (nodeE C n l).1 ≠ 0
    · rw [if_pos e]
      constructor
      · intro h; injection h with h _; exact absurd h e
      · rintro ⟨_, h⟩
        have := h 0 n rfl
        rw [List.take_zero, List.append_nil] at this
        rw [this] at e; exact absurd rfl e
    · rw [if_neg e]
      have e0 : (nodeE C n l).1 = 0 := by simpa using e
      cases r with
      | nil =>
        constructor
        · intro h
          have h2 := shapes_len2 ns (l ++ [(nodeE C n l).2]) (by rw [h])
          rw [h] at h2; simp only [List.length_append, List.length_singleton, List.length_nil] at h2; exact absurd h2 (by omega)
        · rintro ⟨h, _⟩; simp at h
      | cons s r =>
        by_cases es : (nodeE C n l).2 = s
        · rw [es, show l ++ s :: r = (l ++ [s]) ++ r by simp, shapes_iff ns (l ++ [s]) r]
          constructor
          · rintro ⟨h1, h2⟩
            refine ⟨by simp [h1], fun j m hj => ?_⟩
            cases j with
            | zero =>
              obtain rfl : n = m := by simpa using hj
              rw [List.take_zero, List.append_nil]
              exact Prod.ext e0 es
            | succ j =>
              have := h2 j m (by simpa using hj)
              simpa [List.take_succ_cons] using this
          · rintro ⟨h1, h2⟩
            refine ⟨by simpa using h1, fun j m hj => ?_⟩
            have := h2 (j + 1) m (by simpa using hj)
            simpa [List.take_succ_cons] using this
        · constructor
          · intro h
            have h2 := shapes_pre ns (l ++ [(nodeE C n l).2]) (by rw [h])
            rw [h] at h2
            obtain ⟨q, hq⟩ := h2
            exact absurd (by
              have := congrArg (fun x => x[l.length]?) hq
              simpa using this) es
          · rintro ⟨_, h⟩
            have := h 0 n rfl
            rw [List.take_zero, List.append_nil] at this
            rw [this] at es; exact absurd rfl es
where
  shapes_pre {C : List Cn} : ∀ (ns : List Nd) (l : List Sh), (shapesE C ns l).1 = 0 → ∃ q, l ++ q = (shapesE C ns l).2
  | [], l, _ => ⟨[], by simp [shapesE]⟩
  | n :: r, l, h => by
    rw [shapesE] at h ⊢
    by_cases e : (nodeE C n l).1 ≠ 0
    · rw [if_pos e] at h; exact absurd h e
    · rw [if_neg e] at h ⊢
      obtain ⟨q, hq⟩ := shapes_pre r _ h
      exact ⟨(nodeE C n l).2 :: q, by rw [← hq]; simp⟩
  shapes_len2 {C : List Cn} (ns : List Nd) (l : List Sh) (h : (shapesE C ns l).1 = 0) : l.length ≤ (shapesE C ns l).2.length := by
    obtain ⟨q, hq⟩ := shapes_pre ns l h
    rw [← hq]; simp
/-- a clamp gives way to the node ahead -/
theorem shapes_brought {C : List Cn} {ns : List Nd} {s0 : Sh} {r : List Sh} {i k : Nat} {m n : Nd} (h : shapesE C ns [s0] = (0, [s0] ++ r)) (hi : ns[i]? = some n) (hk : ns[k]? = some m) (hki : k < i) (ho : n.op = 9) (ha : n.a = (k : Int) + 1) (hl : hL m.op = true) :
    shapesE C (ns.set i (brought m n)) [s0] = (0, [s0] ++ r) := by
  obtain ⟨h1, h2⟩ := (shapes_iff ns [s0] r).1 h
  refine (shapes_iff _ [s0] r).2 ⟨by simpa using h1, fun j x hj => ?_⟩
  by_cases e : j = i
  · subst e
    have hil := (List.getElem?_eq_some_iff.1 hi).1
    rw [List.getElem?_set_self hil] at hj
    obtain rfl := Option.some.inj hj
    have hn := h2 j n hi
    have hm := h2 k m hk
    have hn0 : (nodeE C n ([s0] ++ r.take j)).1 = 0 := by rw [hn]
    have hkl := (List.getElem?_eq_some_iff.1 hk).1
    -- the clamp's shape is that of the value that it reads
    have hv := nodeE_val hn0
    have hs : r.getD j default = r.getD k default := by
      have e1 : (nodeE C n ([s0] ++ r.take j)).2 = r.getD j default := by rw [hn]
      rw [← e1, hv]
      have e2 : ∀ a b : Sh, (outN n a b).2 = a := by intro a b; simp [outN, ho, hWin, hC]
      rw [e2, ha]
      have e3 : ((k : Int) + 1).toNat = k + 1 := by omega
      rw [e3]
      have e4 : ([s0] ++ r.take j).getD (k + 1) default = (r.take j).getD k default := by simp [List.getD]
      rw [e4]
      simp [List.getD, hki]
    have hb := brought_node (C := C) (m := m) (n := n) (l := [s0] ++ r.take k) (r := (r.take j).drop k) (s := r.getD k default) hl (by rw [hm]) (by rw [hm]) (by simp) (nodeE_ok.1 hn0).2.2.2.2.2.2.2
    have e5 : [s0] ++ r.take k ++ (r.take j).drop k = [s0] ++ r.take j := by
      rw [List.append_assoc]
      congr 1
      have : r.take k = (r.take j).take k := by rw [List.take_take, Nat.min_eq_left (by omega)]
      rw [this, List.take_append_drop]
    rw [e5] at hb
    exact Prod.ext hb.1 (hb.2.trans hs.symm)
  · rw [List.getElem?_set_ne (fun h => e h.symm)] at hj
    exact h2 j x hj
end Go.Proofs.Ytdbfakllcaojcaa

namespace Go.Proofs.Ytdbfakllcaojcaa
open Go Go.RowKit
set_option linter.unusedVariables false

/-- whether a node can give way to the one ahead -/
def canB (L : List Int) (ns : List Nd) (n : Nd) : Bool := (n.op == 9) && (decide (0 < n.a) && ((L.getD n.a.toNat 0 == 1) && hL (ns.getD (n.a.toNat - 1) default).op))
/-- nodes, how often values are used, how many gave way -/
structure FuS where
  ns : List Nd
  L : List Int
  m : Nat
def fuStep (s : FuS) (k : Nat) : FuS :=
  let n := s.ns.getD k default
  let m := brought (s.ns.getD (n.a.toNat - 1) default) n
  if canB s.L s.ns n then ⟨s.ns.set k m, addAll 1 (addAll (-1) s.L (insN n)) (insN m), s.m + 1⟩ else s
/-- what holds all along -/
structure FuI (C : List Cn) (o : Int) (s0 : Sh) (r : List Sh) (N : Nat) (s : FuS) : Prop where
  len : s.ns.length = N
  lenL : s.L.length = N + 1
  sound : shapesE C s.ns [s0] = (0, [s0] ++ r)
  uses : ∀ i : Nat, i < N + 1 → s.L.getD i 0 = ((usesV o s.ns (i : Int) : Nat) : Int)
theorem FuI.ins {C : List Cn} {o : Int} {s0 : Sh} {r : List Sh} {N : Nat} {s : FuS} (h : FuI C o s0 r N s) : ∀ n ∈ s.ns, ∀ v ∈ insN n, 0 ≤ v ∧ v < ((N + 1 : Nat) : Int) := by
  intro n hn v hv
  have := shapes_ins s.ns [s0] (by rw [h.sound]) n hn v hv
  rw [h.len, List.length_singleton] at this
  omega
theorem FuI.bd {C : List Cn} {o : Int} {s0 : Sh} {r : List Sh} {N : Nat} {s : FuS} (h : FuI C o s0 r N s) : ∀ x ∈ s.L, 0 ≤ x ∧ x ≤ 2 * N + 1 := by
  intro x hx
  obtain ⟨i, hi, rfl⟩ := List.getElem_of_mem hx
  have := h.uses i (by have := h.lenL; omega)
  have e : s.L.getD i 0 = s.L[i] := by simp [List.getD, hi]
  rw [e] at this
  have hb := usesV_le o (i : Int) s.ns
  rw [h.len] at hb
  omega
/-- a sound network's node, where it stands -/
theorem FuI.node {C : List Cn} {o : Int} {s0 : Sh} {r : List Sh} {N : Nat} {s : FuS} (h : FuI C o s0 r N s) {k : Nat} {n : Nd} (hk : s.ns[k]? = some n) : (nodeE C n ([s0] ++ r.take k)).1 = 0 ∧ (0 ≤ n.a ∧ n.a < (k : Int) + 1) ∧ numbersB C n = true := by
  have hh := ((shapes_iff s.ns [s0] r).1 h.sound)
  have h2 := hh.2 k n hk
  have h1 : (nodeE C n ([s0] ++ r.take k)).1 = 0 := by rw [h2]
  have hkl := (List.getElem?_eq_some_iff.1 hk).1
  obtain ⟨q1, q2, q3, _, _, _, _, q8⟩ := nodeE_ok.1 h1
  have hl : ([s0] ++ r.take k).length = k + 1 := by simp; omega
  have := ins_lt (m := k + 1) (by omega) q1 (by rw [← hl]; exact q2) q3
  exact ⟨h1, by have := this.1; omega, q8⟩
theorem usesNs_set (v : Int) {ns : List Nd} {k : Nat} {n : Nd} (h : ns[k]? = some n) (m : Nd) : usesNs v (ns.set k m) + (insN n).count v = usesNs v ns + (insN m).count v := by
  obtain ⟨hk, rfl⟩ := List.getElem?_eq_some_iff.1 h
  have e1 : ns = ns.take k ++ ns[k] :: ns.drop (k + 1) := by rw [← List.drop_eq_getElem_cons hk, List.take_append_drop]
  have e2 : ns.set k m = ns.take k ++ m :: ns.drop (k + 1) := by rw [List.set_eq_take_append_cons_drop, if_pos hk]
  have e3 : usesNs v ns = usesNs v (ns.take k) + ((insN ns[k]).count v + usesNs v (ns.drop (k + 1))) := by
    conv => lhs; rw [e1]
    rw [usesNs_app, usesNs]
  rw [e2, usesNs_app, usesNs, e3]
  omega
theorem FuI.step {C : List Cn} {o : Int} {s0 : Sh} {r : List Sh} {N : Nat} {s : FuS} (h : FuI C o s0 r N s) {k : Nat} (hk : k < N) : FuI C o s0 r N (fuStep s k) ∧ (fuStep s k).m ≤ s.m + 1 := by
  unfold fuStep
  obtain ⟨n, hn⟩ : ∃ n, s.ns[k]? = some n := ⟨_, List.getElem?_eq_getElem (by rw [h.len]; exact hk)⟩
  have en : s.ns.getD k default = n := by simp [List.getD, hn]
  simp only [en]
  by_cases hc : canB s.L s.ns n = true
  · rw [if_pos hc]
    unfold canB at hc
    simp only [Bool.and_eq_true, beq_iff_eq, decide_eq_true_eq] at hc
    obtain ⟨c1, c2, c3, c4⟩ := hc
    obtain ⟨_, ⟨a0, a1⟩, _⟩ := h.node hn
    obtain ⟨m, hm⟩ : ∃ m, s.ns[n.a.toNat - 1]? = some m := ⟨_, List.getElem?_eq_getElem (by rw [h.len]; omega)⟩
    have em : s.ns.getD (n.a.toNat - 1) default = m := by simp [List.getD, hm]
    rw [em] at c4 ⊢
    have hin := h.ins
    have hsound := shapes_brought h.sound hn hm (by omega) c1 (by omega) c4
    have hl1 : (addAll (-1) s.L (insN n)).length = N + 1 := by rw [addAll_len, h.lenL]
    refine ⟨⟨by simp [h.len], by rw [addAll_len, hl1], hsound, fun i hi => ?_⟩, Nat.le_refl _⟩
    have i1 : ∀ v ∈ insN n, 0 ≤ v ∧ v < (s.L.length : Int) := by rw [h.lenL]; exact hin n (List.mem_of_getElem? hn)
    have i2 : ∀ v ∈ insN (brought m n), 0 ≤ v ∧ v < ((addAll (-1) s.L (insN n)).length : Int) := by rw [hl1, brought_ins]; exact hin m (List.mem_of_getElem? hm)
    rw [addAll_at 1 i _ _ i2, addAll_at (-1) i _ _ i1, h.uses i hi]
    have hset := usesNs_set (i : Int) hn (brought m n)
    have hcl := List.count_le_length (a := (i : Int)) (l := insN n)
    unfold usesV
    show (((if o = (i : Int) then 1 else 0) + usesNs (i : Int) s.ns : Nat) : Int) + _ + _ = (((if o = (i : Int) then 1 else 0) + usesNs (i : Int) (s.ns.set k (brought m n)) : Nat) : Int)
    split <;> push_cast <;> omega
  · rw [if_neg hc]
    exact ⟨h, Nat.le_succ _⟩
end Go.Proofs.Ytdbfakllcaojcaa

namespace Go.Proofs.Ytdbfakllcaojcaa
open Go Go.RowKit
set_option linter.unusedVariables false
set_option maxRecDepth 100000

/-- but for blocks U and X all old ones are as they were -/
structure K2 (U X : Nat) (w w' : World) : Prop where
  os : w'.os = w.os
  tape : w'.tape = w.tape
  output : w'.output = w.output
  size : w.heap.size ≤ w'.heap.size
  blk : ∀ i, i < w.heap.size → i ≠ U → i ≠ X → w'.heap[i]? = w.heap[i]?
theorem K2.refl (U X : Nat) (w : World) : K2 U X w w := ⟨rfl, rfl, rfl, Nat.le_refl _, fun _ _ _ _ => rfl⟩
theorem K2.trans {U X : Nat} {a b c : World} (h : K2 U X a b) (k : K2 U X b c) : K2 U X a c :=
  ⟨k.os.trans h.os, k.tape.trans h.tape, k.output.trans h.output, Nat.le_trans h.size k.size, fun i hi h1 h2 => (k.blk i (Nat.lt_of_lt_of_le hi h.size) h1 h2).trans (h.blk i hi h1 h2)⟩
theorem K2.of_below {U X : Nat} {w w' : World} (h : Below w.heap.size w w') : K2 U X w w' := ⟨h.os, h.tape, h.output, h.size, fun i hi _ _ => h.block i hi⟩
theorem K2.of_u {U X : Nat} {w w' : World} (h : w.grownBy w' (some U)) : K2 U X w w' := ⟨h.os, h.tape, h.output, h.size, fun i hi h1 _ => h.block i hi (by intro e; exact h1 (Option.some.inj e))⟩
theorem K2.below {U X n : Nat} {w w' : World} (h : K2 U X w w') (hU : n ≤ U) (hX : n ≤ X) (hn : n ≤ w.heap.size) : Below n w w' :=
  ⟨h.os, h.tape, h.output, h.size, fun i hi => h.blk i (by omega) (by omega) (by omega)⟩
theorem K2.kpx {U X B : Nat} {w w' : World} (h : K2 U X w w') (hU : U < B) : KpX B X w w' := ⟨h.size, fun k hk hl hne => h.blk k hl (by omega) hne⟩
theorem frozen_blk {w w' : World} {b : Nat} (h : w'.heap[b]? = w.heap[b]?) (j : Nat) : w'.frozen? ⟨b, j, none⟩ = w.frozen? ⟨b, j, none⟩ := World.frozen?_of_block h
theorem cell_blk {w w' : World} {b : Nat} (h : w'.heap[b]? = w.heap[b]?) (j : Nat) : w'.cell? ⟨b, j, none⟩ = w.cell? ⟨b, j, none⟩ := World.cell?_of_block h
theorem RowAt.k2 {U X b : Nat} {w w' : World} {l : List Value} (h : RowAt w b l) (k : K2 U X w w') (h1 : b ≠ U) (h2 : b ≠ X) : RowAt w' b l :=
  ⟨Nat.lt_of_lt_of_le h.lt k.size, fun j => (frozen_blk (k.blk b h.lt h1 h2) j).trans (h.fr j), fun j u hu => (cell_blk (k.blk b h.lt h1 h2) j).trans (h.cell j u hu)⟩
theorem node_range {w : World} {G : Nat} {ns : List Nd} {k : Nat} {n : Nd} (h : RowAt w G (nd26 ns)) (hk : ns[k]? = some n) : ∀ j u, n.cells[j]? = some u → w.cell? ⟨G, k * 26 + j, none⟩ = some u :=
  fun j u hu => h.cell _ _ (nd26_at ns k n hk j u hu)
theorem nds_row {w : World} {G c : Nat} {ns : List Nd} (h : RowAt w G (nd26 ns)) (hc : ns.length ≤ c) (hm : c ≤ 9223372036854775807) (hw : ∀ n ∈ ns, AreInts kN n.cells) : NdsIn w (some ⟨G, 0, none⟩) ns c := by
  refine ⟨by rw [List.length_map]; exact hc, hm, ?_, Or.inr (Or.inr ⟨G, 0, rfl, h.lt, fun k x hk j u hu => ?_⟩)⟩
  · intro x hx
    obtain ⟨n, hn, rfl⟩ := List.mem_map.1 hx
    exact hw n hn
  · rw [List.getElem?_map] at hk
    obtain ⟨n, hn, rfl⟩ := Option.map_eq_some_iff.1 hk
    have := node_range h hn j u hu
    rw [Nat.zero_add]
    exact this
end Go.Proofs.Ytdbfakllcaojcaa
