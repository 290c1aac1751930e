/- Plain: bounds that are brought into the node ahead leave a network sound, with the same shapes. -/
import Derived.Test.YtdbfakllcaojcaaGA
import Derived.Test.YtdbfakllcaojcaaFA
import Derived.Test.YtdbfakllcaojcaaCL
namespace Go.Proofs.Ytdbfakllcaojcaa
open Go Go.RowKit
set_option linter.unusedVariables false

def clampI (x a b : Int) : Int := if x < a then a else if b < x then b else x
theorem clampI_in {x a b : Int} (h : a ≤ b) : a ≤ clampI x a b ∧ clampI x a b ≤ b := by
  unfold clampI; split
  · omega
  · split <;> omega
theorem clampI_mono {x y a b : Int} (h : a ≤ b) (hxy : x ≤ y) : clampI x a b ≤ clampI y a b := by
  unfold clampI; split <;> split <;> (try split) <;> (try split) <;> omega
/-- the node ahead with its bounds brought within the clamp's -/
def brought (m n : Nd) : Nd := { m with lo := clampI m.lo n.lo n.hi, hi := clampI m.hi n.lo n.hi }
theorem brought_op (m n : Nd) : (brought m n).op = m.op := rfl
theorem brought_ins (m n : Nd) : insN (brought m n) = insN m := rfl
theorem outN_brought (m n : Nd) (a b : Sh) : outN (brought m n) a b = outN m a b := rfl
theorem weightsE_brought (C : List Cn) (m n : Nd) (a s : Sh) : weightsE C (brought m n) a s = weightsE C m a s := rfl
theorem idle_brought (m n : Nd) (hl : hL m.op = true) (h : idleN m = true) : idleN (brought m n) = true := by
  have e : (brought m n).op = m.op := rfl
  unfold idleN at h ⊢
  rw [e, hl] at *
  simpa [brought] using h
theorem small_in {x a b : Int} (ha : smallB a = true) (hb : smallB b = true) (h0 : a ≤ x) (h1 : x ≤ b) : smallB x = true := by
  unfold smallB at *
  simp at ha hb ⊢
  omega
theorem numbers_brought (C : List Cn) (m n : Nd) (hm : numbersB C m = true) (hn : numbersB C n = true) : numbersB C (brought m n) = true := by
  unfold numbersB at hm hn ⊢
  simp only [Bool.and_eq_true, decide_eq_true_eq] at hm hn ⊢
  obtain ⟨⟨⟨⟨⟨⟨⟨m1, m2⟩, m3⟩, m4⟩, m5⟩, m6⟩, m7⟩, m8⟩ := hm
  obtain ⟨⟨⟨⟨⟨⟨⟨_, _⟩, _⟩, n4⟩, n5⟩, n6⟩, _⟩, _⟩ := hn
  have c1 := clampI_in (x := m.lo) n6.1
  have c2 := clampI_in (x := m.hi) n6.1
  exact ⟨⟨⟨⟨⟨⟨⟨m1, m2⟩, m3⟩, small_in n4 n5 c1.1 c1.2⟩, small_in n4 n5 c2.1 c2.2⟩, clampI_mono n6.1 m6.1, m6.2⟩, m7⟩, m8⟩
/-- what a sound node is, part by part -/
theorem nodeE_ok {C : List Cn} {n : Nd} {l : List Sh} : (nodeE C n l).1 = 0 ↔ (1 ≤ n.op ∧ n.op ≤ 14) ∧ insOk n l.length = true ∧ idleN n = true ∧ (outN n (l.getD n.a.toNat default) (l.getD n.b.toNat default)).1 = 0 ∧
    (outN n (l.getD n.a.toNat default) (l.getD n.b.toNat default)).2.fit = 0 ∧ ¬ (n.op = 4 ∧ 4096 < (l.getD n.a.toNat default).size) ∧ weightsE C n (l.getD n.a.toNat default) (outN n (l.getD n.a.toNat default) (l.getD n.b.toNat default)).2 = 0 ∧ numbersB C n = true := by
  unfold nodeE
  generalize outN n (l.getD n.a.toNat default) (l.getD n.b.toNat default) = q
  by_cases h1 : n.op < 1 ∨ 14 < n.op
  · rw [if_pos h1]; simp; omega
  rw [if_neg h1]
  by_cases h2 : insOk n l.length = false
  · rw [if_pos h2]; simp [h2]
  rw [if_neg h2]
  by_cases h3 : idleN n = false
  · rw [if_pos h3]; simp [h3]
  rw [if_neg h3]
  by_cases h4 : q.1 ≠ 0
  · rw [if_pos h4]; simp [h4]
  rw [if_neg h4]
  by_cases h5 : q.2.fit ≠ 0
  · rw [if_pos h5]; simp [h5]
  rw [if_neg h5]
  by_cases h6 : n.op = 4 ∧ 4096 < (l.getD n.a.toNat default).size
  · rw [if_pos h6]; exact ⟨fun h => by simp at h, fun h => absurd h6 h.2.2.2.2.2.1⟩
  rw [if_neg h6]
  by_cases h7 : weightsE C n (l.getD n.a.toNat default) q.2 ≠ 0
  · rw [if_pos h7]; exact ⟨fun h => absurd h h7, fun h => absurd h.2.2.2.2.2.2.1 h7⟩
  rw [if_neg h7]
  by_cases h8 : numbersB C n = false
  · rw [if_pos h8]; simp [h8]
  rw [if_neg h8]
  exact ⟨fun _ => ⟨by omega, by simpa using h2, by simpa using h3, by simpa using h4, by simpa using h5, h6, by simpa using h7, by simpa using h8⟩, fun _ => rfl⟩
theorem nodeE_val {C : List Cn} {n : Nd} {l : List Sh} (h : (nodeE C n l).1 = 0) : (nodeE C n l).2 = (outN n (l.getD n.a.toNat default) (l.getD n.b.toNat default)).2 := by
  obtain ⟨h1, h2, h3, h4, h5, h6, h7, h8⟩ := nodeE_ok.1 h
  unfold nodeE
  rw [if_neg (by omega), if_neg (by rw [h2]; simp), if_neg (by rw [h3]; simp), if_neg (by simpa using h4), if_neg (by simpa using h5), if_neg h6, if_neg (by simpa using h7), if_neg (by rw [h8]; simp)]
/-- where a sound node's values lie -/
theorem ins_lt {n : Nd} {m : Nat} (hm : 0 < m) (h1 : 1 ≤ n.op ∧ n.op ≤ 14) (hi : insOk n m = true) (hd : idleN n = true) : (0 ≤ n.a ∧ n.a < m) ∧ (0 ≤ n.b ∧ n.b < m) := by
  unfold idleN at hd
  simp only [Bool.and_eq_true, Bool.or_eq_true] at hd
  obtain ⟨⟨⟨⟨⟨⟨⟨⟨⟨⟨⟨⟨⟨ha, hb⟩, _⟩, _⟩, _⟩, _⟩, _⟩, _⟩, _⟩, _⟩, _⟩, _⟩, _⟩, _⟩ := hd
  unfold insOk insN at hi
  by_cases e1 : n.op = 1
  · have a0 : n.a = 0 := by
      rcases ha with h | h
      · unfold hA at h; simp at h; exact absurd e1 h
      · simpa using h
    have b0 : n.b = 0 := by
      rcases hb with h | h
      · unfold hB at h; simp at h; omega
      · simpa using h
    omega
  · rw [if_neg e1] at hi
    by_cases e2 : hB n.op = true
    · rw [if_pos e2] at hi
      simp at hi
      omega
    · rw [if_neg e2] at hi
      have b0 : n.b = 0 := by
        rcases hb with h | h
        · exact absurd h e2
        · simpa using h
      simp at hi
      omega
/-- the node that stands for a clamp: sound, of the clamp's shape -/
theorem brought_node {C : List Cn} {m n : Nd} {l r : List Sh} {s : Sh} (hl : hL m.op = true) (hm : (nodeE C m l).1 = 0) (hs : (nodeE C m l).2 = s) (hl0 : 0 < l.length) (hn : numbersB C n = true) :
    (nodeE C (brought m n) (l ++ r)).1 = 0 ∧ (nodeE C (brought m n) (l ++ r)).2 = s := by
  obtain ⟨h1, h2, h3, h4, h5, h6, h7, h8⟩ := nodeE_ok.1 hm
  obtain ⟨⟨a0, a1⟩, ⟨b0, b1⟩⟩ := ins_lt hl0 h1 h2 h3
  have ea : (l ++ r).getD (brought m n).a.toNat default = l.getD m.a.toNat default := by
    show (l ++ r).getD m.a.toNat default = _
    simp [List.getD, List.getElem?_append_left (show m.a.toNat < l.length by omega)]
  have eb : (l ++ r).getD (brought m n).b.toNat default = l.getD m.b.toNat default := by
    show (l ++ r).getD m.b.toNat default = _
    simp [List.getD, List.getElem?_append_left (show m.b.toNat < l.length by omega)]
  have hi : insOk (brought m n) (l ++ r).length = true := by
    unfold insOk at h2 ⊢
    rw [brought_ins]
    rw [List.all_eq_true] at h2 ⊢
    intro v hv
    have := of_decide_eq_true (h2 v hv)
    rw [List.length_append]
    exact decide_eq_true (by omega)
  have hk : (nodeE C (brought m n) (l ++ r)).1 = 0 := by
    rw [nodeE_ok, ea, eb, outN_brought, weightsE_brought, brought_op]
    exact ⟨h1, hi, idle_brought m n hl h3, h4, h5, h6, h7, numbers_brought C m n h8 hn⟩
  refine ⟨hk, ?_⟩
  rw [nodeE_val hk, ea, eb, outN_brought, ← nodeE_val hm, hs]
/-- a sound network, node by node -/
theorem shapes_iff {C : List Cn} : ∀ (ns : List Nd) (l r : List Sh), shapesE C ns l = (0, l ++ r) ↔ r.length = ns.length ∧ ∀ (j : Nat) (n : Nd), ns[j]? = some n → nodeE C n (l ++ r.take j) = (0, r.getD j default)
  | [], l, r => by
    rw [shapesE]
    constructor
    · intro h
      have : l ++ r = l := by injection h with _ h; exact h.symm
      have : r = [] := by simpa using this
      subst this
      exact ⟨rfl, fun j n h => by simp at h⟩
    · rintro ⟨h, _⟩
      have : r = [] := List.length_eq_zero_iff.1 (by simpa using h)
      subst this; simp
  | n :: ns, l, r => by
    rw [shapesE]
    by_cases e : (nodeE C n l).1 ≠ 0
    · rw [if_pos e]
      constructor
      · intro h; injection h with h _; exact absurd h e
      · rintro ⟨_, h⟩
        have := h 0 n rfl
        rw [List.take_zero, List.append_nil] at this
        rw [this] at e; exact absurd rfl e
    · rw [if_neg e]
      have e0 : (nodeE C n l).1 = 0 := by simpa using e
      cases r with
      | nil =>
        constructor
        · intro h
          have h2 := shapes_len2 ns (l ++ [(nodeE C n l).2]) (by rw [h])
          rw [h] at h2; simp only [List.length_append, List.length_singleton, List.length_nil] at h2; exact absurd h2 (by omega)
        · rintro ⟨h, _⟩; simp at h
      | cons s r =>
        by_cases es : (nodeE C n l).2 = s
        · rw [es, show l ++ s :: r = (l ++ [s]) ++ r by simp, shapes_iff ns (l ++ [s]) r]
          constructor
          · rintro ⟨h1, h2⟩
            refine ⟨by simp [h1], fun j m hj => ?_⟩
            cases j with
            | zero =>
              obtain rfl : n = m := by simpa using hj
              rw [List.take_zero, List.append_nil]
              exact Prod.ext e0 es
            | succ j =>
              have := h2 j m (by simpa using hj)
              simpa [List.take_succ_cons] using this
          · rintro ⟨h1, h2⟩
            refine ⟨by simpa using h1, fun j m hj => ?_⟩
            have := h2 (j + 1) m (by simpa using hj)
            simpa [List.take_succ_cons] using this
        · constructor
          · intro h
            have h2 := shapes_pre ns (l ++ [(nodeE C n l).2]) (by rw [h])
            rw [h] at h2
            obtain ⟨q, hq⟩ := h2
            exact absurd (by
              have := congrArg (fun x => x[l.length]?) hq
              simpa using this) es
          · rintro ⟨_, h⟩
            have := h 0 n rfl
            rw [List.take_zero, List.append_nil] at this
            rw [this] at es; exact absurd rfl es
where
  shapes_pre {C : List Cn} : ∀ (ns : List Nd) (l : List Sh), (shapesE C ns l).1 = 0 → ∃ q, l ++ q = (shapesE C ns l).2
  | [], l, _ => ⟨[], by simp [shapesE]⟩
  | n :: r, l, h => by
    rw [shapesE] at h ⊢
    by_cases e : (nodeE C n l).1 ≠ 0
    · rw [if_pos e] at h; exact absurd h e
    · rw [if_neg e] at h ⊢
      obtain ⟨q, hq⟩ := shapes_pre r _ h
      exact ⟨(nodeE C n l).2 :: q, by rw [← hq]; simp⟩
  shapes_len2 {C : List Cn} (ns : List Nd) (l : List Sh) (h : (shapesE C ns l).1 = 0) : l.length ≤ (shapesE C ns l).2.length := by
    obtain ⟨q, hq⟩ := shapes_pre ns l h
    rw [← hq]; simp
/-- a clamp gives way to the node ahead -/
theorem shapes_brought {C : List Cn} {ns : List Nd} {s0 : Sh} {r : List Sh} {i k : Nat} {m n : Nd} (h : shapesE C ns [s0] = (0, [s0] ++ r)) (hi : ns[i]? = some n) (hk : ns[k]? = some m) (hki : k < i) (ho : n.op = 9) (ha : n.a = (k : Int) + 1) (hl : hL m.op = true) :
    shapesE C (ns.set i (brought m n)) [s0] = (0, [s0] ++ r) := by
  obtain ⟨h1, h2⟩ := (shapes_iff ns [s0] r).1 h
  refine (shapes_iff _ [s0] r).2 ⟨by simpa using h1, fun j x hj => ?_⟩
  by_cases e : j = i
  · subst e
    have hil := (List.getElem?_eq_some_iff.1 hi).1
    rw [List.getElem?_set_self hil] at hj
    obtain rfl := Option.some.inj hj
    have hn := h2 j n hi
    have hm := h2 k m hk
    have hn0 : (nodeE C n ([s0] ++ r.take j)).1 = 0 := by rw [hn]
    have hkl := (List.getElem?_eq_some_iff.1 hk).1
    -- the clamp's shape is that of the value that it reads
    have hv := nodeE_val hn0
    have hs : r.getD j default = r.getD k default := by
      have e1 : (nodeE C n ([s0] ++ r.take j)).2 = r.getD j default := by rw [hn]
      rw [← e1, hv]
      have e2 : ∀ a b : Sh, (outN n a b).2 = a := by intro a b; simp [outN, ho, hWin, hC]
      rw [e2, ha]
      have e3 : ((k : Int) + 1).toNat = k + 1 := by omega
      rw [e3]
      have e4 : ([s0] ++ r.take j).getD (k + 1) default = (r.take j).getD k default := by simp [List.getD]
      rw [e4]
      simp [List.getD, hki]
    have hb := brought_node (C := C) (m := m) (n := n) (l := [s0] ++ r.take k) (r := (r.take j).drop k) (s := r.getD k default) hl (by rw [hm]) (by rw [hm]) (by simp) (nodeE_ok.1 hn0).2.2.2.2.2.2.2
    have e5 : [s0] ++ r.take k ++ (r.take j).drop k = [s0] ++ r.take j := by
      rw [List.append_assoc]
      congr 1
      have : r.take k = (r.take j).take k := by rw [List.take_take, Nat.min_eq_left (by omega)]
      rw [this, List.take_append_drop]
    rw [e5] at hb
    exact Prod.ext hb.1 (hb.2.trans hs.symm)
  · rw [List.getElem?_set_ne (fun h => e h.symm)] at hj
    exact h2 j x hj
end Go.Proofs.Ytdbfakllcaojcaa

namespace Go.Proofs.Ytdbfakllcaojcaa
open Go Go.RowKit
set_option linter.unusedVariables false

/-- whether a node can give way to the one ahead -/
def canB (L : List Int) (ns : List Nd) (n : Nd) : Bool := (n.op == 9) && (decide (0 < n.a) && ((L.getD n.a.toNat 0 == 1) && hL (ns.getD (n.a.toNat - 1) default).op))
/-- nodes, how often values are used, how many gave way -/
structure FuS where
  ns : List Nd
  L : List Int
  m : Nat
def fuStep (s : FuS) (k : Nat) : FuS :=
  let n := s.ns.getD k default
  let m := brought (s.ns.getD (n.a.toNat - 1) default) n
  if canB s.L s.ns n then ⟨s.ns.set k m, addAll 1 (addAll (-1) s.L (insN n)) (insN m), s.m + 1⟩ else s
def fuN (s : FuS) : Nat → FuS
  | 0 => s
  | k + 1 => fuStep (fuN s k) k
/-- what holds all along -/
structure FuI (C : List Cn) (o : Int) (s0 : Sh) (r : List Sh) (N : Nat) (s : FuS) : Prop where
  len : s.ns.length = N
  lenL : s.L.length = N + 1
  sound : shapesE C s.ns [s0] = (0, [s0] ++ r)
  uses : ∀ i : Nat, i < N + 1 → s.L.getD i 0 = ((usesV o s.ns (i : Int) : Nat) : Int)
theorem FuI.ins {C : List Cn} {o : Int} {s0 : Sh} {r : List Sh} {N : Nat} {s : FuS} (h : FuI C o s0 r N s) : ∀ n ∈ s.ns, ∀ v ∈ insN n, 0 ≤ v ∧ v < ((N + 1 : Nat) : Int) := by
  intro n hn v hv
  have := shapes_ins s.ns [s0] (by rw [h.sound]) n hn v hv
  rw [h.len, List.length_singleton] at this
  omega
theorem FuI.bd {C : List Cn} {o : Int} {s0 : Sh} {r : List Sh} {N : Nat} {s : FuS} (h : FuI C o s0 r N s) : ∀ x ∈ s.L, 0 ≤ x ∧ x ≤ 2 * N + 1 := by
  intro x hx
  obtain ⟨i, hi, rfl⟩ := List.getElem_of_mem hx
  have := h.uses i (by have := h.lenL; omega)
  have e : s.L.getD i 0 = s.L[i] := by simp [List.getD, hi]
  rw [e] at this
  have hb := usesV_le o (i : Int) s.ns
  rw [h.len] at hb
  omega
/-- a sound network's node, where it stands -/
theorem FuI.node {C : List Cn} {o : Int} {s0 : Sh} {r : List Sh} {N : Nat} {s : FuS} (h : FuI C o s0 r N s) {k : Nat} {n : Nd} (hk : s.ns[k]? = some n) : (nodeE C n ([s0] ++ r.take k)).1 = 0 ∧ (0 ≤ n.a ∧ n.a < (k : Int) + 1) ∧ numbersB C n = true := by
  have hh := ((shapes_iff s.ns [s0] r).1 h.sound)
  have h2 := hh.2 k n hk
  have h1 : (nodeE C n ([s0] ++ r.take k)).1 = 0 := by rw [h2]
  have hkl := (List.getElem?_eq_some_iff.1 hk).1
  obtain ⟨q1, q2, q3, _, _, _, _, q8⟩ := nodeE_ok.1 h1
  have hl : ([s0] ++ r.take k).length = k + 1 := by simp; omega
  have := ins_lt (m := k + 1) (by omega) q1 (by rw [← hl]; exact q2) q3
  exact ⟨h1, by have := this.1; omega, q8⟩
theorem usesNs_set (v : Int) {ns : List Nd} {k : Nat} {n : Nd} (h : ns[k]? = some n) (m : Nd) : usesNs v (ns.set k m) + (insN n).count v = usesNs v ns + (insN m).count v := by
  obtain ⟨hk, rfl⟩ := List.getElem?_eq_some_iff.1 h
  have e1 : ns = ns.take k ++ ns[k] :: ns.drop (k + 1) := by rw [← List.drop_eq_getElem_cons hk, List.take_append_drop]
  have e2 : ns.set k m = ns.take k ++ m :: ns.drop (k + 1) := by rw [List.set_eq_take_append_cons_drop, if_pos hk]
  have e3 : usesNs v ns = usesNs v (ns.take k) + ((insN ns[k]).count v + usesNs v (ns.drop (k + 1))) := by
    conv => lhs; rw [e1]
    rw [usesNs_app, usesNs]
  rw [e2, usesNs_app, usesNs, e3]
  omega
theorem FuI.step {C : List Cn} {o : Int} {s0 : Sh} {r : List Sh} {N : Nat} {s : FuS} (h : FuI C o s0 r N s) {k : Nat} (hk : k < N) : FuI C o s0 r N (fuStep s k) ∧ (fuStep s k).m ≤ s.m + 1 := by
  unfold fuStep
  obtain ⟨n, hn⟩ : ∃ n, s.ns[k]? = some n := ⟨_, List.getElem?_eq_getElem (by rw [h.len]; exact hk)⟩
  have en : s.ns.getD k default = n := by simp [List.getD, hn]
  simp only [en]
  by_cases hc : canB s.L s.ns n = true
  · rw [if_pos hc]
    unfold canB at hc
    simp only [Bool.and_eq_true, beq_iff_eq, decide_eq_true_eq] at hc
    obtain ⟨c1, c2, c3, c4⟩ := hc
    obtain ⟨_, ⟨a0, a1⟩, _⟩ := h.node hn
    obtain ⟨m, hm⟩ : ∃ m, s.ns[n.a.toNat - 1]? = some m := ⟨_, List.getElem?_eq_getElem (by rw [h.len]; omega)⟩
    have em : s.ns.getD (n.a.toNat - 1) default = m := by simp [List.getD, hm]
    rw [em] at c4 ⊢
    have hin := h.ins
    have hsound := shapes_brought h.sound hn hm (by omega) c1 (by omega) c4
    have hl1 : (addAll (-1) s.L (insN n)).length = N + 1 := by rw [addAll_len, h.lenL]
    refine ⟨⟨by simp [h.len], by rw [addAll_len, hl1], hsound, fun i hi => ?_⟩, Nat.le_refl _⟩
    have i1 : ∀ v ∈ insN n, 0 ≤ v ∧ v < (s.L.length : Int) := by rw [h.lenL]; exact hin n (List.mem_of_getElem? hn)
    have i2 : ∀ v ∈ insN (brought m n), 0 ≤ v ∧ v < ((addAll (-1) s.L (insN n)).length : Int) := by rw [hl1, brought_ins]; exact hin m (List.mem_of_getElem? hm)
    rw [addAll_at 1 i _ _ i2, addAll_at (-1) i _ _ i1, h.uses i hi]
    have hset := usesNs_set (i : Int) hn (brought m n)
    have hcl := List.count_le_length (a := (i : Int)) (l := insN n)
    unfold usesV
    show (((if o = (i : Int) then 1 else 0) + usesNs (i : Int) s.ns : Nat) : Int) + _ + _ = (((if o = (i : Int) then 1 else 0) + usesNs (i : Int) (s.ns.set k (brought m n)) : Nat) : Int)
    split <;> push_cast <;> omega
  · rw [if_neg hc]
    exact ⟨h, Nat.le_succ _⟩
theorem fuN_inv {C : List Cn} {o : Int} {s0 : Sh} {r : List Sh} {N : Nat} {s : FuS} (h : FuI C o s0 r N s) (h0 : s.m = 0) : ∀ k, k ≤ N → FuI C o s0 r N (fuN s k) ∧ (fuN s k).m ≤ k
  | 0, _ => ⟨h, by rw [fuN, h0]; exact Nat.le_refl _⟩
  | k + 1, hk => by
    obtain ⟨h1, h2⟩ := fuN_inv h h0 k (by omega)
    obtain ⟨h3, h4⟩ := h1.step (k := k) (by omega)
    exact ⟨h3, by rw [fuN]; omega⟩
/-- a sound network is all of that at the beginning -/
theorem fuI_start {g : Gr} {L : List Int} (h : (graphE g).1 = 0) (hl : L.length = g.ns.length + 1) (hu : ∀ i : Nat, i < g.ns.length + 1 → L[i]? = some ((usesV g.out g.ns (i : Int) : Nat) : Int)) :
    ∃ r, FuI g.C g.out g.inp r g.ns.length ⟨g.ns, L, 0⟩ ∧ (graphE g).2 = [g.inp] ++ r := by
  unfold graphE at h ⊢
  by_cases h1 : g.inp.fit ≠ 0
  · rw [if_pos h1] at h; exact absurd h h1
  · rw [if_neg h1] at h ⊢
    by_cases h2 : (shapesE g.C g.ns [g.inp]).1 ≠ 0
    · rw [if_pos h2] at h; exact absurd h h2
    · rw [if_neg h2] at h ⊢
      by_cases h3 : g.out < 0 ∨ (shapesE g.C g.ns [g.inp]).2.length ≤ g.out
      · rw [if_pos h3] at h; cases h
      · rw [if_neg h3]
        have h2' : (shapesE g.C g.ns [g.inp]).1 = 0 := by simpa using h2
        obtain ⟨q, hq⟩ := shapes_iff.shapes_pre g.ns [g.inp] h2'
        refine ⟨q, ⟨rfl, hl, Prod.ext h2' hq.symm, fun i hi => ?_⟩, hq.symm⟩
        simp [List.getD, hu i hi]
theorem shapes_ok_len (g : Gr) (h2 : ¬ (shapesE g.C g.ns [g.inp]).1 ≠ 0) : (shapesE g.C g.ns [g.inp]).2.length = g.ns.length + 1 := by
  have h2' : (shapesE g.C g.ns [g.inp]).1 = 0 := by simpa using h2
  obtain ⟨q, hq⟩ := shapes_iff.shapes_pre g.ns [g.inp] h2'
  have : shapesE g.C g.ns [g.inp] = (0, [g.inp] ++ q) := Prod.ext h2' hq.symm
  have := ((shapes_iff g.ns [g.inp] q).1 this).1
  rw [← hq]; simp [this]
/-- all of that at the end: a sound network of the same shapes -/
theorem FuI.graph {g : Gr} {r : List Sh} {s : FuS} (h : FuI g.C g.out g.inp r g.ns.length s) (hg : (graphE g).1 = 0) (hr : (graphE g).2 = [g.inp] ++ r) : graphE { g with ns := s.ns } = graphE g := by
  have e : graphE g = (0, [g.inp] ++ r) := Prod.ext hg hr
  rw [e]
  unfold graphE at hg ⊢
  by_cases h1 : g.inp.fit ≠ 0
  · rw [if_pos h1] at hg; exact absurd hg h1
  · rw [if_neg h1] at hg
    rw [if_neg h1]
    rw [show ({ g with ns := s.ns } : Gr).ns = s.ns from rfl, show ({ g with ns := s.ns } : Gr).C = g.C from rfl, show ({ g with ns := s.ns } : Gr).inp = g.inp from rfl, show ({ g with ns := s.ns } : Gr).out = g.out from rfl, h.sound]
    by_cases h2 : (shapesE g.C g.ns [g.inp]).1 ≠ 0
    · rw [if_pos h2] at hg; exact absurd hg h2
    · rw [if_neg h2] at hg
      by_cases h3 : g.out < 0 ∨ (shapesE g.C g.ns [g.inp]).2.length ≤ g.out
      · rw [if_pos h3] at hg; cases hg
      · have hl : (shapesE g.C g.ns [g.inp]).2.length = g.ns.length + 1 := by
          have := shapes_ok_len g h2
          exact this
        have hrl : r.length = g.ns.length := by
          have := ((shapes_iff s.ns [g.inp] r).1 h.sound).1
          rw [this, h.len]
        rw [if_neg (by simp), if_neg (by rw [hl] at h3; simp [hrl]; omega)]
end Go.Proofs.Ytdbfakllcaojcaa

namespace Go.Proofs.Ytdbfakllcaojcaa
open Go Go.RowKit
set_option linter.unusedVariables false
set_option maxRecDepth 100000

/-- but for blocks U and X all old ones are as they were -/
structure K2 (U X : Nat) (w w' : World) : Prop where
  os : w'.os = w.os
  tape : w'.tape = w.tape
  output : w'.output = w.output
  size : w.heap.size ≤ w'.heap.size
  blk : ∀ i, i < w.heap.size → i ≠ U → i ≠ X → w'.heap[i]? = w.heap[i]?
theorem K2.refl (U X : Nat) (w : World) : K2 U X w w := ⟨rfl, rfl, rfl, Nat.le_refl _, fun _ _ _ _ => rfl⟩
theorem K2.trans {U X : Nat} {a b c : World} (h : K2 U X a b) (k : K2 U X b c) : K2 U X a c :=
  ⟨k.os.trans h.os, k.tape.trans h.tape, k.output.trans h.output, Nat.le_trans h.size k.size, fun i hi h1 h2 => (k.blk i (Nat.lt_of_lt_of_le hi h.size) h1 h2).trans (h.blk i hi h1 h2)⟩
theorem K2.of_below {U X : Nat} {w w' : World} (h : Below w.heap.size w w') : K2 U X w w' := ⟨h.os, h.tape, h.output, h.size, fun i hi _ _ => h.block i hi⟩
theorem K2.of_u {U X : Nat} {w w' : World} (h : w.grownBy w' (some U)) : K2 U X w w' := ⟨h.os, h.tape, h.output, h.size, fun i hi h1 _ => h.block i hi (by intro e; exact h1 (Option.some.inj e))⟩
theorem K2.of_x {U X : Nat} {w w' : World} (h : w.grownBy w' (some X)) : K2 U X w w' := ⟨h.os, h.tape, h.output, h.size, fun i hi _ h1 => h.block i hi (by intro e; exact h1 (Option.some.inj e))⟩
/-- a block that is new may be written, too -/
theorem K2.of_new {U X B : Nat} {w w1 w' : World} (h : K2 U X w w1) (hB : w.heap.size ≤ B) (k : w1.grownBy w' (some B)) : K2 U X w w' :=
  ⟨k.os.trans h.os, k.tape.trans h.tape, k.output.trans h.output, Nat.le_trans h.size k.size, fun i hi h1 h2 => (k.block i (Nat.lt_of_lt_of_le hi h.size) (by intro e; have := Option.some.inj e; omega)).trans (h.blk i hi h1 h2)⟩
theorem K2.below {U X n : Nat} {w w' : World} (h : K2 U X w w') (hU : n ≤ U) (hX : n ≤ X) (hn : n ≤ w.heap.size) : Below n w w' :=
  ⟨h.os, h.tape, h.output, h.size, fun i hi => h.blk i (by omega) (by omega) (by omega)⟩
theorem K2.kpx {U X B : Nat} {w w' : World} (h : K2 U X w w') (hU : U < B) : KpX B X w w' := ⟨h.size, fun k hk hl hne => h.blk k hl (by omega) hne⟩
theorem frozen_blk {w w' : World} {b : Nat} (h : w'.heap[b]? = w.heap[b]?) (j : Nat) : w'.frozen? ⟨b, j, none⟩ = w.frozen? ⟨b, j, none⟩ := World.frozen?_of_block h
theorem cell_blk {w w' : World} {b : Nat} (h : w'.heap[b]? = w.heap[b]?) (j : Nat) : w'.cell? ⟨b, j, none⟩ = w.cell? ⟨b, j, none⟩ := World.cell?_of_block h
theorem RowAt.k2 {U X b : Nat} {w w' : World} {l : List Value} (h : RowAt w b l) (k : K2 U X w w') (h1 : b ≠ U) (h2 : b ≠ X) : RowAt w' b l :=
  ⟨Nat.lt_of_lt_of_le h.lt k.size, fun j => (frozen_blk (k.blk b h.lt h1 h2) j).trans (h.fr j), fun j u hu => (cell_blk (k.blk b h.lt h1 h2) j).trans (h.cell j u hu)⟩
/-- a row of one's own as a block that holds its cells -/
theorem row_of_own {w : World} {B n s g c : Nat} {e : TypeId} {xs : List Value} (h : w.ownsRow B e s (.slice (some ⟨g, 0, none⟩) n c) n xs) : RowAt w g xs :=
  ⟨(own_lt h).2.1, fun j => h.frozenAt j, fun j u hu => by
    have hj := (List.getElem?_eq_some_iff.1 hu).1
    have hl : xs.length = n * s := h.1
    rw [h.cellAt j (by omega), hu]⟩
/-- a node of a row is written -/
theorem nd26_set : ∀ (l : List Nd) (k : Nat) (m : Nd), k < l.length → (nd26 l).take (k * 26) ++ m.cells ++ (nd26 l).drop (k * 26 + 26) = nd26 (l.set k m)
  | [], k, m, h => by simp at h
  | a :: l, 0, m, _ => by
    have h26 : a.cells.length = 26 := a.cells_len
    have e : nd26 (a :: l) = a.cells ++ nd26 l := rfl
    have e2 : nd26 ((a :: l).set 0 m) = m.cells ++ nd26 l := rfl
    rw [e, e2, List.drop_append_of_le_length (by omega), List.drop_of_length_le (by omega)]
    simp
  | a :: l, k + 1, m, h => by
    have h26 : a.cells.length = 26 := a.cells_len
    have ih := nd26_set l k m (by simpa using h)
    have e : nd26 (a :: l) = a.cells ++ nd26 l := rfl
    have e2 : nd26 ((a :: l).set (k + 1) m) = a.cells ++ nd26 (l.set k m) := rfl
    rw [e, e2, ← ih]
    have e3 : (k + 1) * 26 = a.cells.length + k * 26 := by omega
    have e4 : (k + 1) * 26 + 26 = a.cells.length + (k * 26 + 26) := by omega
    rw [e4, e3, List.take_length_add_append, List.drop_length_add_append]
    simp
theorem setCells_row {w : World} {b : Nat} {l : List Value} (h : RowAt w b l) : ∀ (m : List Value) (o : Nat), o + m.length ≤ l.length → RowAt (w.setCells b o m) b (l.take o ++ m ++ l.drop (o + m.length))
  | [], o, ho => by
    have e : l.take o ++ [] ++ l.drop (o + ([] : List Value).length) = l := by simp
    rw [e]; exact h
  | v :: m, o, ho => by
    rw [List.length_cons] at ho
    have h1 : RowAt (w.setCell ⟨b, o, none⟩ v) b (l.set o v) := h.set o v (by omega) rfl
    have h2 := setCells_row h1 m (o + 1) (by simp; omega)
    have e : (l.set o v).take (o + 1) ++ m ++ (l.set o v).drop (o + 1 + m.length) = l.take o ++ (v :: m) ++ l.drop (o + (m.length + 1)) := by
      rw [List.set_eq_take_append_cons_drop, if_pos (by omega)]
      have t1 : (l.take o).length = o := by rw [List.length_take]; omega
      rw [show o + 1 = (l.take o).length + 1 by omega, List.take_length_add_append, show (l.take o).length + 1 + m.length = (l.take o).length + (1 + m.length) by omega, List.drop_length_add_append]
      have e5 : (v :: List.drop ((l.take o).length + 1) l).drop (1 + m.length) = l.drop (o + (m.length + 1)) := by
        rw [show 1 + m.length = m.length + 1 by omega, List.drop_succ_cons, List.drop_drop, t1]
        congr 1; omega
      rw [e5]
      simp
    rw [e] at h2
    rw [List.length_cons]
    exact h2
theorem node_stored {w : World} {G : Nat} {ns : List Nd} {k : Nat} (h : RowAt w G (nd26 ns)) (hk : k < ns.length) (m : Nd) :
    (storeCells ⟨G, k * 26, none⟩ m.cells 0).run Try.prog w = .ok () (w.setCells G (k * 26) m.cells) ∧ RowAt (w.setCells G (k * 26) m.cells) G (nd26 (ns.set k m)) := by
  have hl : (nd26 ns).length = ns.length * 26 := nd26_len ns
  have h26 : m.cells.length = 26 := m.cells_len
  have hfit : k * 26 + m.cells.length ≤ (nd26 ns).length := by rw [hl, h26]; have := Nat.mul_le_mul_right 26 (show k + 1 ≤ ns.length from hk); omega
  refine ⟨?_, ?_⟩
  · have := run_storeCells_cells (P := Try.prog) G (k * 26) m.cells 0 w (fun j hj => by
      rw [h.cell (k * 26 + 0 + j) _ (List.getElem?_eq_getElem (by omega))]; rfl) (fun j hj => h.fr _) (Nd.one m)
    simpa using this
  · have h1 := setCells_row h m.cells (k * 26) hfit
    rw [h26, nd26_set ns k m hk] at h1
    exact h1
theorem node_range {w : World} {G : Nat} {ns : List Nd} {k : Nat} {n : Nd} (h : RowAt w G (nd26 ns)) (hk : ns[k]? = some n) : ∀ j u, n.cells[j]? = some u → w.cell? ⟨G, k * 26 + j, none⟩ = some u :=
  fun j u hu => h.cell _ _ (nd26_at ns k n hk j u hu)
theorem nds_row {w : World} {G c : Nat} {ns : List Nd} (h : RowAt w G (nd26 ns)) (hc : ns.length ≤ c) (hm : c ≤ 9223372036854775807) (hw : ∀ n ∈ ns, AreInts kN n.cells) : NdsIn w (some ⟨G, 0, none⟩) ns c := by
  refine ⟨by rw [List.length_map]; exact hc, hm, ?_, Or.inr (Or.inr ⟨G, 0, rfl, h.lt, fun k x hk j u hu => ?_⟩)⟩
  · intro x hx
    obtain ⟨n, hn, rfl⟩ := List.mem_map.1 hx
    exact hw n hn
  · rw [List.getElem?_map] at hk
    obtain ⟨n, hn, rfl⟩ := Option.map_eq_some_iff.1 hk
    have := node_range h hn j u hu
    rw [Nat.zero_add]
    exact this
theorem small_wf {x : Int} (h : -128 ≤ x ∧ x ≤ 127) : (Lit.int .i64 x).wf = true := by
  simp [Lit.wf, IntKind.min, IntKind.max, IntKind.bits, IntKind.signed]
  omega
theorem areInts_brought {m n : Nd} (hm : AreInts kN m.cells) (h1 : -128 ≤ clampI m.lo n.lo n.hi ∧ clampI m.lo n.lo n.hi ≤ 127) (h2 : -128 ≤ clampI m.hi n.lo n.hi ∧ clampI m.hi n.lo n.hi ≤ 127) : AreInts kN (brought m n).cells := by
  have w1 := small_wf h1
  have w2 := small_wf h2
  obtain ⟨i0, i1, i2, i3, i4, i5, i6, i7, i8, i9, i10, i11, i12, i13, i14, i15, i16, i17, i18, i19, r⟩ := hm
  exact ⟨i0, i1, i2, i3, i4, i5, i6, i7, i8, i9, i10, i11, i12, i13, i14, i15, i16, i17, ⟨_, rfl, w1⟩, ⟨_, rfl, w2⟩, r⟩
theorem cells_brought (m n : Nd) : (m.cells.set 18 (.int .i64 (clampI m.lo n.lo n.hi))).set 19 (.int .i64 (clampI m.hi n.lo n.hi)) = (brought m n).cells := rfl
theorem bounds_of {C : List Cn} {n : Nd} (h : numbersB C n = true) : (-128 ≤ n.lo ∧ n.lo ≤ 127) ∧ (-128 ≤ n.hi ∧ n.hi ≤ 127) ∧ n.lo ≤ n.hi := by
  unfold numbersB at h
  simp only [Bool.and_eq_true, decide_eq_true_eq] at h
  obtain ⟨⟨⟨⟨⟨⟨⟨_, _⟩, _⟩, n4⟩, n5⟩, n6⟩, _⟩, _⟩ := h
  unfold smallB at n4 n5
  simp at n4 n5
  exact ⟨by omega, by omega, n6.1⟩
theorem own_setCell {w : World} {b n s B j : Nat} {e : TypeId} {v u : Value} {xs : List Value} (h : w.ownsRow b e s v n xs) (hB : B < b) : (w.setCell ⟨B, j, none⟩ u).ownsRow b e s v n xs := by
  rcases own_slice h with ⟨rfl, rfl⟩ | ⟨g, c, rfl⟩
  · obtain ⟨h1, _⟩ := h; exact ⟨h1, Or.inl ⟨rfl, rfl⟩⟩
  · have hg := (own_lt h).1
    exact own_block h (RowKit.Below.heap_setCell _ _ _ _ (by intro e; simp at e; omega))
theorem own_slice2 {w : World} {b n s : Nat} {e : TypeId} {v : Value} {xs : List Value} (h : w.ownsRow b e s v n xs) : ∃ a c, v = .slice a n c := by
  rcases own_slice h with ⟨rfl, rfl⟩ | ⟨g, c, rfl⟩
  · exact ⟨none, 0, rfl⟩
  · exact ⟨_, _, rfl⟩
/-- what copies.Graph tells -/
def CpPost (g : GrQ) (w : World) (e : Ending) (w' : World) : Prop :=
  ∃ (v v2 : Value) (D : List CnQ), e = .returned (.agg #[.int .i64 g.x, .int .i64 g.y, .int .i64 g.z, v, v2, .int .i64 g.o]) ∧ Below w.heap.size w w' ∧ D.map CnQ.cn = g.C.map CnQ.cn ∧
    w'.ownsRow w.heap.size 62 2 v D.length (cn2 D) ∧ (∀ q ∈ D, OwnC w' w.heap.size q) ∧ w'.ownsRow w.heap.size 57 26 v2 g.ns.length (nd26 g.ns)
theorem own_k2 {w w' : World} {b n s U X : Nat} {e : TypeId} {a : Option Addr} {c : Nat} {xs : List Value} (h : w.ownsRow b e s (.slice a n c) n xs) (k : K2 U X w w') (hU : U < b) (hX : ∀ g, a = some ⟨g, 0, none⟩ → g ≠ X) : w'.ownsRow b e s (.slice a n c) n xs := by
  rcases own_slice h with ⟨h1, rfl⟩ | ⟨g, c', h1⟩
  · obtain ⟨h2, _⟩ := h
    exact ⟨h2, Or.inl ⟨h1, rfl⟩⟩
  · injection h1 with h2 h3 h4
    subst h2 h4
    have hl := own_lt h
    exact own_block h (k.blk g hl.2.1 (by omega) (hX g rfl))
theorem own_set6 {w : World} {B b n s : Nat} {e : TypeId} {v : Value} {xs : List Value} (h : w.ownsRow b e s v n xs) (hB : B < b) (b0 b1 b2 b3 b4 b5 : Value) : ((((((w.setCell ⟨B, 0, none⟩ b0).setCell ⟨B, 1, none⟩ b1).setCell ⟨B, 2, none⟩ b2).setCell ⟨B, 3, none⟩ b3).setCell ⟨B, 4, none⟩ b4).setCell ⟨B, 5, none⟩ b5).ownsRow b e s v n xs :=
  own_setCell (own_setCell (own_setCell (own_setCell (own_setCell (own_setCell h hB) hB) hB) hB) hB) hB
theorem kp_set6 {B b : Nat} (w : World) (hB : B < b) (b0 b1 b2 b3 b4 b5 : Value) : Kp b w ((((((w.setCell ⟨B, 0, none⟩ b0).setCell ⟨B, 1, none⟩ b1).setCell ⟨B, 2, none⟩ b2).setCell ⟨B, 3, none⟩ b3).setCell ⟨B, 4, none⟩ b4).setCell ⟨B, 5, none⟩ b5) :=
  ((((((Kp.refl b w).set B 0 b0 hB).set B 1 b1 hB).set B 2 b2 hB).set B 3 b3 hB).set B 4 b4 hB).set B 5 b5 hB
/-- where a network's parts lie behind the last round -/
theorem ff_end {wz wr : World} {U NB b B N : Nat} {da ma : Option Addr} {dc mc : Nat} {D : List CnQ} {ns ms : List Nd} (K : K2 U NB wz wr) (hU : U < b) (hB : B < b) (hBN : B ≠ NB) (OD : wz.ownsRow b 62 2 (.slice da D.length dc) D.length (cn2 D)) (QD : ∀ q ∈ D, OwnC wz b q)
    (ON : wz.ownsRow b 57 26 (.slice ma N mc) N (nd26 ns)) (hn : ns.length = N) (h0 : N = 0 → NB = U) (h1 : 0 < N → ma = some ⟨NB, 0, none⟩) (hr : 0 < N → RowAt wr NB (nd26 ms)) (hm : ms.length = N) (hai : ∀ n ∈ ms, AreInts kN n.cells) (b0 b1 b2 b3 b4 b5 : Value) :
    CnsIn ((((((wr.setCell ⟨B, 0, none⟩ b0).setCell ⟨B, 1, none⟩ b1).setCell ⟨B, 2, none⟩ b2).setCell ⟨B, 3, none⟩ b3).setCell ⟨B, 4, none⟩ b4).setCell ⟨B, 5, none⟩ b5) da D dc ∧
    NdsIn ((((((wr.setCell ⟨B, 0, none⟩ b0).setCell ⟨B, 1, none⟩ b1).setCell ⟨B, 2, none⟩ b2).setCell ⟨B, 3, none⟩ b3).setCell ⟨B, 4, none⟩ b4).setCell ⟨B, 5, none⟩ b5) ma ms mc := by
  have kp := kp_set6 wr hB b0 b1 b2 b3 b4 b5
  rcases Nat.eq_zero_or_pos N with hz | hp
  · have hNB := h0 hz
    subst hNB
    have OD2 := own_set6 (own_k2 OD K hU (fun g hg => by subst hg; have := (own_lt OD).1; omega)) hB b0 b1 b2 b3 b4 b5
    have ON2 := own_set6 (own_k2 ON K hU (fun g hg => by subst hg; have := (own_lt ON).1; omega)) hB b0 b1 b2 b3 b4 b5
    have Q2 : ∀ q ∈ D, OwnC ((((((wr.setCell ⟨B, 0, none⟩ b0).setCell ⟨B, 1, none⟩ b1).setCell ⟨B, 2, none⟩ b2).setCell ⟨B, 3, none⟩ b3).setCell ⟨B, 4, none⟩ b4).setCell ⟨B, 5, none⟩ b5) b q := fun q hq =>
      ((QD q hq).kp ⟨K.size, fun i hi hl => K.blk i hl (by omega) (by omega)⟩ (Nat.le_refl _)).kp kp (Nat.le_refl _)
    obtain ⟨a, c, he, hc⟩ := cns_ownC OD2 Q2
    injection he with e1 e2 e3
    subst e1 e3
    have hms : ms = [] := List.eq_nil_of_length_eq_zero (by omega)
    have hns : ns = [] := List.eq_nil_of_length_eq_zero (by omega)
    subst hms hns
    subst hz
    obtain ⟨a', c', he', hc'⟩ := nds_ownN (l := []) ON2 (by simp)
    injection he' with e1 e2 e3
    subst e1 e3
    exact ⟨hc, hc'⟩
  · have hma := h1 hp
    subst hma
    have hne : ∀ g, da = some ⟨g, 0, none⟩ → g ≠ NB := fun g hg => by subst hg; exact own_ne OD ON (by decide)
    have OD2 := own_set6 (own_k2 OD K hU hne) hB b0 b1 b2 b3 b4 b5
    have Q2 : ∀ q ∈ D, OwnC ((((((wr.setCell ⟨B, 0, none⟩ b0).setCell ⟨B, 1, none⟩ b1).setCell ⟨B, 2, none⟩ b2).setCell ⟨B, 3, none⟩ b3).setCell ⟨B, 4, none⟩ b4).setCell ⟨B, 5, none⟩ b5) b q := fun q hq =>
      ((QD q hq).kpx ON (by decide) (by decide) (K.kpx hU) (Nat.le_refl _)).kp kp (Nat.le_refl _)
    obtain ⟨a, c, he, hc⟩ := cns_ownC OD2 Q2
    injection he with e1 e2 e3
    subst e1 e3
    have hrow := ((((((hr hp).aside B 0 b0 hBN).aside B 1 b1 hBN).aside B 2 b2 hBN).aside B 3 b3 hBN).aside B 4 b4 hBN).aside B 5 b5 hBN
    obtain ⟨_, _, l3, l4, _⟩ := own_lt ON
    exact ⟨hc, nds_row hrow (by omega) (by unfold maxLen at l4; omega) hai⟩
/-- what is asked of copies.Graph -/
def CpC : Prop := ∀ (g : GrQ) (w : World), CnsIn w g.ca g.C g.cc → NdsIn w g.na g.ns g.nc → g.ns.length ≤ 1000 → g.C.length ≤ 1000 → (∀ q ∈ g.C, q.bs.length ≤ 1000000 ∧ q.ws.length ≤ 1000000) → Calls Try.prog 37 #[g.val] w (CpPost g w)
end Go.Proofs.Ytdbfakllcaojcaa
