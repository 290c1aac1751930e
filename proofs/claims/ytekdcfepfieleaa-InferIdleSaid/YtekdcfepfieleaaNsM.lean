/- Package infer: what the judge's methods answer, each for all operators. -/
import Derived.Test.YtekdcfepfieleaaJgA
import Derived.Test.YtekdcfepfieleaaJgB
import Derived.Test.YtekdcfepfieleaaJgC
import Derived.Test.YtekdcfepfieleaaJgD1
import Derived.Test.YtekdcfepfieleaaJgD2
import Derived.Test.YtekdcfepfieleaaJgD3
import Derived.Test.YtekdcfepfieleaaJgD4
import Derived.Test.YtekdcfepfieleaaJgD5
import Derived.Test.YtekdcfepfieleaaJgD6
import Derived.Test.YtekdcfepfieleaaJgW1
import Derived.Test.YtekdcfepfieleaaJgW2
import Derived.Test.YtekdcfepfieleaaJgW3
import Derived.Test.YtekdcfepfieleaaJgW4
import Derived.Test.YtekdcfepfieleaaJgQ1
import Derived.Test.YtekdcfepfieleaaJgQ2
import Derived.Test.YtekdcfepfieleaaJgQ3
import Derived.Test.YtekdcfepfieleaaJgQ4
namespace Go.Proofs.Ytekdcfepfieleaa
open Go Go.RowKit
set_option linter.unusedVariables false

def mkO (n : Nd) (a b : Sh) (r0 r1 : Int) : Sh :=
  if n.op = 1 ∨ n.op = 11 then ⟨n.h0, n.h1, n.h2⟩ else if n.op = 2 then ⟨r0, r1, n.chans⟩ else if n.op = 3 ∨ n.op = 5 ∨ n.op = 6 then ⟨r0, r1, a.z⟩ else if n.op = 4 then ⟨1, 1, n.chans⟩
  else if n.op = 10 then ⟨a.x + n.p0 + n.p2, a.y + n.p1 + n.p3, a.z⟩ else if n.op = 12 then ⟨a.x, a.y, a.z + b.z⟩ else if n.op = 13 then ⟨a.x, a.y, 1⟩ else ⟨a.x, a.y, a.z⟩
def mkE (n : Nd) (a b : Sh) (r0 r1 : Int) : Int :=
  if n.op = 10 ∧ padB7 n = false then 10 else if (mkO n a b r0 r1).fit ≠ 0 then (mkO n a b r0 r1).fit else if n.op = 4 ∧ 4096 < sizeG a then 12 else 0
theorem mkF_E {j : Jg} {o : Sh} (ho : mkO j.n j.a j.b j.r0 j.r1 = o) (h : ¬ (j.n.op = 10 ∧ padB7 j.n = false)) : mkF j o = mkE j.n j.a j.b j.r0 j.r1 := by
  unfold mkE mkF; rw [if_neg h, ho]
theorem padB_d (n : Nd) : padB7 n = (decide (0 ≤ n.p0 ∧ n.p0 ≤ 7) && decide (0 ≤ n.p1 ∧ n.p1 ≤ 7) && decide (0 ≤ n.p2 ∧ n.p2 ≤ 7) && decide (0 ≤ n.p3 ∧ n.p3 ≤ 7)) := by
  unfold padB7
  simp only [← Bool.decide_and, and_assoc]
/-- what the node makes -/
theorem jmk_any (J : Nat) (j : Jg) (w : World) (hJ : JAt w J j) (h14 : 1 ≤ j.n.op ∧ j.n.op ≤ 14) (ha : hA j.n.op = true → j.a.good = true) (hb : hB j.n.op = true → j.b.good = true) :
    Calls Try.prog 20 #[.pointer (some ⟨J, 0, none⟩)] w fun e w' => ∃ o', e = .returned (.int .i64 (mkE j.n j.a j.b j.r0 j.r1)) ∧ w.grownBy w' (some J) ∧ JAt w' J { j with o := o' } ∧ (mkE j.n j.a j.b j.r0 j.r1 = 0 → o' = mkO j.n j.a j.b j.r0 j.r1) := by
  have fin : ∀ (o : Sh), mkO j.n j.a j.b j.r0 j.r1 = o → ¬ (j.n.op = 10 ∧ padB7 j.n = false) →
      Calls Try.prog 20 #[.pointer (some ⟨J, 0, none⟩)] w (fun e w' => e = .returned (.int .i64 (mkF j o)) ∧ w.grownBy w' (some J) ∧ JAt w' J { j with o := o }) →
      Calls Try.prog 20 #[.pointer (some ⟨J, 0, none⟩)] w fun e w' => ∃ o', e = .returned (.int .i64 (mkE j.n j.a j.b j.r0 j.r1)) ∧ w.grownBy w' (some J) ∧ JAt w' J { j with o := o' } ∧ (mkE j.n j.a j.b j.r0 j.r1 = 0 → o' = mkO j.n j.a j.b j.r0 j.r1) := by
    intro o ho h c
    refine c.mono ?_
    rintro e w' ⟨rfl, g, a⟩
    exact ⟨o, by rw [mkF_E ho h], g, a, fun _ => ho.symm⟩
  rcases ops14 h14 with h | h | h | h | h | h | h | h | h | h | h | h | h | h
  · exact fin _ (by unfold mkO; simp [h]) (by rw [h]; simp) (jmk_1 J j w hJ h)
  · exact fin _ (by unfold mkO; simp [h]) (by rw [h]; simp) (jmk_2 J j w hJ h)
  · exact fin _ (by unfold mkO; simp [h]) (by rw [h]; simp) (jmk_3 J j w hJ h)
  · exact fin _ (by unfold mkO; simp [h]) (by rw [h]; simp) (jmk_4 J j w hJ h)
  · exact fin _ (by unfold mkO; simp [h]) (by rw [h]; simp) (jmk_5 J j w hJ h)
  · exact fin _ (by unfold mkO; simp [h]) (by rw [h]; simp) (jmk_6 J j w hJ h)
  · exact fin _ (by unfold mkO; simp [h]) (by rw [h]; simp) (jmk_7 J j w hJ h)
  · exact fin _ (by unfold mkO; simp [h]) (by rw [h]; simp) (jmk_8 J j w hJ h)
  · exact fin _ (by unfold mkO; simp [h]) (by rw [h]; simp) (jmk_9 J j w hJ h)
  · have ga := ha (by rw [h]; rfl)
    have bad : ∀ (hp : padB7 j.n = false), Calls Try.prog 20 #[.pointer (some ⟨J, 0, none⟩)] w (fun e w' => e = .returned (.int .i64 10) ∧ Below w.heap.size w w') → Calls Try.prog 20 #[.pointer (some ⟨J, 0, none⟩)] w fun e w' => ∃ o', e = .returned (.int .i64 (mkE j.n j.a j.b j.r0 j.r1)) ∧ w.grownBy w' (some J) ∧ JAt w' J { j with o := o' } ∧ (mkE j.n j.a j.b j.r0 j.r1 = 0 → o' = mkO j.n j.a j.b j.r0 j.r1) := by
      intro hp c
      have e10 : mkE j.n j.a j.b j.r0 j.r1 = 10 := by unfold mkE; rw [if_pos ⟨h, hp⟩]
      rw [e10]
      refine c.mono ?_
      rintro e w' ⟨rfl, hb⟩
      exact ⟨j.o, rfl, below_grown hb _, hJ.over hb, fun e => by cases e⟩
    cases b0 : decide (0 ≤ j.n.p0 ∧ j.n.p0 ≤ 7)
    · exact bad (by rw [padB_d, b0]; rfl) (jmk_10bad0 J j w hJ h b0)
    cases b1 : decide (0 ≤ j.n.p1 ∧ j.n.p1 ≤ 7)
    · exact bad (by rw [padB_d, b0, b1]; rfl) (jmk_10bad1 J j w hJ h b0 b1)
    cases b2 : decide (0 ≤ j.n.p2 ∧ j.n.p2 ≤ 7)
    · exact bad (by rw [padB_d, b0, b1, b2]; rfl) (jmk_10bad2 J j w hJ h b0 b1 b2)
    cases b3 : decide (0 ≤ j.n.p3 ∧ j.n.p3 ≤ 7)
    · exact bad (by rw [padB_d, b0, b1, b2, b3]; rfl) (jmk_10bad3 J j w hJ h b0 b1 b2 b3)
    exact fin _ (by unfold mkO; simp [h]) (by rw [padB_d, b0, b1, b2, b3]; simp) (jmk_10 J j w hJ h ga b0 b1 b2 b3)
  · exact fin _ (by unfold mkO; simp [h]) (by rw [h]; simp) (jmk_11 J j w hJ h)
  · exact fin _ (by unfold mkO; simp [h]) (by rw [h]; simp) (jmk_12 J j w hJ h (ha (by rw [h]; rfl)) (hb (by rw [h]; rfl)))
  · exact fin _ (by unfold mkO; simp [h]) (by rw [h]; simp) (jmk_13 J j w hJ h)
  · exact fin _ (by unfold mkO; simp [h]) (by rw [h]; simp) (jmk_14 J j w hJ h)

def wtE (C : List CnQ) (n : Nd) (a : Sh) : Int :=
  if n.op = 1 then conQ C n.w (sizeG n.sh) 0 else if n.op = 2 then conQ C n.w (n.chans * (n.k0 * n.k1 * a.z)) 0 else if n.op = 3 then conQ C n.w (n.k0 * n.k1 * a.z) 0
  else if n.op = 4 then conQ C n.w (n.chans * sizeG a) 0 else if n.op = 14 then conQ C n.w 0 256 else 0
theorem good_z {s : Sh} (h : s.good = true) : 1 ≤ s.z ∧ s.z ≤ 64 := by have x := of_decide_eq_true h; exact ⟨x.2.2.2.2.1, x.2.2.2.2.2.1⟩
theorem winG_k {n : Nd} {a : Sh} (h : winG n a = true) : (1 ≤ n.k0 ∧ n.k0 ≤ 8) ∧ 1 ≤ n.k1 ∧ n.k1 ≤ 8 := by
  unfold winG at h
  rw [Bool.and_eq_true] at h
  have x := of_decide_eq_true h.1
  have y := of_decide_eq_true h.2
  exact ⟨⟨x.2.2.1, x.2.2.2.1⟩, y.2.2.1, y.2.2.2.1⟩
/-- the node's constant -/
theorem jwt_any (J : Nat) (j : Jg) (w : World) (C : List CnQ) (cc : Nat) (ca : Option Addr) (hcs : j.cs = .slice ca C.length cc) (hJ : JAt w J j) (hCn : CnsIn w ca C cc) (h14 : 1 ≤ j.n.op ∧ j.n.op ≤ 14) (ha : hA j.n.op = true → j.a.good = true)
    (hw : hWin j.n.op = true → winG j.n j.a = true) (hch : hC j.n.op = true → 1 ≤ j.n.chans ∧ j.n.chans ≤ 64) :
    Calls Try.prog 21 #[.pointer (some ⟨J, 0, none⟩)] w fun e w' => e = .returned (.int .i64 (wtE C j.n j.a)) ∧ Below w.heap.size w w' := by
  have none : ∀ (h1 : (j.n.op == 1) = false) (h2 : (j.n.op == 2) = false) (h3 : (j.n.op == 3) = false) (h4 : (j.n.op == 4) = false) (h5 : (j.n.op == 14) = false), wtE C j.n j.a = 0 := by
    intro h1 h2 h3 h4 h5
    unfold wtE
    simp only [beq_eq_false_iff_ne] at h1 h2 h3 h4 h5
    simp [h1, h2, h3, h4, h5]
  rcases ops14 h14 with h | h | h | h | h | h | h | h | h | h | h | h | h | h
  · rw [show wtE C j.n j.a = conQ C j.n.w (sizeG j.n.sh) 0 by unfold wtE; simp [h]]
    exact jwt_1 J j w C cc ca hcs hJ hCn h
  · have ga := good_z (ha (by rw [h]; rfl))
    have gw := winG_k (hw (by rw [h]; rfl))
    rw [show wtE C j.n j.a = conQ C j.n.w (j.n.chans * (j.n.k0 * j.n.k1 * j.a.z)) 0 by unfold wtE; simp [h]]
    exact jwt_2 J j w C cc ca hcs hJ hCn h ⟨gw.1, gw.2, ga⟩ (hch (by rw [h]; rfl))
  · have ga := good_z (ha (by rw [h]; rfl))
    have gw := winG_k (hw (by rw [h]; rfl))
    rw [show wtE C j.n j.a = conQ C j.n.w (j.n.k0 * j.n.k1 * j.a.z) 0 by unfold wtE; simp [h]]
    exact jwt_3 J j w C cc ca hcs hJ hCn h ⟨gw.1, gw.2, ga⟩
  · rw [show wtE C j.n j.a = conQ C j.n.w (j.n.chans * sizeG j.a) 0 by unfold wtE; simp [h]]
    exact jwt_4 J j w C cc ca hcs hJ hCn h (ha (by rw [h]; rfl)) (hch (by rw [h]; rfl))
  · rw [none (by rw [h]; rfl) (by rw [h]; rfl) (by rw [h]; rfl) (by rw [h]; rfl) (by rw [h]; rfl)]
    exact jwt_x J j w C cc ca hcs hJ hCn (by rw [h]; rfl) (by rw [h]; rfl) (by rw [h]; rfl) (by rw [h]; rfl) (by rw [h]; rfl)
  · rw [none (by rw [h]; rfl) (by rw [h]; rfl) (by rw [h]; rfl) (by rw [h]; rfl) (by rw [h]; rfl)]
    exact jwt_x J j w C cc ca hcs hJ hCn (by rw [h]; rfl) (by rw [h]; rfl) (by rw [h]; rfl) (by rw [h]; rfl) (by rw [h]; rfl)
  · rw [none (by rw [h]; rfl) (by rw [h]; rfl) (by rw [h]; rfl) (by rw [h]; rfl) (by rw [h]; rfl)]
    exact jwt_x J j w C cc ca hcs hJ hCn (by rw [h]; rfl) (by rw [h]; rfl) (by rw [h]; rfl) (by rw [h]; rfl) (by rw [h]; rfl)
  · rw [none (by rw [h]; rfl) (by rw [h]; rfl) (by rw [h]; rfl) (by rw [h]; rfl) (by rw [h]; rfl)]
    exact jwt_x J j w C cc ca hcs hJ hCn (by rw [h]; rfl) (by rw [h]; rfl) (by rw [h]; rfl) (by rw [h]; rfl) (by rw [h]; rfl)
  · rw [none (by rw [h]; rfl) (by rw [h]; rfl) (by rw [h]; rfl) (by rw [h]; rfl) (by rw [h]; rfl)]
    exact jwt_x J j w C cc ca hcs hJ hCn (by rw [h]; rfl) (by rw [h]; rfl) (by rw [h]; rfl) (by rw [h]; rfl) (by rw [h]; rfl)
  · rw [none (by rw [h]; rfl) (by rw [h]; rfl) (by rw [h]; rfl) (by rw [h]; rfl) (by rw [h]; rfl)]
    exact jwt_x J j w C cc ca hcs hJ hCn (by rw [h]; rfl) (by rw [h]; rfl) (by rw [h]; rfl) (by rw [h]; rfl) (by rw [h]; rfl)
  · rw [none (by rw [h]; rfl) (by rw [h]; rfl) (by rw [h]; rfl) (by rw [h]; rfl) (by rw [h]; rfl)]
    exact jwt_x J j w C cc ca hcs hJ hCn (by rw [h]; rfl) (by rw [h]; rfl) (by rw [h]; rfl) (by rw [h]; rfl) (by rw [h]; rfl)
  · rw [none (by rw [h]; rfl) (by rw [h]; rfl) (by rw [h]; rfl) (by rw [h]; rfl) (by rw [h]; rfl)]
    exact jwt_x J j w C cc ca hcs hJ hCn (by rw [h]; rfl) (by rw [h]; rfl) (by rw [h]; rfl) (by rw [h]; rfl) (by rw [h]; rfl)
  · rw [none (by rw [h]; rfl) (by rw [h]; rfl) (by rw [h]; rfl) (by rw [h]; rfl) (by rw [h]; rfl)]
    exact jwt_x J j w C cc ca hcs hJ hCn (by rw [h]; rfl) (by rw [h]; rfl) (by rw [h]; rfl) (by rw [h]; rfl) (by rw [h]; rfl)
  · rw [show wtE C j.n j.a = conQ C j.n.w 0 256 by unfold wtE; simp [h]]
    exact jwt_14 J j w C cc ca hcs hJ hCn h
def bsE (C : List CnQ) (n : Nd) (o : Sh) : Int := if hI n.op then conQ C n.bias 0 o.z else 0
theorem jbs_any (J : Nat) (j : Jg) (w : World) (C : List CnQ) (cc : Nat) (ca : Option Addr) (hcs : j.cs = .slice ca C.length cc) (hJ : JAt w J j) (hC : CnsIn w ca C cc) (hj : JOk j) :
    Calls Try.prog 22 #[.pointer (some ⟨J, 0, none⟩)] w fun e w' => e = .returned (.int .i64 (bsE C j.n j.o)) ∧ Below w.heap.size w w' := by
  unfold bsE
  cases h : hI j.n.op
  · rw [if_neg (by simp)]
    refine (jbias_no J j w hJ hj h).mono ?_
    rintro e w' ⟨rfl, rfl⟩
    exact ⟨rfl, Below.refl _ _⟩
  · rw [if_pos rfl]
    exact jbias_yes J j w C cc ca hcs hJ hC hj h
/-- a constant that is as it should be is there -/
theorem conQ_there {C : List CnQ} {i bytes words : Int} (h : conQ C i bytes words = 0) : ∃ (k : Nat) (q : CnQ), i = (k : Int) ∧ C[k]? = some q ∧ (q.ws.length : Int) = words := by
  unfold conQ at h
  by_cases h1 : i < 0 ∨ (C.length : Int) ≤ i
  · rw [if_pos h1] at h; simp at h
  · rw [if_neg h1] at h
    by_cases h2 : ((C.getD i.toNat default).bs.length : Int) ≠ bytes ∨ ((C.getD i.toNat default).ws.length : Int) ≠ words
    · rw [if_pos h2] at h; simp at h
    · have hk : i.toNat < C.length := by omega
      refine ⟨i.toNat, C.getD i.toNat default, by omega, ?_, ?_⟩
      · rw [List.getD_eq_getElem?_getD, List.getElem?_eq_getElem hk]; rfl
      · by_cases h3 : ((C.getD i.toNat default).ws.length : Int) = words
        · exact h3
        · exact absurd (Or.inr h3) h2
theorem words_cn (C : List CnQ) (k : Nat) (q : CnQ) (h : C[k]? = some q) : wordsN (C.map CnQ.cn) (k : Int) = q.ws := by
  unfold wordsN
  simp [List.getD_eq_getElem?_getD, h, CnQ.cn]
def nmE (C : List CnQ) (n : Nd) : Int := if numbersB (C.map CnQ.cn) n then 0 else 11
theorem jnum_any (J : Nat) (j : Jg) (w : World) (C : List CnQ) (cc : Nat) (ca : Option Addr) (hcs : j.cs = .slice ca C.length cc) (hJ : JAt w J j) (hC : CnsIn w ca C cc) (hj : JOk j)
    (hbias : hI j.n.op = true → ∃ (k : Nat) (q : CnQ), j.n.bias = (k : Int) ∧ C[k]? = some q) (hw : j.n.op = 14 → ∃ (k : Nat) (q : CnQ), j.n.w = (k : Int) ∧ C[k]? = some q ∧ 0 < q.ws.length) :
    Calls Try.prog 23 #[.pointer (some ⟨J, 0, none⟩)] w fun e w' => e = .returned (.int .i64 (nmE C j.n)) ∧ Below w.heap.size w w' := by
  have no : numbersB (C.map CnQ.cn) j.n = false → nmE C j.n = 11 := fun h => by unfold nmE; rw [h]; rfl
  cases z0 : smallB j.n.za
  · rw [no (by unfold numbersB; rw [z0]; simp)]
    exact jnum_z0 J j w hJ z0
  cases z1 : smallB j.n.zb
  · rw [no (by unfold numbersB; rw [z1]; simp)]
    exact jnum_z1 J j w hJ z0 z1
  cases z2 : smallB j.n.zo
  · rw [no (by unfold numbersB; rw [z2]; simp)]
    exact jnum_z2 J j w hJ z0 z1 z2
  cases z3 : smallB j.n.lo
  · rw [no (by unfold numbersB; rw [z3]; simp)]
    exact jnum_z3 J j w hJ z0 z1 z2 z3
  cases z4 : smallB j.n.hi
  · rw [no (by unfold numbersB; rw [z4]; simp)]
    exact jnum_z4 J j w hJ z0 z1 z2 z3 z4
  by_cases n0 : ¬ 0 ≤ j.n.m1
  · rw [no (by unfold numbersB; simp; omega)]
    exact jnum_q0 J j w hJ z0 z1 z2 z3 z4  (by omega)
  have q0 : 0 ≤ j.n.m1 := by omega
  by_cases n1 : ¬ 0 ≤ j.n.m2
  · rw [no (by unfold numbersB; simp; omega)]
    exact jnum_q1 J j w hJ z0 z1 z2 z3 z4 q0 (by omega)
  have q1 : 0 ≤ j.n.m2 := by omega
  cases q2 : decide (0 ≤ j.n.t1 ∧ j.n.t1 ≤ 31)
  · rw [no (by have := of_decide_eq_false q2; unfold numbersB; simp; omega)]
    exact jnum_q2 J j w hJ z0 z1 z2 z3 z4 q0 q1 q2
  cases q3 : decide (0 ≤ j.n.t2 ∧ j.n.t2 ≤ 31)
  · rw [no (by have := of_decide_eq_false q3; unfold numbersB; simp; omega)]
    exact jnum_q3 J j w hJ z0 z1 z2 z3 z4 q0 q1 q2 q3
  by_cases n4 : ¬ j.n.lo ≤ j.n.hi
  · rw [no (by unfold numbersB; simp; omega)]
    exact jnum_q4 J j w hJ z0 z1 z2 z3 z4 q0 q1 q2 q3 (by omega)
  have q4 : j.n.lo ≤ j.n.hi := by omega
  have q2' := of_decide_eq_true q2
  have q3' := of_decide_eq_true q3
  have base : numbersB (C.map CnQ.cn) j.n = ((!hI j.n.op || (wordsN (C.map CnQ.cn) j.n.bias).all fun v => decide (-268435456 ≤ v ∧ v ≤ 268435456)) &&
      (!decide (j.n.op = 14) || ((wordsN (C.map CnQ.cn) j.n.w).all (fun v => decide (0 ≤ v ∧ v ≤ 65535)) && decide ((wordsN (C.map CnQ.cn) j.n.w).getD 0 0 ≠ 0)))) := by
    unfold numbersB
    rw [z0, z1, z2, z3, z4, decide_eq_true (show j.n.lo ≤ j.n.hi ∧ 0 ≤ j.n.m1 ∧ 0 ≤ j.n.m2 ∧ 0 ≤ j.n.t1 ∧ j.n.t1 ≤ 31 ∧ 0 ≤ j.n.t2 ∧ j.n.t2 ≤ 31 from ⟨q4, q0, q1, q2'.1, q2'.2, q3'.1, q3'.2⟩)]
    simp only [Bool.true_and]
  unfold nmE
  rw [base]
  cases hi : hI j.n.op
  · cases h14 : (j.n.op == 14)
    · have : decide (j.n.op = 14) = false := by simpa using h14
      rw [this]
      exact jnum_none J j w hJ hj hi h14 z0 z1 z2 z3 z4 q0 q1 q2 q3 q4
    · have e14 : j.n.op = 14 := by simpa using h14
      obtain ⟨k, q, hk, hq, hpos⟩ := hw e14
      rw [decide_eq_true e14, hk, words_cn C k q hq]
      simp only [Bool.not_false, Bool.true_or, Bool.true_and, Bool.not_true, Bool.false_or]
      exact jnum_soft J j w C cc ca hcs hJ hC hj k q hk hq hi h14 hpos z0 z1 z2 z3 z4 q0 q1 q2 q3 q4
  · obtain ⟨k, q, hk, hq⟩ := hbias hi
    have h14 : (j.n.op == 14) = false := by
      rcases ops14 hj.op with e | e | e | e | e | e | e | e | e | e | e | e | e | e <;> rw [e] at hi ⊢ <;> first | rfl | (exact absurd hi (by decide))
    have : decide (j.n.op = 14) = false := by simpa using h14
    rw [this, hk, words_cn C k q hq]
    simp only [Bool.not_false, Bool.true_or, Bool.and_true, Bool.not_true, Bool.false_or]
    exact jnum_bias J j w C cc ca hcs hJ hC hj k q hk hq hi h14 z0 z1 z2 z3 z4 q0 q1 q2 q3 q4
end Go.Proofs.Ytekdcfepfieleaa
