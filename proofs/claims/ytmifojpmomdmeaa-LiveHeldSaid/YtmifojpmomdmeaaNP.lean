/- Package infer: what the judge's methods answer, each for all operators. -/
import Derived.Test.YtmifojpmomdmeaaJgA
import Derived.Test.YtmifojpmomdmeaaJgB
import Derived.Test.YtmifojpmomdmeaaJgC
import Derived.Test.YtmifojpmomdmeaaJDa
import Derived.Test.YtmifojpmomdmeaaJDb
import Derived.Test.YtmifojpmomdmeaaJW
import Derived.Test.YtmifojpmomdmeaaJQ
import Derived.Test.YtmifojpmomdmeaaJgQ2
namespace Go.Proofs.Ytmifojpmomdmeaa
open Go Go.RowKit
set_option linter.unusedVariables false

def mkO (n : Nd) (a b : Sh) (r0 r1 : Int) : Sh :=
  if n.op = 1 ∨ n.op = 11 then ⟨n.h0, n.h1, n.h2⟩ else if n.op = 2 then ⟨r0, r1, n.chans⟩ else if n.op = 3 ∨ n.op = 5 ∨ n.op = 6 then ⟨r0, r1, a.z⟩ else if n.op = 4 then ⟨1, 1, n.chans⟩
  else if n.op = 10 then ⟨a.x + n.p0 + n.p2, a.y + n.p1 + n.p3, a.z⟩ else if n.op = 12 then ⟨a.x, a.y, a.z + b.z⟩ else if n.op = 13 then ⟨a.x, a.y, 1⟩ else ⟨a.x, a.y, a.z⟩
def mkE (n : Nd) (a b : Sh) (r0 r1 : Int) : Int :=
  if n.op = 10 ∧ padB7 n = false then 10 else if (mkO n a b r0 r1).fit ≠ 0 then (mkO n a b r0 r1).fit else if n.op = 4 ∧ 4096 < sizeG a then 12 else 0
theorem mkF_E {j : Jg} {o : Sh} (ho : mkO j.n j.a j.b j.r0 j.r1 = o) (h : ¬ (j.n.op = 10 ∧ padB7 j.n = false)) : mkF j o = mkE j.n j.a j.b j.r0 j.r1 := by
  unfold mkE mkF; rw [if_neg h, ho]
theorem padB_d (n : Nd) : padB7 n = (decide (0 ≤ n.p0 ∧ n.p0 ≤ 7) && decide (0 ≤ n.p1 ∧ n.p1 ≤ 7) && decide (0 ≤ n.p2 ∧ n.p2 ≤ 7) && decide (0 ≤ n.p3 ∧ n.p3 ≤ 7)) := by
  unfold padB7
  simp only [← Bool.decide_and, and_assoc]
/-- what the node makes -/
theorem jmk_any (J : Nat) (j : Jg) (w : World) (hJ : JAt w J j) (h14 : 1 ≤ j.n.op ∧ j.n.op ≤ 14) (ha : hA j.n.op = true → j.a.good = true) (hb : hB j.n.op = true → j.b.good = true) :
    Calls Try.prog 59 #[.pointer (some ⟨J, 0, none⟩)] w fun e w' => ∃ o', e = .returned (.int .i64 (mkE j.n j.a j.b j.r0 j.r1)) ∧ w.grownBy w' (some J) ∧ JAt w' J { j with o := o' } ∧ (mkE j.n j.a j.b j.r0 j.r1 = 0 → o' = mkO j.n j.a j.b j.r0 j.r1) := by
  have fin : ∀ (o : Sh), mkO j.n j.a j.b j.r0 j.r1 = o → ¬ (j.n.op = 10 ∧ padB7 j.n = false) →
      Calls Try.prog 59 #[.pointer (some ⟨J, 0, none⟩)] w (fun e w' => e = .returned (.int .i64 (mkF j o)) ∧ w.grownBy w' (some J) ∧ JAt w' J { j with o := o }) →
      Calls Try.prog 59 #[.pointer (some ⟨J, 0, none⟩)] w fun e w' => ∃ o', e = .returned (.int .i64 (mkE j.n j.a j.b j.r0 j.r1)) ∧ w.grownBy w' (some J) ∧ JAt w' J { j with o := o' } ∧ (mkE j.n j.a j.b j.r0 j.r1 = 0 → o' = mkO j.n j.a j.b j.r0 j.r1) := by
    intro o ho h c
    refine c.mono ?_
    rintro e w' ⟨rfl, g, a⟩
    exact ⟨o, by rw [mkF_E ho h], g, a, fun _ => ho.symm⟩
  rcases ops14 h14 with h | h | h | h | h | h | h | h | h | h | h | h | h | h
  · exact fin _ (by unfold mkO; simp [h]) (by rw [h]; simp) (jmk_1 J j w hJ h)
  · exact fin _ (by unfold mkO; simp [h]) (by rw [h]; simp) (jmk_2 J j w hJ h)
  · exact fin _ (by unfold mkO; simp [h]) (by rw [h]; simp) (jmk_3 J j w hJ h)
  · exact fin _ (by unfold mkO; simp [h]) (by rw [h]; simp) (jmk_4 J j w hJ h)
  · exact fin _ (by unfold mkO; simp [h]) (by rw [h]; simp) (jmk_5 J j w hJ h)
  · exact fin _ (by unfold mkO; simp [h]) (by rw [h]; simp) (jmk_6 J j w hJ h)
  · exact fin _ (by unfold mkO; simp [h]) (by rw [h]; simp) (jmk_7 J j w hJ h)
  · exact fin _ (by unfold mkO; simp [h]) (by rw [h]; simp) (jmk_8 J j w hJ h)
  · exact fin _ (by unfold mkO; simp [h]) (by rw [h]; simp) (jmk_9 J j w hJ h)
  · have ga := ha (by rw [h]; rfl)
    have bad : ∀ (hp : padB7 j.n = false), Calls Try.prog 59 #[.pointer (some ⟨J, 0, none⟩)] w (fun e w' => e = .returned (.int .i64 10) ∧ Below w.heap.size w w') → Calls Try.prog 59 #[.pointer (some ⟨J, 0, none⟩)] w fun e w' => ∃ o', e = .returned (.int .i64 (mkE j.n j.a j.b j.r0 j.r1)) ∧ w.grownBy w' (some J) ∧ JAt w' J { j with o := o' } ∧ (mkE j.n j.a j.b j.r0 j.r1 = 0 → o' = mkO j.n j.a j.b j.r0 j.r1) := by
      intro hp c
      have e10 : mkE j.n j.a j.b j.r0 j.r1 = 10 := by unfold mkE; rw [if_pos ⟨h, hp⟩]
      rw [e10]
      refine c.mono ?_
      rintro e w' ⟨rfl, hb⟩
      exact ⟨j.o, rfl, below_grown hb _, hJ.over hb, fun e => by cases e⟩
    cases b0 : decide (0 ≤ j.n.p0 ∧ j.n.p0 ≤ 7)
    · exact bad (by rw [padB_d, b0]; rfl) (jmk_10bad0 J j w hJ h b0)
    cases b1 : decide (0 ≤ j.n.p1 ∧ j.n.p1 ≤ 7)
    · exact bad (by rw [padB_d, b0, b1]; rfl) (jmk_10bad1 J j w hJ h b0 b1)
    cases b2 : decide (0 ≤ j.n.p2 ∧ j.n.p2 ≤ 7)
    · exact bad (by rw [padB_d, b0, b1, b2]; rfl) (jmk_10bad2 J j w hJ h b0 b1 b2)
    cases b3 : decide (0 ≤ j.n.p3 ∧ j.n.p3 ≤ 7)
    · exact bad (by rw [padB_d, b0, b1, b2, b3]; rfl) (jmk_10bad3 J j w hJ h b0 b1 b2 b3)
    exact fin _ (by unfold mkO; simp [h]) (by rw [padB_d, b0, b1, b2, b3]; simp) (jmk_10 J j w hJ h ga b0 b1 b2 b3)
  · exact fin _ (by unfold mkO; simp [h]) (by rw [h]; simp) (jmk_11 J j w hJ h)
  · exact fin _ (by unfold mkO; simp [h]) (by rw [h]; simp) (jmk_12 J j w hJ h (ha (by rw [h]; rfl)) (hb (by rw [h]; rfl)))
  · exact fin _ (by unfold mkO; simp [h]) (by rw [h]; simp) (jmk_13 J j w hJ h)
  · exact fin _ (by unfold mkO; simp [h]) (by rw [h]; simp) (jmk_14 J j w hJ h)

def wtE (C : List CnQ) (n : Nd) (a : Sh) : Int :=
  if n.op = 1 then conQ C n.w (sizeG n.sh) 0 else if n.op = 2 then conQ C n.w (n.chans * (n.k0 * n.k1 * a.z)) 0 else if n.op = 3 then conQ C n.w (n.k0 * n.k1 * a.z) 0
  else if n.op = 4 then conQ C n.w (n.chans * sizeG a) 0 else if n.op = 14 then conQ C n.w 0 256 else 0
theorem good_z {s : Sh} (h : s.good = true) : 1 ≤ s.z ∧ s.z ≤ 64 := by have x := of_decide_eq_true h; exact ⟨x.2.2.2.2.1, x.2.2.2.2.2.1⟩
theorem winG_k {n : Nd} {a : Sh} (h : winG n a = true) : (1 ≤ n.k0 ∧ n.k0 ≤ 8) ∧ 1 ≤ n.k1 ∧ n.k1 ≤ 8 := by
  unfold winG at h
  rw [Bool.and_eq_true] at h
  have x := of_decide_eq_true h.1
  have y := of_decide_eq_true h.2
  exact ⟨⟨x.2.2.1, x.2.2.2.1⟩, y.2.2.1, y.2.2.2.1⟩
/-- the node's constant -/
theorem jwt_any (J : Nat) (j : Jg) (w : World) (C : List CnQ) (cc : Nat) (ca : Option Addr) (hcs : j.cs = .slice ca C.length cc) (hJ : JAt w J j) (hCn : CnsIn w ca C cc) (h14 : 1 ≤ j.n.op ∧ j.n.op ≤ 14) (ha : hA j.n.op = true → j.a.good = true)
    (hw : hWin j.n.op = true → winG j.n j.a = true) (hch : hC j.n.op = true → 1 ≤ j.n.chans ∧ j.n.chans ≤ 64) :
    Calls Try.prog 60 #[.pointer (some ⟨J, 0, none⟩)] w fun e w' => e = .returned (.int .i64 (wtE C j.n j.a)) ∧ Below w.heap.size w w' := by
  have none : ∀ (h1 : (j.n.op == 1) = false) (h2 : (j.n.op == 2) = false) (h3 : (j.n.op == 3) = false) (h4 : (j.n.op == 4) = false) (h5 : (j.n.op == 14) = false), wtE C j.n j.a = 0 := by
    intro h1 h2 h3 h4 h5
    unfold wtE
    simp only [beq_eq_false_iff_ne] at h1 h2 h3 h4 h5
    simp [h1, h2, h3, h4, h5]
  rcases ops14 h14 with h | h | h | h | h | h | h | h | h | h | h | h | h | h
  · rw [show wtE C j.n j.a = conQ C j.n.w (sizeG j.n.sh) 0 by unfold wtE; simp [h]]
    exact jwt_1 J j w C cc ca hcs hJ hCn h
  · have ga := good_z (ha (by rw [h]; rfl))
    have gw := winG_k (hw (by rw [h]; rfl))
    rw [show wtE C j.n j.a = conQ C j.n.w (j.n.chans * (j.n.k0 * j.n.k1 * j.a.z)) 0 by unfold wtE; simp [h]]
    exact jwt_2 J j w C cc ca hcs hJ hCn h ⟨gw.1, gw.2, ga⟩ (hch (by rw [h]; rfl))
  · have ga := good_z (ha (by rw [h]; rfl))
    have gw := winG_k (hw (by rw [h]; rfl))
    rw [show wtE C j.n j.a = conQ C j.n.w (j.n.k0 * j.n.k1 * j.a.z) 0 by unfold wtE; simp [h]]
    exact jwt_3 J j w C cc ca hcs hJ hCn h ⟨gw.1, gw.2, ga⟩
  · rw [show wtE C j.n j.a = conQ C j.n.w (j.n.chans * sizeG j.a) 0 by unfold wtE; simp [h]]
    exact jwt_4 J j w C cc ca hcs hJ hCn h (ha (by rw [h]; rfl)) (hch (by rw [h]; rfl))
  · rw [none (by rw [h]; rfl) (by rw [h]; rfl) (by rw [h]; rfl) (by rw [h]; rfl) (by rw [h]; rfl)]
    exact jwt_x J j w C cc ca hcs hJ hCn (by rw [h]; rfl) (by rw [h]; rfl) (by rw [h]; rfl) (by rw [h]; rfl) (by rw [h]; rfl)
  · rw [none (by rw [h]; rfl) (by rw [h]; rfl) (by rw [h]; rfl) (by rw [h]; rfl) (by rw [h]; rfl)]
    exact jwt_x J j w C cc ca hcs hJ hCn (by rw [h]; rfl) (by rw [h]; rfl) (by rw [h]; rfl) (by rw [h]; rfl) (by rw [h]; rfl)
  · rw [none (by rw [h]; rfl) (by rw [h]; rfl) (by rw [h]; rfl) (by rw [h]; rfl) (by rw [h]; rfl)]
    exact jwt_x J j w C cc ca hcs hJ hCn (by rw [h]; rfl) (by rw [h]; rfl) (by rw [h]; rfl) (by rw [h]; rfl) (by rw [h]; rfl)
  · rw [none (by rw [h]; rfl) (by rw [h]; rfl) (by rw [h]; rfl) (by rw [h]; rfl) (by rw [h]; rfl)]
    exact jwt_x J j w C cc ca hcs hJ hCn (by rw [h]; rfl) (by rw [h]; rfl) (by rw [h]; rfl) (by rw [h]; rfl) (by rw [h]; rfl)
  · rw [none (by rw [h]; rfl) (by rw [h]; rfl) (by rw [h]; rfl) (by rw [h]; rfl) (by rw [h]; rfl)]
    exact jwt_x J j w C cc ca hcs hJ hCn (by rw [h]; rfl) (by rw [h]; rfl) (by rw [h]; rfl) (by rw [h]; rfl) (by rw [h]; rfl)
  · rw [none (by rw [h]; rfl) (by rw [h]; rfl) (by rw [h]; rfl) (by rw [h]; rfl) (by rw [h]; rfl)]
    exact jwt_x J j w C cc ca hcs hJ hCn (by rw [h]; rfl) (by rw [h]; rfl) (by rw [h]; rfl) (by rw [h]; rfl) (by rw [h]; rfl)
  · rw [none (by rw [h]; rfl) (by rw [h]; rfl) (by rw [h]; rfl) (by rw [h]; rfl) (by rw [h]; rfl)]
    exact jwt_x J j w C cc ca hcs hJ hCn (by rw [h]; rfl) (by rw [h]; rfl) (by rw [h]; rfl) (by rw [h]; rfl) (by rw [h]; rfl)
  · rw [none (by rw [h]; rfl) (by rw [h]; rfl) (by rw [h]; rfl) (by rw [h]; rfl) (by rw [h]; rfl)]
    exact jwt_x J j w C cc ca hcs hJ hCn (by rw [h]; rfl) (by rw [h]; rfl) (by rw [h]; rfl) (by rw [h]; rfl) (by rw [h]; rfl)
  · rw [none (by rw [h]; rfl) (by rw [h]; rfl) (by rw [h]; rfl) (by rw [h]; rfl) (by rw [h]; rfl)]
    exact jwt_x J j w C cc ca hcs hJ hCn (by rw [h]; rfl) (by rw [h]; rfl) (by rw [h]; rfl) (by rw [h]; rfl) (by rw [h]; rfl)
  · rw [show wtE C j.n j.a = conQ C j.n.w 0 256 by unfold wtE; simp [h]]
    exact jwt_14 J j w C cc ca hcs hJ hCn h
def bsE (C : List CnQ) (n : Nd) (o : Sh) : Int := if hI n.op then conQ C n.bias 0 o.z else 0
theorem jbs_any (J : Nat) (j : Jg) (w : World) (C : List CnQ) (cc : Nat) (ca : Option Addr) (hcs : j.cs = .slice ca C.length cc) (hJ : JAt w J j) (hC : CnsIn w ca C cc) (hj : JOk j) :
    Calls Try.prog 61 #[.pointer (some ⟨J, 0, none⟩)] w fun e w' => e = .returned (.int .i64 (bsE C j.n j.o)) ∧ Below w.heap.size w w' := by
  unfold bsE
  cases h : hI j.n.op
  · rw [if_neg (by simp)]
    refine (jbias_no J j w hJ hj h).mono ?_
    rintro e w' ⟨rfl, rfl⟩
    exact ⟨rfl, Below.refl _ _⟩
  · rw [if_pos rfl]
    exact jbias_yes J j w C cc ca hcs hJ hC hj h
/-- a constant that is as it should be is there -/
theorem conQ_there {C : List CnQ} {i bytes words : Int} (h : conQ C i bytes words = 0) : ∃ (k : Nat) (q : CnQ), i = (k : Int) ∧ C[k]? = some q ∧ (q.ws.length : Int) = words := by
  unfold conQ at h
  by_cases h1 : i < 0 ∨ (C.length : Int) ≤ i
  · rw [if_pos h1] at h; simp at h
  · rw [if_neg h1] at h
    by_cases h2 : ((C.getD i.toNat default).bs.length : Int) ≠ bytes ∨ ((C.getD i.toNat default).ws.length : Int) ≠ words
    · rw [if_pos h2] at h; simp at h
    · have hk : i.toNat < C.length := by omega
      refine ⟨i.toNat, C.getD i.toNat default, by omega, ?_, ?_⟩
      · rw [List.getD_eq_getElem?_getD, List.getElem?_eq_getElem hk]; rfl
      · by_cases h3 : ((C.getD i.toNat default).ws.length : Int) = words
        · exact h3
        · exact absurd (Or.inr h3) h2
theorem words_cn (C : List CnQ) (k : Nat) (q : CnQ) (h : C[k]? = some q) : wordsN (C.map CnQ.cn) (k : Int) = q.ws := by
  unfold wordsN
  simp [List.getD_eq_getElem?_getD, h, CnQ.cn]
def nmE (C : List CnQ) (n : Nd) : Int := if numbersB (C.map CnQ.cn) n then 0 else 11
theorem jnum_any (J : Nat) (j : Jg) (w : World) (C : List CnQ) (cc : Nat) (ca : Option Addr) (hcs : j.cs = .slice ca C.length cc) (hJ : JAt w J j) (hC : CnsIn w ca C cc) (hj : JOk j)
    (hbias : hI j.n.op = true → ∃ (k : Nat) (q : CnQ), j.n.bias = (k : Int) ∧ C[k]? = some q) (hw : j.n.op = 14 → ∃ (k : Nat) (q : CnQ), j.n.w = (k : Int) ∧ C[k]? = some q ∧ 0 < q.ws.length) :
    Calls Try.prog 62 #[.pointer (some ⟨J, 0, none⟩)] w fun e w' => e = .returned (.int .i64 (nmE C j.n)) ∧ Below w.heap.size w w' := by
  have no : numbersB (C.map CnQ.cn) j.n = false → nmE C j.n = 11 := fun h => by unfold nmE; rw [h]; rfl
  cases z0 : smallB j.n.za
  · rw [no (by unfold numbersB; rw [z0]; simp)]
    exact jnum_z0 J j w hJ z0
  cases z1 : smallB j.n.zb
  · rw [no (by unfold numbersB; rw [z1]; simp)]
    exact jnum_z1 J j w hJ z0 z1
  cases z2 : smallB j.n.zo
  · rw [no (by unfold numbersB; rw [z2]; simp)]
    exact jnum_z2 J j w hJ z0 z1 z2
  cases z3 : smallB j.n.lo
  · rw [no (by unfold numbersB; rw [z3]; simp)]
    exact jnum_z3 J j w hJ z0 z1 z2 z3
  cases z4 : smallB j.n.hi
  · rw [no (by unfold numbersB; rw [z4]; simp)]
    exact jnum_z4 J j w hJ z0 z1 z2 z3 z4
  by_cases n0 : ¬ 0 ≤ j.n.m1
  · rw [no (by unfold numbersB; simp; omega)]
    exact jnum_q0 J j w hJ z0 z1 z2 z3 z4  (by omega)
  have q0 : 0 ≤ j.n.m1 := by omega
  by_cases n1 : ¬ 0 ≤ j.n.m2
  · rw [no (by unfold numbersB; simp; omega)]
    exact jnum_q1 J j w hJ z0 z1 z2 z3 z4 q0 (by omega)
  have q1 : 0 ≤ j.n.m2 := by omega
  cases q2 : decide (0 ≤ j.n.t1 ∧ j.n.t1 ≤ 31)
  · rw [no (by have := of_decide_eq_false q2; unfold numbersB; simp; omega)]
    exact jnum_q2 J j w hJ z0 z1 z2 z3 z4 q0 q1 q2
  cases q3 : decide (0 ≤ j.n.t2 ∧ j.n.t2 ≤ 31)
  · rw [no (by have := of_decide_eq_false q3; unfold numbersB; simp; omega)]
    exact jnum_q3 J j w hJ z0 z1 z2 z3 z4 q0 q1 q2 q3
  by_cases n4 : ¬ j.n.lo ≤ j.n.hi
  · rw [no (by unfold numbersB; simp; omega)]
    exact jnum_q4 J j w hJ z0 z1 z2 z3 z4 q0 q1 q2 q3 (by omega)
  have q4 : j.n.lo ≤ j.n.hi := by omega
  have q2' := of_decide_eq_true q2
  have q3' := of_decide_eq_true q3
  have base : numbersB (C.map CnQ.cn) j.n = ((!hI j.n.op || (wordsN (C.map CnQ.cn) j.n.bias).all fun v => decide (-268435456 ≤ v ∧ v ≤ 268435456)) &&
      (!decide (j.n.op = 14) || ((wordsN (C.map CnQ.cn) j.n.w).all (fun v => decide (0 ≤ v ∧ v ≤ 65535)) && decide ((wordsN (C.map CnQ.cn) j.n.w).getD 0 0 ≠ 0)))) := by
    unfold numbersB
    rw [z0, z1, z2, z3, z4, decide_eq_true (show j.n.lo ≤ j.n.hi ∧ 0 ≤ j.n.m1 ∧ 0 ≤ j.n.m2 ∧ 0 ≤ j.n.t1 ∧ j.n.t1 ≤ 31 ∧ 0 ≤ j.n.t2 ∧ j.n.t2 ≤ 31 from ⟨q4, q0, q1, q2'.1, q2'.2, q3'.1, q3'.2⟩)]
    simp only [Bool.true_and]
  unfold nmE
  rw [base]
  cases hi : hI j.n.op
  · cases h14 : (j.n.op == 14)
    · have : decide (j.n.op = 14) = false := by simpa using h14
      rw [this]
      exact jnum_none J j w hJ hj hi h14 z0 z1 z2 z3 z4 q0 q1 q2 q3 q4
    · have e14 : j.n.op = 14 := by simpa using h14
      obtain ⟨k, q, hk, hq, hpos⟩ := hw e14
      rw [decide_eq_true e14, hk, words_cn C k q hq]
      simp only [Bool.not_false, Bool.true_or, Bool.true_and, Bool.not_true, Bool.false_or]
      exact jnum_soft J j w C cc ca hcs hJ hC hj k q hk hq hi h14 hpos z0 z1 z2 z3 z4 q0 q1 q2 q3 q4
  · obtain ⟨k, q, hk, hq⟩ := hbias hi
    have h14 : (j.n.op == 14) = false := by
      rcases ops14 hj.op with e | e | e | e | e | e | e | e | e | e | e | e | e | e <;> rw [e] at hi ⊢ <;> first | rfl | (exact absurd hi (by decide))
    have : decide (j.n.op = 14) = false := by simpa using h14
    rw [this, hk, words_cn C k q hq]
    simp only [Bool.not_false, Bool.true_or, Bool.and_true, Bool.not_true, Bool.false_or]
    exact jnum_bias J j w C cc ca hcs hJ hC hj k q hk hq hi h14 z0 z1 z2 z3 z4 q0 q1 q2 q3 q4
end Go.Proofs.Ytmifojpmomdmeaa

namespace Go.Proofs.Ytmifojpmomdmeaa
open Go Go.RowKit
set_option linter.unusedVariables false

theorem con_eq (C : List CnQ) (i b w : Int) : constE (C.map CnQ.cn) i b w = conQ C i b w := by
  unfold constE conQ
  rw [List.length_map]
  by_cases h : i < 0 ∨ (C.length : Int) ≤ i
  · rw [if_pos h, if_pos h]
  · rw [if_neg h, if_neg h]
    have hk : i.toNat < C.length := by omega
    have : (C.map CnQ.cn).getD i.toNat default = (C.getD i.toNat default).cn := by simp [List.getD_eq_getElem?_getD, List.getElem?_eq_getElem hk]
    rw [this]
    rfl
/-- all answers in a row: what is wrong first, or 0 and the shape -/
def prE (C : List CnQ) (n : Nd) (a b : Sh) : Int × Sh :=
  if hWin n.op = true ∧ winG n a = false then (10, default)
  else if hC n.op = true ∧ ¬ (1 ≤ n.chans ∧ n.chans ≤ 64) then (10, default)
  else if hS n.op = true ∧ n.sh.fit ≠ 0 then (n.sh.fit, default)
  else if n.op = 11 ∧ sizeG n.sh ≠ sizeG a then (10, default)
  else if hB n.op = true ∧ ¬ a = (if n.op = 12 then ⟨b.x, b.y, a.z⟩ else b) then (10, default)
  else if mkE n a b (rowX n a) (rowY n a) ≠ 0 then (mkE n a b (rowX n a) (rowY n a), default)
  else if wtE C n a ≠ 0 then (wtE C n a, default)
  else if bsE C n (mkO n a b (rowX n a) (rowY n a)) ≠ 0 then (bsE C n (mkO n a b (rowX n a) (rowY n a)), default)
  else if nmE C n ≠ 0 then (nmE C n, default)
  else (0, mkO n a b (rowX n a) (rowY n a))
/-- what comes behind the shape -/
def tlE (C : List CnQ) (n : Nd) (a s : Sh) : Int × Sh :=
  if s.fit ≠ 0 then (s.fit, default)
  else if n.op = 4 ∧ 4096 < sizeG a then (12, default)
  else if wtE C n a ≠ 0 then (wtE C n a, default)
  else if bsE C n s ≠ 0 then (bsE C n s, default)
  else if nmE C n ≠ 0 then (nmE C n, default)
  else (0, s)
theorem fit_zero {s : Sh} (h : s.good = true) : s.fit = 0 := by
  unfold Sh.fit
  have x := of_decide_eq_true h
  rw [if_neg (by omega), if_pos h]
theorem weights_eq (C : List CnQ) (n : Nd) (a s : Sh) (h14 : 1 ≤ n.op ∧ n.op ≤ 14) (ha : hA n.op = true → a.good = true) (h1 : n.op = 1 → s = n.sh ∧ n.sh.good = true) :
    weightsE (C.map CnQ.cn) n a s = if wtE C n a ≠ 0 then wtE C n a else bsE C n s := by
  unfold weightsE
  simp only [con_eq]
  rcases ops14 h14 with h | h | h | h | h | h | h | h | h | h | h | h | h | h
  all_goals
    simp only [h, hW, hI, bytesN, wtE, bsE]
    simp
  · rw [(h1 h).1, size_good (h1 h).2]
  · rw [size_good (ha (by rw [h]; rfl))]
theorem tail_eq (C : List CnQ) (n : Nd) (a s : Sh) (h14 : 1 ≤ n.op ∧ n.op ≤ 14) (ha : hA n.op = true → a.good = true) (h1 : n.op = 1 → s = n.sh) :
    (if s.fit ≠ 0 then (s.fit, (default : Sh)) else if n.op = 4 ∧ 4096 < a.size then (12, default) else if weightsE (C.map CnQ.cn) n a s ≠ 0 then (weightsE (C.map CnQ.cn) n a s, default) else if numbersB (C.map CnQ.cn) n = false then (11, default) else (0, s)) = tlE C n a s := by
  unfold tlE
  by_cases hf : s.fit ≠ 0
  · rw [if_pos hf, if_pos hf]
  · rw [if_neg hf, if_neg hf]
    have e4 : (n.op = 4 ∧ 4096 < a.size) ↔ (n.op = 4 ∧ 4096 < sizeG a) := by
      refine and_congr_right fun h => ?_
      rw [size_good (ha (by rw [h]; rfl))]
    by_cases h4 : n.op = 4 ∧ 4096 < a.size
    · rw [if_pos h4, if_pos (e4.1 h4)]
    · rw [if_neg h4, if_neg (fun g => h4 (e4.2 g)), weights_eq C n a s h14 ha (fun h => ⟨h1 h, by have := h1 h; subst this; exact Sh.fit_good (by simpa using hf)⟩)]
      by_cases hw : wtE C n a ≠ 0
      · rw [if_pos hw, if_pos hw, if_pos hw]
      · rw [if_neg hw, if_neg hw]
        by_cases hb : bsE C n s ≠ 0
        · rw [if_pos hb, if_pos hb]
        · rw [if_neg hb, if_neg hb]
          unfold nmE
          cases numbersB (C.map CnQ.cn) n <;> simp
theorem pr_tail {C : List CnQ} {n : Nd} {a b : Sh} (h : ¬ (n.op = 10 ∧ padB7 n = false)) :
    (if mkE n a b (rowX n a) (rowY n a) ≠ 0 then (mkE n a b (rowX n a) (rowY n a), (default : Sh))
  else if wtE C n a ≠ 0 then (wtE C n a, default)
  else if bsE C n (mkO n a b (rowX n a) (rowY n a)) ≠ 0 then (bsE C n (mkO n a b (rowX n a) (rowY n a)), default)
  else if nmE C n ≠ 0 then (nmE C n, default)
  else (0, mkO n a b (rowX n a) (rowY n a))) = tlE C n a (mkO n a b (rowX n a) (rowY n a)) := by
  unfold mkE tlE
  rw [if_neg h]
  generalize mkO n a b (rowX n a) (rowY n a) = s
  by_cases hf : s.fit ≠ 0
  · rw [if_pos hf, if_pos hf, if_pos hf]
  · rw [if_neg hf, if_neg hf]
    by_cases h4 : n.op = 4 ∧ 4096 < sizeG a
    · rw [if_pos h4, if_pos h4, if_pos (by decide)]
    · rw [if_neg h4, if_neg h4, if_neg (by decide)]
theorem pr_ok {C : List CnQ} {n : Nd} {a b : Sh} (h1 : ¬ (hWin n.op = true ∧ winG n a = false)) (h2 : ¬ (hC n.op = true ∧ ¬ (1 ≤ n.chans ∧ n.chans ≤ 64))) (h3 : ¬ (hS n.op = true ∧ n.sh.fit ≠ 0)) (h4 : ¬ (n.op = 11 ∧ sizeG n.sh ≠ sizeG a))
    (h5 : ¬ (hB n.op = true ∧ ¬ a = (if n.op = 12 then ⟨b.x, b.y, a.z⟩ else b))) (h6 : ¬ (n.op = 10 ∧ padB7 n = false)) : prE C n a b = tlE C n a (mkO n a b (rowX n a) (rowY n a)) := by
  unfold prE
  rw [if_neg h1, if_neg h2, if_neg h3, if_neg h4, if_neg h5, pr_tail h6]
def ndT (C : List CnQ) (n : Nd) (a : Sh) (o : Int × Sh) : Int × Sh :=
  if o.1 ≠ 0 then (o.1, default) else if o.2.fit ≠ 0 then (o.2.fit, default) else if n.op = 4 ∧ 4096 < a.size then (12, default) else if weightsE (C.map CnQ.cn) n a o.2 ≠ 0 then (weightsE (C.map CnQ.cn) n a o.2, default) else if numbersB (C.map CnQ.cn) n = false then (11, default) else (0, o.2)
/-- the specification's answer, if the node's inputs are there and nothing idle is set -/
theorem node_pr (C : List CnQ) (n : Nd) (l : List Sh) (a b : Sh) (h14 : 1 ≤ n.op ∧ n.op ≤ 14) (hins : insOk n l.length = true) (hid : idleN n = true)
    (hA1 : hA n.op = true → a = l.getD n.a.toNat default ∧ a.good = true) (hB1 : hB n.op = true → b = l.getD n.b.toNat default ∧ b.good = true) : nodeE (C.map CnQ.cn) n l = prE C n a b := by
  have T : ∀ (A : Sh) (s : Sh), (hA n.op = true → A = a) → (n.op = 1 → s = n.sh) → ndT C n A (0, s) = tlE C n a s := by
    intro A s hAa h1
    by_cases h : hA n.op = true
    · rw [hAa h]
      rw [← tail_eq C n a s h14 (fun h => (hA1 h).2) h1]
      unfold ndT
      rw [if_neg (by simp)]
    · have e1 : n.op = 1 := by
        unfold hA at h
        simpa using h
      have w1 : ∀ X Y : Sh, weightsE (C.map CnQ.cn) n X s = weightsE (C.map CnQ.cn) n Y s := by
        intro X Y; unfold weightsE bytesN; simp [e1]
      rw [← tail_eq C n a s h14 (fun h => (hA1 h).2) h1]
      unfold ndT
      rw [if_neg (by simp), w1 A a]
      simp [e1]
  have TB : ∀ (A : Sh) (c : Int) (s : Sh), c ≠ 0 → ndT C n A (c, s) = (c, default) := by
    intro A c s h
    unfold ndT
    rw [if_pos h]
  have L : nodeE (C.map CnQ.cn) n l = ndT C n (l.getD n.a.toNat default) (outN n (l.getD n.a.toNat default) (l.getD n.b.toNat default)) := by
    unfold nodeE ndT
    rw [if_neg (by omega), if_neg (by rw [hins]; simp), if_neg (by rw [hid]; simp)]
  rw [L]
  clear L
  generalize hAA : l.getD n.a.toNat default = A at *
  generalize hBB : l.getD n.b.toNat default = B at *
  have dflt : ∀ (s : Sh), (∀ X Y, outN n X Y = (0, s) ∨ True) → True := fun _ _ => trivial
  clear dflt
  rcases ops14 h14 with h | h | h | h | h | h | h | h | h | h | h | h | h | h
  · by_cases hf : n.sh.fit ≠ 0
    · rw [show outN n A B = (n.sh.fit, n.sh) by unfold outN; simp [h, hWin, hC], TB _ _ _ hf]
      unfold prE
      rw [if_neg (by rw [h]; simp [hWin]), if_neg (by rw [h]; simp [hC]), if_pos ⟨by rw [h]; rfl, hf⟩]
    · rw [show outN n A B = (0, n.sh) by unfold outN; simp [h, hWin, hC]; simpa using hf, T A _ (fun g => by rw [h] at g; cases g) (fun _ => rfl), pr_ok (by rw [h]; simp [hWin]) (by rw [h]; simp [hC]) (fun g => hf g.2) (by rw [h]; simp) (by rw [h]; simp [hB]) (by rw [h]; simp)]
      rw [show mkO n a b (rowX n a) (rowY n a) = n.sh by unfold mkO; simp [h]; rfl]
  · obtain rfl : a = A := (hA1 (by rw [h]; rfl)).1
    cases hw : winG n a
    · rw [show outN n a B = (10, a) by unfold outN; simp [h, hWin, hw], TB _ _ _ (by decide)]
      unfold prE
      rw [if_pos ⟨by rw [h]; rfl, hw⟩]
    · by_cases hc : 1 ≤ n.chans ∧ n.chans ≤ 64
      · rw [show outN n a B = (0, ⟨rowX n a, rowY n a, n.chans⟩) by unfold outN; simp [h, hWin, hC, hw, hc], T a _ (fun _ => rfl) (fun g => by rw [h] at g; cases g), pr_ok (by rw [hw]; simp) (fun g => g.2 hc) (by rw [h]; simp [hS]) (by rw [h]; simp) (by rw [h]; simp [hB]) (by rw [h]; simp)]
        rw [show mkO n a b (rowX n a) (rowY n a) = ⟨rowX n a, rowY n a, n.chans⟩ by unfold mkO; simp [h]]
      · rw [show outN n a B = (10, a) by unfold outN; simp only [h, hWin, hC, hw]; simp [hc], TB _ _ _ (by decide)]
        unfold prE
        rw [if_neg (by rw [hw]; simp), if_pos ⟨by rw [h]; rfl, hc⟩]
  · obtain rfl : a = A := (hA1 (by rw [h]; rfl)).1
    cases hw : winG n a
    · rw [show outN n a B = (10, a) by unfold outN; simp [h, hWin, hw], TB _ _ _ (by decide)]
      unfold prE
      rw [if_pos ⟨by rw [h]; rfl, hw⟩]
    · rw [show outN n a B = (0, ⟨rowX n a, rowY n a, a.z⟩) by unfold outN; simp [h, hWin, hC, hw], T a _ (fun _ => rfl) (fun g => by rw [h] at g; cases g), pr_ok (by rw [hw]; simp) (by rw [h]; simp [hC]) (by rw [h]; simp [hS]) (by rw [h]; simp) (by rw [h]; simp [hB]) (by rw [h]; simp)]
      rw [show mkO n a b (rowX n a) (rowY n a) = ⟨rowX n a, rowY n a, a.z⟩ by unfold mkO; simp [h]]
  · obtain rfl : a = A := (hA1 (by rw [h]; rfl)).1
    by_cases hc : 1 ≤ n.chans ∧ n.chans ≤ 64
    · rw [show outN n a B = (0, ⟨1, 1, n.chans⟩) by unfold outN; simp [h, hWin, hC, hc], T a _ (fun _ => rfl) (fun g => by rw [h] at g; cases g), pr_ok (by rw [h]; simp [hWin]) (fun g => g.2 hc) (by rw [h]; simp [hS]) (by rw [h]; simp) (by rw [h]; simp [hB]) (by rw [h]; simp)]
      rw [show mkO n a b (rowX n a) (rowY n a) = ⟨1, 1, n.chans⟩ by unfold mkO; simp [h]]
    · rw [show outN n a B = (10, a) by unfold outN; simp only [h, hWin, hC]; simp [hc], TB _ _ _ (by decide)]
      unfold prE
      rw [if_neg (by rw [h]; simp [hWin]), if_pos ⟨by rw [h]; rfl, hc⟩]
  · obtain rfl : a = A := (hA1 (by rw [h]; rfl)).1
    cases hw : winG n a
    · rw [show outN n a B = (10, a) by unfold outN; simp [h, hWin, hw], TB _ _ _ (by decide)]
      unfold prE
      rw [if_pos ⟨by rw [h]; rfl, hw⟩]
    · rw [show outN n a B = (0, ⟨rowX n a, rowY n a, a.z⟩) by unfold outN; simp [h, hWin, hC, hw], T a _ (fun _ => rfl) (fun g => by rw [h] at g; cases g), pr_ok (by rw [hw]; simp) (by rw [h]; simp [hC]) (by rw [h]; simp [hS]) (by rw [h]; simp) (by rw [h]; simp [hB]) (by rw [h]; simp)]
      rw [show mkO n a b (rowX n a) (rowY n a) = ⟨rowX n a, rowY n a, a.z⟩ by unfold mkO; simp [h]]
  · obtain rfl : a = A := (hA1 (by rw [h]; rfl)).1
    cases hw : winG n a
    · rw [show outN n a B = (10, a) by unfold outN; simp [h, hWin, hw], TB _ _ _ (by decide)]
      unfold prE
      rw [if_pos ⟨by rw [h]; rfl, hw⟩]
    · rw [show outN n a B = (0, ⟨rowX n a, rowY n a, a.z⟩) by unfold outN; simp [h, hWin, hC, hw], T a _ (fun _ => rfl) (fun g => by rw [h] at g; cases g), pr_ok (by rw [hw]; simp) (by rw [h]; simp [hC]) (by rw [h]; simp [hS]) (by rw [h]; simp) (by rw [h]; simp [hB]) (by rw [h]; simp)]
      rw [show mkO n a b (rowX n a) (rowY n a) = ⟨rowX n a, rowY n a, a.z⟩ by unfold mkO; simp [h]]
  · obtain rfl : a = A := (hA1 (by rw [h]; rfl)).1
    obtain rfl : b = B := (hB1 (by rw [h]; rfl)).1
    by_cases hc : a = b
    · rw [show outN n a b = (0, a) by unfold outN; simp [h, hWin, hC, hc], T a _ (fun _ => rfl) (fun g => by rw [h] at g; cases g), pr_ok (by rw [h]; simp [hWin]) (by rw [h]; simp [hC]) (by rw [h]; simp [hS]) (by rw [h]; simp) (fun g => g.2 (by rw [if_neg (by rw [h]; decide)]; exact hc)) (by rw [h]; simp)]
      rw [show mkO n a b (rowX n a) (rowY n a) = a by unfold mkO; simp [h]]
    · rw [show outN n a b = (10, a) by unfold outN; simp [h, hWin, hC, hc], TB _ _ _ (by decide)]
      unfold prE
      rw [if_neg (by rw [h]; simp [hWin]), if_neg (by rw [h]; simp [hC]), if_neg (by rw [h]; simp [hS]), if_neg (by rw [h]; simp), if_pos ⟨by rw [h]; rfl, by rw [if_neg (by rw [h]; decide)]; exact hc⟩]
  · obtain rfl : a = A := (hA1 (by rw [h]; rfl)).1
    obtain rfl : b = B := (hB1 (by rw [h]; rfl)).1
    by_cases hc : a = b
    · rw [show outN n a b = (0, a) by unfold outN; simp [h, hWin, hC, hc], T a _ (fun _ => rfl) (fun g => by rw [h] at g; cases g), pr_ok (by rw [h]; simp [hWin]) (by rw [h]; simp [hC]) (by rw [h]; simp [hS]) (by rw [h]; simp) (fun g => g.2 (by rw [if_neg (by rw [h]; decide)]; exact hc)) (by rw [h]; simp)]
      rw [show mkO n a b (rowX n a) (rowY n a) = a by unfold mkO; simp [h]]
    · rw [show outN n a b = (10, a) by unfold outN; simp [h, hWin, hC, hc], TB _ _ _ (by decide)]
      unfold prE
      rw [if_neg (by rw [h]; simp [hWin]), if_neg (by rw [h]; simp [hC]), if_neg (by rw [h]; simp [hS]), if_neg (by rw [h]; simp), if_pos ⟨by rw [h]; rfl, by rw [if_neg (by rw [h]; decide)]; exact hc⟩]
  · obtain rfl : a = A := (hA1 (by rw [h]; rfl)).1
    rw [show outN n a B = (0, a) by unfold outN; simp [h, hWin, hC], T a _ (fun _ => rfl) (fun g => by rw [h] at g; cases g), pr_ok (by rw [h]; simp [hWin]) (by rw [h]; simp [hC]) (by rw [h]; simp [hS]) (by rw [h]; simp) (by rw [h]; simp [hB]) (by rw [h]; simp)]
    rw [show mkO n a b (rowX n a) (rowY n a) = a by unfold mkO; simp [h]]
  · obtain rfl : a = A := (hA1 (by rw [h]; rfl)).1
    cases hp : padB7 n
    · rw [show outN n a B = (10, ⟨a.x + n.p0 + n.p2, a.y + n.p1 + n.p3, a.z⟩) by unfold outN; simp [h, hWin, hC, hp], TB _ _ _ (by decide)]
      unfold prE
      rw [if_neg (by rw [h]; simp [hWin]), if_neg (by rw [h]; simp [hC]), if_neg (by rw [h]; simp [hS]), if_neg (by rw [h]; simp), if_neg (by rw [h]; simp [hB]), show mkE n a b (rowX n a) (rowY n a) = 10 by unfold mkE; rw [if_pos ⟨h, hp⟩], if_pos (by decide)]
    · rw [show outN n a B = (0, ⟨a.x + n.p0 + n.p2, a.y + n.p1 + n.p3, a.z⟩) by unfold outN; simp [h, hWin, hC, hp], T a _ (fun _ => rfl) (fun g => by rw [h] at g; cases g), pr_ok (by rw [h]; simp [hWin]) (by rw [h]; simp [hC]) (by rw [h]; simp [hS]) (by rw [h]; simp) (by rw [h]; simp [hB]) (by rw [hp]; simp)]
      rw [show mkO n a b (rowX n a) (rowY n a) = ⟨a.x + n.p0 + n.p2, a.y + n.p1 + n.p3, a.z⟩ by unfold mkO; simp [h]]
  · obtain ⟨ha0, ga⟩ := hA1 (by rw [h]; rfl)
    obtain rfl : a = A := ha0
    by_cases hf : n.sh.fit ≠ 0
    · rw [show outN n a B = (n.sh.fit, n.sh) by unfold outN; simp only [h, hWin, hC]; simp [hf], TB _ _ _ hf]
      unfold prE
      rw [if_neg (by rw [h]; simp [hWin]), if_neg (by rw [h]; simp [hC]), if_pos ⟨by rw [h]; rfl, hf⟩]
    · have hf0 : n.sh.fit = 0 := by simpa using hf
      have e1 := size_good (Sh.fit_good hf0)
      have e2 := size_good ga
      by_cases hs : n.sh.size ≠ a.size
      · rw [show outN n a B = (10, n.sh) by unfold outN; simp only [h, hWin, hC]; simp [hf0, hs], TB _ _ _ (by decide)]
        unfold prE
        rw [if_neg (by rw [h]; simp [hWin]), if_neg (by rw [h]; simp [hC]), if_neg (fun g => hf g.2), if_pos ⟨h, by rw [e1, e2]; exact hs⟩]
      · rw [show outN n a B = (0, n.sh) by unfold outN; simp only [h, hWin, hC]; simp [hf0, show n.sh.size = a.size by simpa using hs], T a _ (fun _ => rfl) (fun _ => rfl), pr_ok (by rw [h]; simp [hWin]) (by rw [h]; simp [hC]) (fun g => hf g.2) (fun g => hs (by rw [← e1, ← e2]; exact g.2)) (by rw [h]; simp [hB]) (by rw [h]; simp)]
        rw [show mkO n a b (rowX n a) (rowY n a) = n.sh by unfold mkO; simp [h]; rfl]
  · obtain rfl : a = A := (hA1 (by rw [h]; rfl)).1
    obtain rfl : b = B := (hB1 (by rw [h]; rfl)).1
    by_cases hc : a.x = b.x ∧ a.y = b.y
    · rw [show outN n a b = (0, ⟨a.x, a.y, a.z + b.z⟩) by unfold outN; simp [h, hWin, hC, hc], T a _ (fun _ => rfl) (fun g => by rw [h] at g; cases g), pr_ok (by rw [h]; simp [hWin]) (by rw [h]; simp [hC]) (by rw [h]; simp [hS]) (by rw [h]; simp) (fun g => g.2 (by rw [if_pos h, ← hc.1, ← hc.2])) (by rw [h]; simp)]
      rw [show mkO n a b (rowX n a) (rowY n a) = ⟨a.x, a.y, a.z + b.z⟩ by unfold mkO; simp [h]]
    · rw [show outN n a b = (10, ⟨a.x, a.y, a.z + b.z⟩) by unfold outN; simp only [h, hWin, hC]; simp [hc], TB _ _ _ (by decide)]
      unfold prE
      rw [if_neg (by rw [h]; simp [hWin]), if_neg (by rw [h]; simp [hC]), if_neg (by rw [h]; simp [hS]), if_neg (by rw [h]; simp), if_pos ⟨by rw [h]; rfl, by rw [if_pos h]; intro g; exact hc ⟨by have := congrArg Sh.x g; exact this, by have := congrArg Sh.y g; exact this⟩⟩]
  · obtain rfl : a = A := (hA1 (by rw [h]; rfl)).1
    rw [show outN n a B = (0, ⟨a.x, a.y, 1⟩) by unfold outN; simp [h, hWin, hC], T a _ (fun _ => rfl) (fun g => by rw [h] at g; cases g), pr_ok (by rw [h]; simp [hWin]) (by rw [h]; simp [hC]) (by rw [h]; simp [hS]) (by rw [h]; simp) (by rw [h]; simp [hB]) (by rw [h]; simp)]
    rw [show mkO n a b (rowX n a) (rowY n a) = ⟨a.x, a.y, 1⟩ by unfold mkO; simp [h]]
  · obtain rfl : a = A := (hA1 (by rw [h]; rfl)).1
    rw [show outN n a B = (0, a) by unfold outN; simp [h, hWin, hC], T a _ (fun _ => rfl) (fun g => by rw [h] at g; cases g), pr_ok (by rw [h]; simp [hWin]) (by rw [h]; simp [hC]) (by rw [h]; simp [hS]) (by rw [h]; simp) (by rw [h]; simp [hB]) (by rw [h]; simp)]
    rw [show mkO n a b (rowX n a) (rowY n a) = a by unfold mkO; simp [h]]
end Go.Proofs.Ytmifojpmomdmeaa

namespace Go.Proofs.Ytmifojpmomdmeaa
open Go Go.RowKit
set_option linter.unusedVariables false

def e1 (n : Nd) (a : Sh) : Int := if hWin n.op && !winG n a then 10 else 0
def e2 (n : Nd) : Int := if hC n.op && !decide (1 ≤ n.chans ∧ n.chans ≤ 64) then 10 else 0
def e3 (n : Nd) (a : Sh) : Int := if hS n.op then (if n.sh.fit ≠ 0 then n.sh.fit else if n.op = 11 ∧ sizeG n.sh ≠ sizeG a then 10 else 0) else 0
def e4 (n : Nd) (a b : Sh) : Int := if hB n.op = true ∧ ¬ a = (if n.op = 12 then ⟨b.x, b.y, a.z⟩ else b) then 10 else 0
def prL (C : List CnQ) (n : Nd) (a b : Sh) : Int × Sh :=
  if e1 n a ≠ 0 then (e1 n a, default) else if e2 n ≠ 0 then (e2 n, default) else if e3 n a ≠ 0 then (e3 n a, default) else if e4 n a b ≠ 0 then (e4 n a b, default)
  else if mkE n a b (rowX n a) (rowY n a) ≠ 0 then (mkE n a b (rowX n a) (rowY n a), default)
  else if wtE C n a ≠ 0 then (wtE C n a, default)
  else if bsE C n (mkO n a b (rowX n a) (rowY n a)) ≠ 0 then (bsE C n (mkO n a b (rowX n a) (rowY n a)), default)
  else if nmE C n ≠ 0 then (nmE C n, default)
  else (0, mkO n a b (rowX n a) (rowY n a))
theorem ite0 {α : Type} (x y : α) : (if (0 : Int) ≠ 0 then x else y) = y := rfl
theorem ite10 {α : Type} (x y : α) : (if (10 : Int) ≠ 0 then x else y) = x := rfl
theorem pr_eq (C : List CnQ) (n : Nd) (a b : Sh) : prE C n a b = prL C n a b := by
  unfold prE prL
  by_cases h1 : hWin n.op = true ∧ winG n a = false
  · have : e1 n a = 10 := by unfold e1; rw [h1.1, h1.2]; rfl
    rw [if_pos h1, this, ite10]
  · have : e1 n a = 0 := by
      unfold e1
      cases ha : hWin n.op
      · rfl
      · cases hb : winG n a
        · exact absurd ⟨ha, hb⟩ h1
        · rfl
    rw [if_neg h1, this, ite0]
    by_cases h2 : hC n.op = true ∧ ¬ (1 ≤ n.chans ∧ n.chans ≤ 64)
    · have : e2 n = 10 := by unfold e2; rw [h2.1, decide_eq_false h2.2]; rfl
      rw [if_pos h2, this, ite10]
    · have : e2 n = 0 := by
        unfold e2
        cases ha : hC n.op
        · rfl
        · rw [decide_eq_true (Decidable.of_not_not (fun g => h2 ⟨ha, g⟩))]; rfl
      rw [if_neg h2, this, ite0]
      by_cases h3 : hS n.op = true ∧ n.sh.fit ≠ 0
      · have : e3 n a = n.sh.fit := by unfold e3; rw [if_pos h3.1, if_pos h3.2]
        rw [if_pos h3, this, if_pos h3.2]
      · rw [if_neg h3]
        by_cases h4 : n.op = 11 ∧ sizeG n.sh ≠ sizeG a
        · have hs : hS n.op = true := by rw [h4.1]; rfl
          have : e3 n a = 10 := by unfold e3; rw [if_pos hs, if_neg (fun g => h3 ⟨hs, g⟩), if_pos h4]
          rw [if_pos h4, this, ite10]
        · have : e3 n a = 0 := by
            unfold e3
            by_cases hs : hS n.op = true
            · rw [if_pos hs, if_neg (fun g => h3 ⟨hs, g⟩), if_neg h4]
            · rw [if_neg hs]
          rw [if_neg h4, this, ite0]
          unfold e4
          by_cases h5 : hB n.op = true ∧ ¬ a = (if n.op = 12 then ⟨b.x, b.y, a.z⟩ else b)
          · rw [if_pos h5, if_pos h5, ite10]
          · rw [if_neg h5, if_neg h5, ite0]
/-- rows of a window matter only where there is one -/
theorem mkO_rows {n : Nd} {a b : Sh} {r0 r1 : Int} (h : hWin n.op = true → r0 = rowX n a ∧ r1 = rowY n a) : mkO n a b r0 r1 = mkO n a b (rowX n a) (rowY n a) := by
  cases hw : hWin n.op
  · have h2 : ¬ n.op = 2 := by intro g; rw [g] at hw; cases hw
    have h3 : ¬ (n.op = 3 ∨ n.op = 5 ∨ n.op = 6) := by rintro (g | g | g) <;> rw [g] at hw <;> cases hw
    unfold mkO
    simp only [h2, h3, if_false]
  · obtain ⟨rfl, rfl⟩ := h hw; rfl
theorem mkE_rows {n : Nd} {a b : Sh} {r0 r1 : Int} (h : hWin n.op = true → r0 = rowX n a ∧ r1 = rowY n a) : mkE n a b r0 r1 = mkE n a b (rowX n a) (rowY n a) := by
  unfold mkE; rw [mkO_rows h]
/-- one form for all -/
def MPost (J : Nat) (w : World) (R : Int → Jg → Prop) (e : Ending) (w' : World) : Prop := ∃ c j', e = .returned (.int .i64 c) ∧ w.grownBy w' (some J) ∧ JAt w' J j' ∧ R c j'
section
variable {J : Nat} {j : Jg} {w : World} {C : List CnQ} {cc : Nat} {ca : Option Addr}
theorem m1 (hJ : JAt w J j) (hj : JOk j) : Calls Try.prog 55 #[.pointer (some ⟨J, 0, none⟩)] w (MPost J w fun c j' => c = e1 j.n j.a ∧ ∃ r0 r1, j' = { j with r0 := r0, r1 := r1 } ∧ (hWin j.n.op = true → c = 0 → r0 = rowX j.n j.a ∧ r1 = rowY j.n j.a)) := by
  refine (jwin_any J j w hJ hj).mono ?_
  rintro e w' ⟨c, r0, r1, rfl, hc, hg, hJ', hr⟩
  exact ⟨c, _, rfl, hg, hJ', hc, r0, r1, rfl, hr⟩
theorem m2 (hJ : JAt w J j) (hj : JOk j) : Calls Try.prog 56 #[.pointer (some ⟨J, 0, none⟩)] w (MPost J w fun c j' => c = e2 j.n ∧ j' = j) := by
  refine (jchans J j w hJ hj).mono ?_
  rintro e w' ⟨rfl, rfl⟩
  exact ⟨_, j, rfl, below_grown (Below.refl _ _) _, hJ, rfl, rfl⟩
theorem m3 (hJ : JAt w J j) (hj : JOk j) : Calls Try.prog 57 #[.pointer (some ⟨J, 0, none⟩)] w (MPost J w fun c j' => c = e3 j.n j.a ∧ j' = j) := by
  refine (jsh_any J j w hJ hj).mono ?_
  rintro e w' ⟨rfl, hb⟩
  exact ⟨_, j, rfl, below_grown hb _, hJ.over hb, rfl, rfl⟩
theorem m4 (hJ : JAt w J j) (hj : JOk j) : Calls Try.prog 58 #[.pointer (some ⟨J, 0, none⟩)] w (MPost J w fun c j' => c = e4 j.n j.a j.b ∧ j' = j) := by
  refine (jal_any J j w hJ hj).mono ?_
  rintro e w' ⟨rfl, hb⟩
  exact ⟨_, j, rfl, below_grown hb _, hJ.over hb, rfl, rfl⟩
theorem m5 (hJ : JAt w J j) (hj : JOk j) (ha : hA j.n.op = true → j.a.good = true) (hb : hB j.n.op = true → j.b.good = true) : Calls Try.prog 59 #[.pointer (some ⟨J, 0, none⟩)] w (MPost J w fun c j' => c = mkE j.n j.a j.b j.r0 j.r1 ∧ ∃ o', j' = { j with o := o' } ∧ (c = 0 → o' = mkO j.n j.a j.b j.r0 j.r1)) := by
  refine (jmk_any J j w hJ hj.op ha hb).mono ?_
  rintro e w' ⟨o', rfl, hg, hJ', ho⟩
  exact ⟨_, _, rfl, hg, hJ', rfl, o', rfl, ho⟩
theorem m6 (hcs : j.cs = .slice ca C.length cc) (hJ : JAt w J j) (hC : CnsIn w ca C cc) (hj : JOk j) (ha : hA j.n.op = true → j.a.good = true) (h1 : e1 j.n j.a = 0) (h2 : e2 j.n = 0) : Calls Try.prog 60 #[.pointer (some ⟨J, 0, none⟩)] w (MPost J w fun c j' => c = wtE C j.n j.a ∧ j' = j) := by
  refine (jwt_any J j w C cc ca hcs hJ hC hj.op ha ?_ ?_).mono ?_
  · intro h
    unfold e1 at h1
    rw [h] at h1
    cases hg : winG j.n j.a
    · rw [hg] at h1; simp at h1
    · rfl
  · intro h
    unfold e2 at h2
    rw [h] at h2
    cases hg : decide (1 ≤ j.n.chans ∧ j.n.chans ≤ 64)
    · rw [hg] at h2; simp at h2
    · exact of_decide_eq_true hg
  · rintro e w' ⟨rfl, hb⟩
    exact ⟨_, j, rfl, below_grown hb _, hJ.over hb, rfl, rfl⟩
theorem m7 (hcs : j.cs = .slice ca C.length cc) (hJ : JAt w J j) (hC : CnsIn w ca C cc) (hj : JOk j) : Calls Try.prog 61 #[.pointer (some ⟨J, 0, none⟩)] w (MPost J w fun c j' => c = bsE C j.n j.o ∧ j' = j) := by
  refine (jbs_any J j w C cc ca hcs hJ hC hj).mono ?_
  rintro e w' ⟨rfl, hb⟩
  exact ⟨_, j, rfl, below_grown hb _, hJ.over hb, rfl, rfl⟩
theorem m8 (hcs : j.cs = .slice ca C.length cc) (hJ : JAt w J j) (hC : CnsIn w ca C cc) (hj : JOk j) (h6 : wtE C j.n j.a = 0) (h7 : bsE C j.n j.o = 0) : Calls Try.prog 62 #[.pointer (some ⟨J, 0, none⟩)] w (MPost J w fun c j' => c = nmE C j.n ∧ j' = j) := by
  refine (jnum_any J j w C cc ca hcs hJ hC hj ?_ ?_).mono ?_
  · intro h
    unfold bsE at h7
    rw [if_pos h] at h7
    obtain ⟨k, q, hk, hq, _⟩ := conQ_there h7
    exact ⟨k, q, hk, hq⟩
  · intro h
    unfold wtE at h6
    simp only [h] at h6
    obtain ⟨k, q, hk, hq, hl⟩ := conQ_there h6
    exact ⟨k, q, hk, hq, by omega⟩
  · rintro e w' ⟨rfl, hb⟩
    exact ⟨_, j, rfl, below_grown hb _, hJ.over hb, rfl, rfl⟩
end
end Go.Proofs.Ytmifojpmomdmeaa
