/- Loop programs as trees: what they do, and that the machine goes so. -/
import Derived.Test.YtlieapapmkbbgaaGD
namespace Go.Proofs.Ytlieapapmkbbgaa
open Go Go.RowKit Pl
set_option linter.unusedVariables false

inductive LTr
  | nil : LTr
  | step : Q5 → LTr → LTr
  | loop : Q5 → Q5 → LTr → LTr → LTr
def LTr.flat : LTr → List Q5
  | .nil => []
  | .step x r => x :: r.flat
  | .loop x y b r => x :: (b.flat ++ y :: r.flat)
def LTr.wf : LTr → Prop
  | .nil => True
  | .step x r => x.o ≠ 23 ∧ x.o ≠ 24 ∧ r.wf
  | .loop x y b r => x.o = 23 ∧ y.o = 24 ∧ b.wf ∧ r.wf
/-- nothing of these sets this variable -/
def FreeOf (c : Int) (l : List Q5) : Prop := ∀ z ∈ l, z.o ≠ 24 → writesS z ≠ -1 → writesS z ≠ c
def LTr.good : LTr → Prop
  | .nil => True
  | .step x r => r.good
  | .loop x y b r => FreeOf x.d b.flat ∧ b.good ∧ r.good
structure LOu where
  n : Nat
  t : Int
  f : Nat → Int
  b : List Nat
def LOu.after (o : LOu) (m : Nat) : LOu := ⟨o.n + m, o.t, o.f, o.b⟩
/-- so many rounds -/
def itE (g : (Nat → Int) → List Nat → LOu) (c : Nat) : Nat → (Nat → Int) → List Nat → LOu
  | 0, f, b => ⟨0, 0, f, b⟩
  | k + 1, f, b => if (g f b).t ≠ 0 then g f b else (itE g c k (upd (g f b).f c (((g f b).f c - 1) % 4294967296)) (g f b).b).after ((g f b).n + 1)
def LTr.ev (K : Bk) : LTr → (Nat → Int) → List Nat → LOu
  | .nil, f, b => ⟨0, 0, f, b⟩
  | .step x r, f, b => if (doR K x f b).t ≠ 0 then ⟨0, (doR K x f b).t, f, b⟩ else (LTr.ev K r (doR K x f b).f (doR K x f b).b).after 1
  | .loop x y q r, f, b => if (itE (LTr.ev K q) x.d.toNat x.i.toNat (upd f x.d.toNat x.i) b).t ≠ 0 then (itE (LTr.ev K q) x.d.toNat x.i.toNat (upd f x.d.toNat x.i) b).after 1
    else (LTr.ev K r (itE (LTr.ev K q) x.d.toNat x.i.toNat (upd f x.d.toNat x.i) b).f (itE (LTr.ev K q) x.d.toNat x.i.toNat (upd f x.d.toNat x.i) b).b).after ((itE (LTr.ev K q) x.d.toNat x.i.toNat (upd f x.d.toNat x.i) b).n + 1)
theorem upd_at (f : Nat → Int) (c : Nat) (v : Int) : upd f c v c = v := by unfold upd; rw [if_pos rfl]
theorem upd_ne {f : Nat → Int} {c d : Nat} {v : Int} (h : d ≠ c) : upd f c v d = f d := by unfold upd; rw [if_neg h]
theorem doR_loop {K : Bk} {x : Q5} {f : Nat → Int} {b : List Nat} (h : x.o = 23) (hi : 1 ≤ x.i ∧ x.i ≤ 100000) : doR K x f b = ⟨0, upd f x.d.toNat x.i, b⟩ := by
  unfold doR
  rw [if_pos (Or.inr h)]
  have : valR x f = x.i := by
    unfold valR
    rw [if_pos (Or.inr h)]
    omega
  rw [this]
/-- what isn't set stays -/
theorem it_keeps {g : (Nat → Int) → List Nat → LOu} {c d : Nat} (hg : ∀ f b, (g f b).f d = f d) (hd : d ≠ c) : ∀ k f b, (itE g c k f b).f d = f d
  | 0, f, b => rfl
  | k + 1, f, b => by
    unfold itE
    split
    · exact hg f b
    · show (itE g c k _ _).f d = _
      rw [it_keeps hg hd k, upd_ne hd, hg]
theorem ev_keeps {K : Bk} {c : Nat} : ∀ (T : LTr), T.wf → (∀ z ∈ T.flat, canS z = true) → FreeOf (c : Int) T.flat → ∀ f b, (T.ev K f b).f c = f c
  | .nil, _, _, _, f, b => rfl
  | .step x r, hw, hc, hf, f, b => by
    have hx : (doR K x f b).f c = f c := doR_other (hc x (by simp [LTr.flat])) (hf x (by simp [LTr.flat]) hw.2.1)
    unfold LTr.ev
    split
    · rfl
    · show (LTr.ev K r _ _).f c = _
      rw [ev_keeps r hw.2.2 (fun z hz => hc z (by simp [LTr.flat, hz])) (fun z hz => hf z (by simp [LTr.flat, hz])), hx]
  | .loop x y q r, hw, hc, hf, f, b => by
    have hcx := hc x (by simp [LTr.flat])
    have hne : c ≠ x.d.toNat := by
      have hd := can_d hcx
      have e := writes_of hcx (Or.inr hw.1)
      have := hf x (by simp [LTr.flat]) (by have := hw.1; omega) (by rw [e]; omega)
      rw [e] at this
      omega
    have hq : ∀ f b, (LTr.ev K q f b).f c = f c := ev_keeps q hw.2.2.1 (fun z hz => hc z (by simp [LTr.flat, hz])) (fun z hz => hf z (by simp [LTr.flat, hz]))
    have hit := it_keeps hq hne x.i.toNat (upd f x.d.toNat x.i) b
    rw [upd_ne hne] at hit
    unfold LTr.ev
    split
    · exact hit
    · show (LTr.ev K r _ _).f c = _
      rw [ev_keeps r hw.2.2.2 (fun z hz => hc z (by simp [LTr.flat, hz])) (fun z hz => hf z (by simp [LTr.flat, hz])), hit]
/-- the machine comes from one place to another one, or to a trap between -/
def GoesTo (K : Bk) (l : List Q5) (E : List Int) (a e : Nat) (f : Nat → Int) (b : List Nat) (o : LOu) : Prop :=
  (o.t = 0 → RchL K l E o.n ⟨a, f, b⟩ ⟨e, o.f, o.b⟩) ∧ (o.t ≠ 0 → ∃ p, p < l.length ∧ RchL K l E o.n ⟨a, f, b⟩ ⟨p, o.f, o.b⟩ ∧ (stepL K l E ⟨p, o.f, o.b⟩).1 = o.t)
theorem GoesTo.after {K : Bk} {l : List Q5} {E : List Int} {a a' e n : Nat} {f f' : Nat → Int} {b b' : List Nat} {o : LOu} (h : RchL K l E n ⟨a, f, b⟩ ⟨a', f', b'⟩) (g : GoesTo K l E a' e f' b' o) : GoesTo K l E a e f b (o.after n) := by
  refine ⟨fun ht => ?_, fun ht => ?_⟩
  · have := h.trans (g.1 ht)
    rw [Nat.add_comm] at this
    exact this
  · obtain ⟨p, h1, h2, h3⟩ := g.2 ht
    have := h.trans h2
    rw [Nat.add_comm] at this
    exact ⟨p, h1, this, h3⟩
theorem it_go {K : Bk} {l : List Q5} {E : List Int} {g : (Nat → Int) → List Nat → LOu} {a e c : Nat} (hb : ∀ f b, GoesTo K l E a e f b (g f b)) (hk : ∀ f b, (g f b).f c = f c) (hel : e < l.length)
    (hend : ∀ f b, stepL K l E ⟨e, f, b⟩ = (0, ⟨if (f c - 1) % 4294967296 = 0 then e + 1 else a, upd f c ((f c - 1) % 4294967296), b⟩)) :
    ∀ k : Nat, 1 ≤ k → k ≤ 100000 → ∀ f b, f c = (k : Int) → GoesTo K l E a (e + 1) f b (itE g c k f b)
  | 0, h, _, _, _, _ => by omega
  | k + 1, _, hle, f, b, hf => by
    have h1 := hb f b
    have h2 := hk f b
    unfold itE
    by_cases ht : (g f b).t ≠ 0
    · rw [if_pos ht]
      exact ⟨fun h => absurd h ht, h1.2⟩
    · rw [if_neg ht]
      have hr := h1.1 (by simpa using ht)
      have hs := hend (g f b).f (g f b).b
      have hv : ((g f b).f c - 1) % 4294967296 = (k : Int) := by rw [h2, hf]; omega
      rw [hv] at hs ⊢
      have hr2 := hr.snoc hel (by rw [hs])
      rw [hs] at hr2
      cases k with
      | zero =>
        have hr2 : RchL K l E ((g f b).n + 1) ⟨a, f, b⟩ ⟨e + 1, upd (g f b).f c ((0 : Nat) : Int), (g f b).b⟩ := hr2
        exact .after hr2 ⟨fun _ => .refl _, fun h => absurd rfl h⟩
      | succ k =>
        have hr2 : RchL K l E ((g f b).n + 1) ⟨a, f, b⟩ ⟨a, upd (g f b).f c ((k + 1 : Nat) : Int), (g f b).b⟩ := by
          have e0 : ¬ (((k + 1 : Nat) : Int) = 0) := by omega
          simp only [if_neg e0] at hr2
          exact hr2
        exact .after hr2 (it_go hb hk hel hend (k + 1) (by omega) (by omega) _ _ (upd_at _ _ _))
theorem endG_tree : ∀ (T : LTr), T.wf → ∀ (rest : List Q5) (a n : Nat), endG (T.flat ++ rest) a n = endG rest (a + T.flat.length) n
  | .nil, _, rest, a, n => rfl
  | .step x r, hw, rest, a, n => by
    have e : endG (x :: (r.flat ++ rest)) a n = endG (r.flat ++ rest) (a + 1) n := by
      rw [endG, if_neg hw.2.1, if_neg hw.1]
    rw [show (LTr.step x r).flat ++ rest = x :: (r.flat ++ rest) from rfl, e, endG_tree r hw.2.2, show (LTr.step x r).flat.length = r.flat.length + 1 from rfl, show a + 1 + r.flat.length = a + (r.flat.length + 1) by omega]
  | .loop x y q r, hw, rest, a, n => by
    have e : (LTr.loop x y q r).flat ++ rest = x :: (q.flat ++ (y :: (r.flat ++ rest))) := by simp [LTr.flat]
    have e1 : endG (x :: (q.flat ++ (y :: (r.flat ++ rest)))) a n = endG (q.flat ++ (y :: (r.flat ++ rest))) (a + 1) (n + 1) := by
      rw [endG, if_neg (by rw [hw.1]; decide), if_pos hw.1]
    have e2 : ∀ m, endG (y :: (r.flat ++ rest)) m (n + 1) = endG (r.flat ++ rest) (m + 1) n := fun m => by
      rw [endG, if_pos hw.2.1, if_neg (by omega), Nat.add_sub_cancel]
    have e3 : (LTr.loop x y q r).flat.length = q.flat.length + r.flat.length + 2 := by simp [LTr.flat]; omega
    rw [e, e1, endG_tree q hw.2.2.1, e2, endG_tree r hw.2.2.2, e3, show a + 1 + q.flat.length + 1 + r.flat.length = a + (q.flat.length + r.flat.length + 2) by omega]
theorem go_tree {K : Bk} {l : List Q5} {E : List Int} (hE : endsS l = some E) (hc : ∀ x ∈ l, canS x = true) : ∀ (T : LTr) (A B : List Q5), l = A ++ (T.flat ++ B) → T.wf → T.good → ∀ f b, GoesTo K l E A.length (A.length + T.flat.length) f b (T.ev K f b)
  | .nil, A, B, hl, _, _, f, b => ⟨fun _ => .refl _, fun h => absurd rfl h⟩
  | .step x r, A, B, hl, hw, hg, f, b => by
    have hx : l[A.length]? = some x := by rw [hl]; simp [LTr.flat]
    have hA : A.length < l.length := at_lt hx
    have hs := step_plain (K := K) (E := E) (s := ⟨A.length, f, b⟩) hx hw.2.1
    unfold LTr.ev
    by_cases ht : (doR K x f b).t ≠ 0
    · rw [if_pos ht] at hs ⊢
      exact ⟨fun h => absurd h ht, fun _ => ⟨A.length, hA, .refl _, by rw [hs]⟩⟩
    · rw [if_neg ht] at hs ⊢
      have h1 : RchL K l E 1 ⟨A.length, f, b⟩ ⟨A.length + 1, (doR K x f b).f, (doR K x f b).b⟩ := by
        have := RchL.one (K := K) (l := l) (E := E) (a := ⟨A.length, f, b⟩) hA (by rw [hs])
        rw [hs] at this
        exact this
      have h2 := go_tree (K := K) hE hc r (A ++ [x]) B (by rw [hl]; simp [LTr.flat]) hw.2.2 hg (doR K x f b).f (doR K x f b).b
      rw [List.length_append, List.length_singleton] at h2
      show GoesTo K l E A.length (A.length + (r.flat.length + 1)) f b _
      rw [show A.length + (r.flat.length + 1) = A.length + 1 + r.flat.length by omega]
      exact .after h1 h2
  | .loop x y q r, A, B, hl, hw, hg, f, b => by
    have hl2 : l = A ++ (x :: (q.flat ++ (y :: (r.flat ++ B)))) := by rw [hl]; simp [LTr.flat]
    have hx : l[A.length]? = some x := by rw [hl2]; simp
    have hA : A.length < l.length := at_lt hx
    have hcx := hc x (List.mem_of_getElem? hx)
    have okx := ok_of_can hcx
    have hlo := okx.lo hw.1
    have hd := can_d hcx
    have hy : l[A.length + 1 + q.flat.length]? = some y := by
      rw [hl2, List.getElem?_append_right (by omega), show A.length + 1 + q.flat.length - A.length = q.flat.length + 1 by omega]
      simp
    have hel := at_lt hy
    have hm : mate l A.length = some (A.length + 1 + q.flat.length) := by
      unfold mate
      have : l.drop (A.length + 1) = q.flat ++ (y :: (r.flat ++ B)) := by rw [hl2, List.drop_append]; simp
      rw [this, endG_tree q hw.2.2.1]
      unfold endG
      rw [if_pos hw.2.1, if_pos rfl]
    obtain ⟨_, g2, _⟩ := ends_facts hE
    obtain ⟨k, hk, _, hE2⟩ := g2 A.length x hx hw.1
    rw [hm] at hk
    injection hk with hk
    subst hk
    have hend : ∀ f b, stepL K l E ⟨A.length + 1 + q.flat.length, f, b⟩ = (0, ⟨if (f x.d.toNat - 1) % 4294967296 = 0 then A.length + 1 + q.flat.length + 1 else A.length + 1, upd f x.d.toNat ((f x.d.toNat - 1) % 4294967296), b⟩) := by
      intro f b
      have e1 : bgL E (A.length + 1 + q.flat.length) = A.length := by unfold bgL; rw [List.getD, hE2]; rfl
      have e2 : cnL l E (A.length + 1 + q.flat.length) = x.d.toNat := by unfold cnL dOf; rw [e1, hx]; rfl
      rw [stepL_at (s := ⟨A.length + 1 + q.flat.length, f, b⟩) hy]
      unfold stepX
      dsimp only
      rw [if_pos hw.2.1, e1, e2]
    have h0 : RchL K l E 1 ⟨A.length, f, b⟩ ⟨A.length + 1, upd f x.d.toNat x.i, b⟩ := by
      have hs := step_plain (K := K) (E := E) (s := ⟨A.length, f, b⟩) hx (by have := hw.1; omega)
      rw [doR_loop hw.1 hlo, if_neg (by simp)] at hs
      have := RchL.one (K := K) (l := l) (E := E) (a := ⟨A.length, f, b⟩) hA (by rw [hs])
      rw [hs] at this
      exact this
    have hq := go_tree (K := K) hE hc q (A ++ [x]) (y :: (r.flat ++ B)) (by rw [hl2]; simp) hw.2.2.1 hg.2.1
    simp only [List.length_append, List.length_singleton] at hq
    have hqm : ∀ z ∈ q.flat, canS z = true := fun z hz => hc z (by rw [hl2]; simp [hz])
    have hkeep : ∀ f b, (LTr.ev K q f b).f x.d.toNat = f x.d.toNat := ev_keeps q hw.2.2.1 hqm (by
      have : ((x.d.toNat : Nat) : Int) = x.d := by omega
      rw [this]; exact hg.1)
    have hit := it_go (K := K) (l := l) (E := E) hq hkeep hel hend x.i.toNat (by omega) (by omega) (upd f x.d.toNat x.i) b (by rw [upd_at]; omega)
    have h1 := GoesTo.after h0 hit
    have hr := fun f b => go_tree (K := K) hE hc r (A ++ (x :: (q.flat ++ [y]))) B (by rw [hl2]; simp) hw.2.2.2 hg.2.2 f b
    simp only [List.length_append, List.length_cons, List.length_nil] at hr
    have hlen : (LTr.loop x y q r).flat.length = q.flat.length + r.flat.length + 2 := by simp [LTr.flat]; omega
    rw [hlen]
    unfold LTr.ev
    by_cases ht : (itE (LTr.ev K q) x.d.toNat x.i.toNat (upd f x.d.toNat x.i) b).t ≠ 0
    · rw [if_pos ht]
      exact ⟨fun h => absurd h ht, h1.2⟩
    · rw [if_neg ht]
      have ht0 : (itE (LTr.ev K q) x.d.toNat x.i.toNat (upd f x.d.toNat x.i) b).t = 0 := by simpa using ht
      have h2 := h1.1 ht0
      have h3 := hr (itE (LTr.ev K q) x.d.toNat x.i.toNat (upd f x.d.toNat x.i) b).f (itE (LTr.ev K q) x.d.toNat x.i.toNat (upd f x.d.toNat x.i) b).b
      rw [show A.length + (q.flat.length + r.flat.length + 2) = A.length + (q.flat.length + (0 + 1) + 1) + r.flat.length by omega]
      refine GoesTo.after ?_ h3
      rw [show A.length + (q.flat.length + (0 + 1) + 1) = A.length + 1 + q.flat.length + 1 by omega]
      exact h2
/-- loops that end make a tree -/
theorem bal_tree {l : List Q5} {a b : Nat} (h : Bal l a b) : ∃ T : LTr, T.wf ∧ l.drop a = T.flat ++ l.drop b := by
  induction h with
  | nil a => exact ⟨.nil, trivial, rfl⟩
  | plain a b x hx h23 h24 _ ih =>
    obtain ⟨T, h1, h2⟩ := ih
    exact ⟨.step x T, ⟨h23, h24, h1⟩, by rw [drop_at hx, h2]; rfl⟩
  | loop a e b x y hx h23 _ _ hy h24 _ i1 i2 =>
    obtain ⟨T, h1, h2⟩ := i1
    obtain ⟨R, h3, h4⟩ := i2
    exact ⟨.loop x y T R, ⟨h23, h24, h1, h3⟩, by rw [drop_at hx, h2, drop_at hy, h4]; simp [LTr.flat]⟩
theorem tree_of {l : List Q5} {E : List Int} (h : endsS l = some E) : ∃ T : LTr, T.wf ∧ l = T.flat := by
  obtain ⟨T, h1, h2⟩ := bal_tree (bal_all h)
  exact ⟨T, h1, by simpa using h2⟩
theorem good_run : ∀ (T : LTr), T.wf → ∀ (rest : List Q5) (cs : List Int) (q : List Int), runC (T.flat ++ rest) cs = some q → (∀ c ∈ cs, FreeOf c T.flat) ∧ T.good ∧ runC rest cs = some q
  | .nil, _, rest, cs, q, h => ⟨fun c _ z hz => by simp [LTr.flat] at hz, trivial, h⟩
  | .step x r, hw, rest, cs, q, h => by
    have h' : runC (x :: (r.flat ++ rest)) cs = some q := h
    unfold runC stepC at h'
    rw [if_neg hw.2.1] at h'
    by_cases hx : writesS x ≠ -1 ∧ writesS x ∈ cs
    · rw [if_pos hx] at h'; cases h'
    · rw [if_neg hx, if_neg hw.1] at h'
      obtain ⟨g1, g2, g3⟩ := good_run r hw.2.2 rest cs q h'
      refine ⟨fun c hc z hz h24 hw1 hw2 => ?_, g2, g3⟩
      rcases List.mem_cons.1 (show z ∈ x :: r.flat from hz) with rfl | hz
      · exact hx ⟨hw1, hw2 ▸ hc⟩
      · exact g1 c hc z hz h24 hw1 hw2
  | .loop x y b r, hw, rest, cs, q, h => by
    have h' : runC (x :: (b.flat ++ (y :: (r.flat ++ rest)))) cs = some q := by
      have e : (LTr.loop x y b r).flat ++ rest = x :: (b.flat ++ (y :: (r.flat ++ rest))) := by simp [LTr.flat]
      rw [← e]; exact h
    unfold runC stepC at h'
    rw [if_neg (by rw [hw.1]; decide)] at h'
    by_cases hx : writesS x ≠ -1 ∧ writesS x ∈ cs
    · rw [if_pos hx] at h'; cases h'
    · rw [if_neg hx, if_pos hw.1] at h'
      by_cases hl : cs.length = 10
      · rw [if_pos hl] at h'; cases h'
      · rw [if_neg hl] at h'
        obtain ⟨g1, g2, g3⟩ := good_run b hw.2.2.1 _ _ q h'
        unfold runC stepC at g3
        rw [if_pos hw.2.1] at g3
        simp only [List.dropLast_concat] at g3
        obtain ⟨k1, k2, k3⟩ := good_run r hw.2.2.2 rest cs q g3
        refine ⟨fun c hc z hz h24 hw1 hw2 => ?_, ⟨g1 x.d (by simp), g2, k2⟩, k3⟩
        rcases List.mem_cons.1 (show z ∈ x :: (b.flat ++ y :: r.flat) from hz) with rfl | hz
        · exact hx ⟨hw1, hw2 ▸ hc⟩
        rcases List.mem_append.1 hz with hz | hz
        · exact g1 c (by simp [hc]) z hz h24 hw1 hw2
        rcases List.mem_cons.1 hz with rfl | hz
        · exact h24 hw.2.1
        · exact k1 c hc z hz h24 hw1 hw2
theorem good_of {l : List Q5} {T : LTr} (hw : T.wf) (hl : l = T.flat) (hr : countedS l = true) : T.good := by
  unfold countedS at hr
  obtain ⟨q, hq⟩ := Option.isSome_iff_exists.1 hr
  exact (good_run T hw [] [] q (by rw [List.append_nil, ← hl]; exact hq)).2.1
/-- less than so many steps were done: the run came to its end -/
theorem run_short {K : Bk} {l : List Q5} {E : List Int} {n : Nat} {a b : LS} (h : RchL K l E n a b) : ∀ k, k ≤ n → (runL K l E k a).n = k := by
  induction h with
  | refl s =>
    intro k hk
    obtain rfl : k = 0 := by omega
    rfl
  | step n s s' h1 h2 _ ih =>
    intro k hk
    cases k with
    | zero => rfl
    | succ k =>
      rw [runL_succ, if_neg (by omega), if_neg (by rw [h2]; simp)]
      show (runL K l E k _).n + 1 = k + 1
      rw [ih k (by omega)]
/-- what a program's run comes to, out of its tree -/
theorem run_tree {K : Bk} {l : List Q5} {E : List Int} (hE : endsS l = some E) (hc : ∀ x ∈ l, canS x = true) {T : LTr} (hl : l = T.flat) (hw : T.wf) (hg : T.good) (f : Nat → Int) (b : List Nat) (k : Nat) :
    (k ≤ (T.ev K f b).n ∧ (runL K l E k ⟨0, f, b⟩).n = k) ∨
    ((T.ev K f b).n < k ∧ (runL K l E k ⟨0, f, b⟩).n = (T.ev K f b).n ∧ (runL K l E k ⟨0, f, b⟩).t = (T.ev K f b).t ∧ (runL K l E k ⟨0, f, b⟩).s.f = (T.ev K f b).f ∧ (runL K l E k ⟨0, f, b⟩).s.b = (T.ev K f b).b) := by
  have h := go_tree (K := K) hE hc T [] [] (by simpa using hl) hw hg f b
  generalize T.ev K f b = o at *
  simp only [List.length_nil, Nat.zero_add, ← hl] at h
  by_cases ht : o.t = 0
  · have hr := h.1 ht
    by_cases hk : k ≤ o.n
    · exact .inl ⟨hk, run_short hr k hk⟩
    · refine .inr ⟨by omega, ?_⟩
      have := run_end hr (k - o.n) (.inl (Nat.le_refl _))
      rw [show o.n + (k - o.n) = k by omega] at this
      rw [this]
      exact ⟨rfl, ht.symm, rfl, rfl⟩
  · obtain ⟨p, h1, h2, h3⟩ := h.2 ht
    by_cases hk : k ≤ o.n
    · exact .inl ⟨hk, run_short h2 k hk⟩
    · refine .inr ⟨by omega, ?_⟩
      have := run_trap h2 (k - o.n - 1) h1 (by rw [h3]; exact ht)
      rw [show o.n + (k - o.n - 1 + 1) = k by omega] at this
      rw [this, h3]
      exact ⟨rfl, rfl, rfl, rfl⟩
end Go.Proofs.Ytlieapapmkbbgaa
