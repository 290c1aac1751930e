/- What tidying leaves does what the program does, in no more steps: the mathematics. -/
import Derived.Test.YtlieapapmkbbgaaPsA
import Derived.Test.YtlieapapmkbbgaaGP
namespace Go.Proofs.Ytlieapapmkbbgaa
open Go Go.RowKit Pl
set_option linter.unusedVariables false

theorem ev_step (K : Bk) (x : Q5) (r : LTr) (f : Nat → Int) (b : List Nat) : LTr.ev K (.step x r) f b = if (doR K x f b).t ≠ 0 then ⟨0, (doR K x f b).t, f, b⟩ else (LTr.ev K r (doR K x f b).f (doR K x f b).b).after 1 := rfl
theorem ev_loop (K : Bk) (x y : Q5) (q r : LTr) (f : Nat → Int) (b : List Nat) : LTr.ev K (.loop x y q r) f b = if (itE (LTr.ev K q) x.d.toNat x.i.toNat (upd f x.d.toNat x.i) b).t ≠ 0 then (itE (LTr.ev K q) x.d.toNat x.i.toNat (upd f x.d.toNat x.i) b).after 1
    else (LTr.ev K r (itE (LTr.ev K q) x.d.toNat x.i.toNat (upd f x.d.toNat x.i) b).f (itE (LTr.ev K q) x.d.toNat x.i.toNat (upd f x.d.toNat x.i) b).b).after ((itE (LTr.ev K q) x.d.toNat x.i.toNat (upd f x.d.toNat x.i) b).n + 1) := rfl
/-- what variables and bytes can be -/
def StOk (f : Nat → Int) (b : List Nat) : Prop := WordsF f ∧ ∀ x ∈ b, x < 256
def FlOk (K : Bk) : Prop := ∀ x ∈ K.Fb, x < 256
theorem doR_bytes {K : Bk} {x : Q5} {f : Nat → Int} {b : List Nat} (hb : ∀ x ∈ b, x < 256) : ∀ y ∈ (doR K x f b).b, y < 256 := by
  unfold doR
  split
  · exact hb
  split
  · split <;> exact hb
  split
  · split
    · exact hb
    · show ∀ y ∈ ramS _ _ _ _ _ _, y < 256
      unfold ramS
      split
      · intro y hy
        unfold setB at hy
        rcases List.mem_append.1 hy with hy | hy
        · rcases List.mem_append.1 hy with hy | hy
          · exact hb y (List.mem_of_mem_take hy)
          · exact lowB_lt _ _ y hy
        · exact hb y (List.mem_of_mem_drop hy)
      · exact hb
  · exact hb
theorem doR_ok {K : Bk} {x : Q5} {f : Nat → Int} {b : List Nat} (hK : FlOk K) (h : StOk f b) : StOk (doR K x f b).f (doR K x f b).b := ⟨words_doRV h.1 hK h.2, doR_bytes h.2⟩
/-- the same, in no more steps -/
structure LOu.le (o o' : LOu) : Prop where
  n : o.n ≤ o'.n
  t : o.t = o'.t
  f : o.f = o'.f
  b : o.b = o'.b
theorem LOu.le_refl (o : LOu) : o.le o := ⟨Nat.le_refl _, rfl, rfl, rfl⟩
theorem LOu.le.trans {a b c : LOu} (h : a.le b) (g : b.le c) : a.le c := ⟨Nat.le_trans h.n g.n, h.t.trans g.t, h.f.trans g.f, h.b.trans g.b⟩
theorem LOu.le.after {a b : LOu} (h : a.le b) {m n : Nat} (hm : m ≤ n) : (a.after m).le (b.after n) := ⟨Nat.add_le_add h.n hm, h.t, h.f, h.b⟩
theorem it_ok {g : (Nat → Int) → List Nat → LOu} {c : Nat} (hg : ∀ f b, StOk f b → StOk (g f b).f (g f b).b) : ∀ k f b, StOk f b → StOk (itE g c k f b).f (itE g c k f b).b
  | 0, f, b, h => h
  | k + 1, f, b, h => by
    unfold itE
    have h1 := hg f b h
    split
    · exact h1
    · exact it_ok hg k _ _ ⟨wordsF_upd h1.1 _ ⟨Int.emod_nonneg _ (by omega), Int.emod_lt_of_pos _ (by omega)⟩, h1.2⟩
theorem it_le {g g' : (Nat → Int) → List Nat → LOu} {c : Nat} (hg : ∀ f b, StOk f b → StOk (g f b).f (g f b).b) (hs : ∀ f b, StOk f b → (g' f b).le (g f b)) : ∀ k f b, StOk f b → (itE g' c k f b).le (itE g c k f b)
  | 0, f, b, h => LOu.le_refl _
  | k + 1, f, b, h => by
    have h1 := hg f b h
    have h2 := hs f b h
    unfold itE
    rw [h2.t, h2.f, h2.b]
    split
    · exact h2
    · exact (it_le hg hs k _ _ ⟨wordsF_upd h1.1 _ ⟨Int.emod_nonneg _ (by omega), Int.emod_lt_of_pos _ (by omega)⟩, h1.2⟩).after (by have := h2.n; omega)
def AllCan (T : LTr) : Prop := ∀ z ∈ T.flat, canS z = true
theorem loop_ok {x : Q5} {f : Nat → Int} {b : List Nat} (hc : canS x = true) (h23 : x.o = 23) (h : StOk f b) : StOk (upd f x.d.toNat x.i) b := by
  have := (ok_of_can hc).lo h23
  exact ⟨wordsF_upd h.1 _ (by omega), h.2⟩
theorem ev_ok {K : Bk} (hK : FlOk K) : ∀ (T : LTr), T.wf → AllCan T → ∀ f b, StOk f b → StOk (T.ev K f b).f (T.ev K f b).b
  | .nil, _, _, f, b, h => h
  | .step x r, hw, hc, f, b, h => by
    rw [ev_step]
    split
    · exact h
    · exact ev_ok hK r hw.2.2 (fun z hz => hc z (by simp [LTr.flat, hz])) _ _ (doR_ok hK h)
  | .loop x y q r, hw, hc, f, b, h => by
    have h1 := it_ok (c := x.d.toNat) (fun f b h => ev_ok hK q hw.2.2.1 (fun z hz => hc z (by simp [LTr.flat, hz])) f b h) x.i.toNat _ _ (loop_ok (hc x (by simp [LTr.flat])) hw.1 h)
    rw [ev_loop]
    split
    · exact h1
    · exact ev_ok hK r hw.2.2.2 (fun z hz => hc z (by simp [LTr.flat, hz])) _ _ h1
/-- T' does what T does -/
def LSim (K : Bk) (T T' : LTr) : Prop := ∀ f b, StOk f b → (T'.ev K f b).le (T.ev K f b)
theorem LSim.refl (K : Bk) (T : LTr) : LSim K T T := fun f b _ => LOu.le_refl _
theorem LSim.trans {K : Bk} {A B C : LTr} (h : LSim K A B) (g : LSim K B C) : LSim K A C := fun f b hs => (g f b hs).trans (h f b hs)
theorem sim_step {K : Bk} (hK : FlOk K) {x : Q5} {r r' : LTr} (h : LSim K r r') : LSim K (.step x r) (.step x r') := fun f b hs => by
  rw [ev_step, ev_step]
  split
  · exact LOu.le_refl _
  · exact (h _ _ (doR_ok hK hs)).after (Nat.le_refl _)
theorem sim_loop {K : Bk} (hK : FlOk K) {x y : Q5} {q q' r r' : LTr} (hcx : canS x = true) (h23 : x.o = 23) (hqw : q.wf) (hqc : AllCan q) (h : LSim K q q') (g : LSim K r r') : LSim K (.loop x y q r) (.loop x y q' r') := fun f b hs => by
  have hs1 := loop_ok hcx h23 hs
  have hq := fun f b h => ev_ok hK q hqw hqc f b h
  have h1 := it_le (c := x.d.toNat) hq h x.i.toNat _ _ hs1
  have h2 := it_ok (c := x.d.toNat) hq x.i.toNat _ _ hs1
  rw [ev_loop, ev_loop, h1.t, h1.f, h1.b]
  split
  · exact h1.after (Nat.le_refl _)
  · exact (g _ _ h2).after (by have := h1.n; omega)
theorem emod_word {a : Int} (h : 0 ≤ a ∧ a < 4294967296) : a % 4294967296 = a := by omega
theorem sg_word {a : Int} (h : 0 ≤ a ∧ a < 4294967296) : sg a % 4294967296 = a := by unfold sg; split <;> omega
theorem upd_self (f : Nat → Int) (c : Nat) : upd f c (f c) = f := by
  funext d
  unfold upd
  split
  · next h => rw [h]
  · rfl
/-- an idle step changes nothing -/
theorem idle_doR {K : Bk} {x : Q5} {f : Nat → Int} {b : List Nat} (h : idleP x = true) (hf : WordsF f) : doR K x f b = ⟨0, f, b⟩ := by
  unfold idleP at h
  simp only [Bool.and_eq_true, decide_eq_true_eq] at h
  obtain ⟨⟨⟨h1, h2⟩, h3⟩, h4⟩ := h
  have hv : valR x f = f x.d.toNat := by
    have hw := hf x.d.toNat
    unfold valR
    rw [if_neg (by omega), ← h2, h3]
    by_cases e : x.o = 2
    · rw [if_pos e]
    · rw [if_neg e, if_pos (by omega)]
      generalize f x.d.toNat = v at *
      rcases (show x.o = 13 ∨ x.o = 14 ∨ x.o = 15 ∨ x.o = 16 by omega) with e | e | e | e <;> rw [e]
      · show (v + 0 % 4294967296) % 4294967296 = v
        omega
      · show v * 2 ^ (0 % 4294967296 % 32 : Int).toNat % 4294967296 = v
        simp
        omega
      · show v / 2 ^ (0 % 4294967296 % 32 : Int).toNat = v
        simp
      · show sg v / 2 ^ (0 % 4294967296 % 32 : Int).toNat % 4294967296 = v
        simp
        exact sg_word hw
  unfold doR
  rw [if_pos (by omega), hv, upd_self]
theorem upd_upd (f : Nat → Int) (c : Nat) (u v : Int) : upd (upd f c u) c v = upd f c v := by
  funext d
  unfold upd
  split <;> rfl
theorem wr_mod (a i j : Int) : ((a + i % 4294967296) % 4294967296 + j % 4294967296) % 4294967296 = (a + wr32 (i + j) % 4294967296) % 4294967296 := by unfold wr32; omega
theorem wr_mod0 (i j : Int) : (i % 4294967296 + j % 4294967296) % 4294967296 = wr32 (i + j) % 4294967296 := by unfold wr32; omega
/-- two steps that become one -/
theorem join_doR {K : Bk} {y x z : Q5} {f : Nat → Int} {b : List Nat} (h : joinP y x = some z) (hy : canS y = true) (hx : canS x = true) :
    ∃ u, doR K y f b = ⟨0, u, b⟩ ∧ ∃ v, doR K x u b = ⟨0, v, b⟩ ∧ doR K z f b = ⟨0, v, b⟩ := by
  obtain ⟨j1, j2, j3, j4, j5, j6⟩ := join_some h hy hx
  have pl : ∀ (q : Q5) (g : Nat → Int), (q.o = 1 ∨ q.o = 13) → doR K q g b = ⟨0, upd g q.d.toNat (valR q g), b⟩ := fun q g hq => by
    unfold doR; rw [if_pos (by omega)]
  refine ⟨_, pl y f j1, _, pl x _ j6, ?_⟩
  rw [pl z f j2]
  congr 1
  rw [j4, ← j3, upd_upd]
  congr 1
  have v1 : ∀ (q : Q5) (g : Nat → Int), q.o = 1 → valR q g = q.i % 4294967296 := fun q g e => by unfold valR; rw [if_pos (Or.inl e)]
  have v13 : ∀ (q : Q5) (g : Nat → Int), q.o = 13 → valR q g = (g q.a.toNat + q.i % 4294967296) % 4294967296 := fun q g e => by
    unfold valR
    rw [if_neg (by omega), if_neg (by omega), if_pos (by omega), e]
    rfl
  unfold joinP at h
  rw [if_neg (by omega)] at h
  by_cases h1 : y.o = 1 ∧ x.o = 1
  · rw [if_pos h1] at h
    obtain rfl := Option.some.inj h
    rw [v1 x _ h1.2, v1 x _ h1.2]
  · rw [if_neg h1] at h
    split at h
    · rename_i h2
      obtain rfl := Option.some.inj h
      rcases h2 with ⟨e1, e2, e3, e4⟩ | ⟨e1, e3, e4⟩
      · rw [v13 x _ e3, v13 ⟨y.o, y.d, y.a, y.b, wr32 (y.i + x.i)⟩ f e1, e4, ← j3, upd_at, v13 y f e1]
        exact (wr_mod _ _ _).symm
      · rw [v13 x _ e3, v1 ⟨y.o, y.d, y.a, y.b, wr32 (y.i + x.i)⟩ f e1, e4, ← j3, upd_at, v1 y f e1]
        exact (wr_mod0 _ _).symm
    · cases h
theorem split_app {A B C D : List Q5} {x : Q5} (h : A ++ B = C ++ (x :: D)) : (∃ E, A = C ++ (x :: E) ∧ D = E ++ B) ∨ ∃ E, C = A ++ E ∧ B = E ++ (x :: D) := by
  rcases List.append_eq_append_iff.1 h with ⟨E, h1, h2⟩ | ⟨E, h1, h2⟩
  · exact .inr ⟨E, h1, h2⟩
  · cases E with
    | nil => exact .inr ⟨[], by simpa using h1.symm, by simpa using h2.symm⟩
    | cons y E =>
      obtain ⟨rfl, h3⟩ := List.cons.inj h2
      exact .inl ⟨E, h1, h3⟩
theorem all_step {x : Q5} {r : LTr} (h : AllCan (.step x r)) : AllCan r := fun z hz => h z (by simp [LTr.flat, hz])
theorem all_loopb {x y : Q5} {q r : LTr} (h : AllCan (.loop x y q r)) : AllCan q := fun z hz => h z (by simp [LTr.flat, hz])
theorem all_loopr {x y : Q5} {q r : LTr} (h : AllCan (.loop x y q r)) : AllCan r := fun z hz => h z (by simp [LTr.flat, hz])
/-- an idle step is left out -/
theorem drop_tree {K : Bk} (hK : FlOk K) : ∀ (T : LTr), T.wf → AllCan T → ∀ (A B : List Q5) (x : Q5), T.flat = A ++ (x :: B) → idleP x = true → ∃ T' : LTr, T'.wf ∧ T'.flat = A ++ B ∧ LSim K T T'
  | .nil, _, _, A, B, x, h, _ => by simp [LTr.flat] at h
  | .step u r, hw, hc, A, B, x, h, hi => by
    cases A with
    | nil =>
      obtain ⟨rfl, h2⟩ := List.cons.inj (show u :: r.flat = x :: B from h)
      refine ⟨r, hw.2.2, by simpa using h2, fun f b hs => ?_⟩
      have e := idle_doR (K := K) (b := b) hi hs.1
      show (r.ev K f b).le (LTr.ev K (.step u r) f b)
      rw [ev_step, e, if_neg (by simp)]
      exact ⟨Nat.le_succ _, rfl, rfl, rfl⟩
    | cons a A =>
      obtain ⟨rfl, h2⟩ := List.cons.inj (show u :: r.flat = a :: (A ++ (x :: B)) from h)
      obtain ⟨T', h3, h4, h5⟩ := drop_tree hK r hw.2.2 (all_step hc) A B x h2 hi
      exact ⟨.step u T', ⟨hw.1, hw.2.1, h3⟩, by simp [LTr.flat, h4], sim_step hK h5⟩
  | .loop u v q r, hw, hc, A, B, x, h, hi => by
    have hno : ∀ z : Q5, z.o = 23 ∨ z.o = 24 → idleP z = true → False := fun z hz hq => by rw [idle_loop hz] at hq; cases hq
    have hcu : canS u = true := hc u (by simp [LTr.flat])
    cases A with
    | nil =>
      obtain ⟨rfl, h2⟩ := List.cons.inj (show u :: (q.flat ++ v :: r.flat) = x :: B from h)
      exact (hno _ (Or.inl hw.1) hi).elim
    | cons a A =>
      obtain ⟨rfl, h2⟩ := List.cons.inj (show u :: (q.flat ++ v :: r.flat) = a :: (A ++ (x :: B)) from h)
      rcases split_app h2 with ⟨E, h3, h4⟩ | ⟨E, h3, h4⟩
      · obtain ⟨q', k1, k2, k3⟩ := drop_tree hK q hw.2.2.1 (all_loopb hc) A E x h3 hi
        exact ⟨.loop u v q' r, ⟨hw.1, hw.2.1, k1, hw.2.2.2⟩, by simp [LTr.flat, k2, h4], sim_loop hK hcu hw.1 hw.2.2.1 (all_loopb hc) k3 (.refl _ _)⟩
      · cases E with
        | nil =>
          obtain ⟨rfl, _⟩ := List.cons.inj (show v :: r.flat = x :: B from h4)
          exact (hno _ (Or.inr hw.2.1) hi).elim
        | cons e E =>
          obtain ⟨rfl, h5⟩ := List.cons.inj (show v :: r.flat = e :: (E ++ (x :: B)) from h4)
          obtain ⟨r', k1, k2, k3⟩ := drop_tree hK r hw.2.2.2 (all_loopr hc) E B x h5 hi
          exact ⟨.loop u v q r', ⟨hw.1, hw.2.1, hw.2.2.1, k1⟩, by simp [LTr.flat, k2, h3], sim_loop hK hcu hw.1 hw.2.2.1 (all_loopb hc) (.refl _ _) k3⟩
/-- a tree that begins with a plain step -/
theorem flat_head {T : LTr} (hw : T.wf) {x : Q5} {B : List Q5} (h : T.flat = x :: B) (h3 : x.o ≠ 23) : ∃ r, T = .step x r ∧ r.wf ∧ r.flat = B := by
  cases T with
  | nil => simp [LTr.flat] at h
  | step u r =>
    obtain ⟨rfl, h2⟩ := List.cons.inj (show u :: r.flat = x :: B from h)
    exact ⟨r, rfl, hw.2.2, h2⟩
  | loop u v q r =>
    obtain ⟨rfl, h2⟩ := List.cons.inj (show u :: (q.flat ++ v :: r.flat) = x :: B from h)
    exact absurd hw.1 h3
/-- two steps become one -/
theorem join_tree {K : Bk} (hK : FlOk K) : ∀ (T : LTr), T.wf → AllCan T → ∀ (A B : List Q5) (y x z : Q5), T.flat = A ++ (y :: x :: B) → joinP y x = some z → ∃ T' : LTr, T'.wf ∧ T'.flat = A ++ (z :: B) ∧ LSim K T T'
  | .nil, _, _, A, B, y, x, z, h, _ => by simp [LTr.flat] at h
  | .step u r, hw, hc, A, B, y, x, z, h, hj => by
    have hcy : canS y = true := hc y (by rw [h]; simp)
    have hcx : canS x = true := hc x (by rw [h]; simp)
    obtain ⟨j1, j2, j3, j4, j5, j6⟩ := join_some hj hcy hcx
    cases A with
    | nil =>
      obtain ⟨rfl, h2⟩ := List.cons.inj (show u :: r.flat = y :: x :: B from h)
      obtain ⟨r2, rfl, hw2, h3⟩ := flat_head hw.2.2 h2 (by omega)
      refine ⟨.step z r2, ⟨by omega, by omega, hw2⟩, by simp [LTr.flat, h3], fun f b hs => ?_⟩
      obtain ⟨p, e1, w, e2, e3⟩ := join_doR (K := K) (f := f) (b := b) hj hcy hcx
      show (LTr.ev K (.step z r2) f b).le (LTr.ev K (.step u (.step x r2)) f b)
      rw [ev_step K z, ev_step K u, e1, e3, if_neg (by simp), if_neg (by simp)]
      dsimp only
      rw [ev_step K x, e2, if_neg (by simp)]
      exact ⟨by show (LTr.ev K r2 w b).n + 1 ≤ (LTr.ev K r2 w b).n + 1 + 1; omega, rfl, rfl, rfl⟩
    | cons a A =>
      obtain ⟨rfl, h2⟩ := List.cons.inj (show u :: r.flat = a :: (A ++ (y :: x :: B)) from h)
      obtain ⟨T', h3, h4, h5⟩ := join_tree hK r hw.2.2 (all_step hc) A B y x z h2 hj
      exact ⟨.step u T', ⟨hw.1, hw.2.1, h3⟩, by simp [LTr.flat, h4], sim_step hK h5⟩
  | .loop u v q r, hw, hc, A, B, y, x, z, h, hj => by
    have hcy : canS y = true := hc y (by rw [h]; simp)
    have hcx : canS x = true := hc x (by rw [h]; simp)
    obtain ⟨j1, j2, j3, j4, j5, j6⟩ := join_some hj hcy hcx
    have hcu : canS u = true := hc u (by simp [LTr.flat])
    have hu := hw.1
    have hv := hw.2.1
    cases A with
    | nil =>
      obtain ⟨rfl, h2⟩ := List.cons.inj (show u :: (q.flat ++ v :: r.flat) = y :: x :: B from h)
      omega
    | cons a A =>
      obtain ⟨rfl, h2⟩ := List.cons.inj (show u :: (q.flat ++ v :: r.flat) = a :: (A ++ (y :: x :: B)) from h)
      rcases split_app h2 with ⟨E, h3, h4⟩ | ⟨E, h3, h4⟩
      · cases E with
        | nil =>
          obtain ⟨rfl, _⟩ := List.cons.inj (show x :: B = v :: r.flat by simpa using h4)
          omega
        | cons e E =>
          obtain ⟨rfl, h5⟩ := List.cons.inj (show x :: B = e :: (E ++ v :: r.flat) from h4)
          obtain ⟨q', k1, k2, k3⟩ := join_tree hK q hw.2.2.1 (all_loopb hc) A E y x z h3 hj
          exact ⟨.loop u v q' r, ⟨hw.1, hw.2.1, k1, hw.2.2.2⟩, by simp [LTr.flat, k2, h5], sim_loop hK hcu hw.1 hw.2.2.1 (all_loopb hc) k3 (.refl _ _)⟩
      · cases E with
        | nil =>
          obtain ⟨rfl, _⟩ := List.cons.inj (show v :: r.flat = y :: x :: B from h4)
          omega
        | cons e E =>
          obtain ⟨rfl, h5⟩ := List.cons.inj (show v :: r.flat = e :: (E ++ (y :: x :: B)) from h4)
          obtain ⟨r', k1, k2, k3⟩ := join_tree hK r hw.2.2.2 (all_loopr hc) E B y x z h5 hj
          exact ⟨.loop u v q r', ⟨hw.1, hw.2.1, hw.2.2.1, k1⟩, by simp [LTr.flat, k2, h3], sim_loop hK hcu hw.1 hw.2.2.1 (all_loopb hc) (.refl _ _) k3⟩
/-- a step put behind others -/
theorem put_tree {K : Bk} (hK : FlOk K) : ∀ (r : List Q5) (x : Q5) (xs : List Q5) (T : LTr), T.wf → AllCan T → T.flat = r.reverse ++ (x :: xs) → ∃ T' : LTr, T'.wf ∧ AllCan T' ∧ T'.flat = (putR r x).reverse ++ xs ∧ LSim K T T'
  | [], x, xs, T, hw, hc, h => by
    unfold putR
    by_cases hq : idleP x = true
    · obtain ⟨T', h1, h2, h3⟩ := drop_tree hK T hw hc [] xs x (by simpa using h) hq
      rw [if_pos hq]
      exact ⟨T', h1, fun z hz => hc z (by rw [h]; rw [h2] at hz; simp at hz; simp [hz]), by simpa using h2, h3⟩
    · rw [if_neg hq]
      exact ⟨T, hw, hc, by simpa using h, .refl _ _⟩
  | y :: r, x, xs, T, hw, hc, h => by
    unfold putR
    cases hj : joinP y x with
    | none =>
      simp only
      by_cases hq : idleP x = true
      · obtain ⟨T', h1, h2, h3⟩ := drop_tree hK T hw hc (y :: r).reverse xs x h hq
        rw [if_pos hq]
        exact ⟨T', h1, fun z hz => hc z (by rw [h]; rw [h2] at hz; simp at hz ⊢; rcases hz with hz | hz | hz <;> simp [hz]), h2, h3⟩
      · rw [if_neg hq]
        exact ⟨T, hw, hc, by rw [h]; simp, .refl _ _⟩
    | some z =>
      simp only
      have h' : T.flat = r.reverse ++ (y :: x :: xs) := by rw [h]; simp
      have hcy : canS y = true := hc y (by rw [h']; simp)
      have hcx : canS x = true := hc x (by rw [h']; simp)
      obtain ⟨_, _, _, _, j5, _⟩ := join_some hj hcy hcx
      obtain ⟨T1, h1, h2, h3⟩ := join_tree hK T hw hc r.reverse xs y x z h' hj
      obtain ⟨T2, k1, k2, k3, k4⟩ := put_tree hK r z xs T1 h1 (fun w hw' => by
        rw [h2] at hw'
        rcases List.mem_append.1 hw' with g | g
        · exact hc w (by rw [h']; simp at g ⊢; exact .inl g)
        · rcases List.mem_cons.1 g with rfl | g
          · exact j5
          · exact hc w (by rw [h']; simp [g])) h2
      exact ⟨T2, k1, k2, k3, h3.trans k4⟩
def convL (l : List Q5) (P : List Int) : List Q5 → Nat → List Q5
  | [], _ => []
  | x :: xs, k => convS l P k x :: convL l P xs (k + 1)
theorem conv_app (l : List Q5) (P : List Int) : ∀ (u v : List Q5) (k : Nat), convL l P (u ++ v) k = convL l P u k ++ convL l P v (k + u.length)
  | [], v, k => rfl
  | x :: u, v, k => by
    show convS l P k x :: convL l P (u ++ v) (k + 1) = convS l P k x :: (convL l P u (k + 1) ++ convL l P v (k + (u.length + 1)))
    rw [conv_app l P u v (k + 1), show k + 1 + u.length = k + (u.length + 1) by omega]
theorem tidy_tree {K : Bk} (hK : FlOk K) (l : List Q5) (P : List Int) : ∀ (xs : List Q5) (k : Nat) (r : List Q5) (T : LTr), T.wf → AllCan T → T.flat = r.reverse ++ convL l P xs k → ∃ T' : LTr, T'.wf ∧ T'.flat = (tidyR l P xs k r).reverse ∧ LSim K T T'
  | [], k, r, T, hw, hc, h => ⟨T, hw, by simpa [convL, tidyR] using h, .refl _ _⟩
  | x :: xs, k, r, T, hw, hc, h => by
    obtain ⟨T1, h1, h2, h3, h4⟩ := put_tree hK r (convS l P k x) (convL l P xs (k + 1)) T hw hc h
    obtain ⟨T2, k1, k2, k3⟩ := tidy_tree hK l P xs (k + 1) (putR r (convS l P k x)) T1 h1 h2 h3
    exact ⟨T2, k1, k2, h4.trans k3⟩
def LTr.app : LTr → LTr → LTr
  | .nil, R => R
  | .step x r, R => .step x (r.app R)
  | .loop x y q r, R => .loop x y q (r.app R)
theorem app_flat (R : LTr) : ∀ T : LTr, (T.app R).flat = T.flat ++ R.flat
  | .nil => rfl
  | .step x r => by simp [LTr.app, LTr.flat, app_flat R r]
  | .loop x y q r => by simp [LTr.app, LTr.flat, app_flat R r]
theorem app_wf {R : LTr} (hR : R.wf) : ∀ T : LTr, T.wf → (T.app R).wf
  | .nil, _ => hR
  | .step x r, h => ⟨h.1, h.2.1, app_wf hR r h.2.2⟩
  | .loop x y q r, h => ⟨h.1, h.2.1, h.2.2.1, app_wf hR r h.2.2.2⟩
theorem after_after (o : LOu) (m n : Nat) : (o.after m).after n = o.after (m + n) := by unfold LOu.after; simp [Nat.add_assoc]
theorem app_ev {K : Bk} (R : LTr) : ∀ (T : LTr) (f : Nat → Int) (b : List Nat), (T.app R).ev K f b = if (T.ev K f b).t ≠ 0 then T.ev K f b else (R.ev K (T.ev K f b).f (T.ev K f b).b).after (T.ev K f b).n
  | .nil, f, b => by
    show R.ev K f b = if (0 : Int) ≠ 0 then _ else (R.ev K f b).after 0
    rw [if_neg (by simp)]
    rfl
  | .step x r, f, b => by
    show LTr.ev K (.step x (r.app R)) f b = _
    rw [ev_step, ev_step]
    by_cases ht : (doR K x f b).t ≠ 0
    · rw [if_pos ht, if_pos ht]
      rw [if_pos ht]
    · rw [if_neg ht, if_neg ht, app_ev R r]
      show LOu.after _ 1 = if (r.ev K (doR K x f b).f (doR K x f b).b).t ≠ 0 then _ else _
      split
      · rfl
      · rw [after_after]; rfl
  | .loop x y q r, f, b => by
    show LTr.ev K (.loop x y q (r.app R)) f b = _
    rw [ev_loop, ev_loop]
    generalize itE (LTr.ev K q) x.d.toNat x.i.toNat (upd f x.d.toNat x.i) b = o
    by_cases ht : o.t ≠ 0
    · rw [if_pos ht, if_pos ht]
      rw [if_pos (by exact ht)]
    · rw [if_neg ht, if_neg ht, app_ev R r]
      show LOu.after _ (o.n + 1) = if (r.ev K o.f o.b).t ≠ 0 then _ else _
      split
      · rfl
      · rw [after_after]; rfl
/-- loops of one round become what stands in them, between two numbers that are set -/
theorem conv_tree {K : Bk} (hK : FlOk K) {l : List Q5} {P : List Int} (hP : endsS l = some P) (hc : ∀ x ∈ l, canS x = true) : ∀ (T : LTr) (A B : List Q5), l = A ++ (T.flat ++ B) → T.wf → T.good →
    ∃ T' : LTr, T'.wf ∧ T'.flat = convL l P T.flat A.length ∧ LSim K T T'
  | .nil, A, B, hl, _, _ => ⟨.nil, trivial, rfl, .refl _ _⟩
  | .step x r, A, B, hl, hw, hg => by
    obtain ⟨r', h1, h2, h3⟩ := conv_tree hK hP hc r (A ++ [x]) B (by rw [hl]; simp [LTr.flat]) hw.2.2 hg
    rw [List.length_append, List.length_singleton] at h2
    have e : convS l P A.length x = x := by unfold convS; rw [if_neg (fun h => hw.1 h.1), if_neg (fun h => hw.2.1 h.1)]
    exact ⟨.step x r', ⟨hw.1, hw.2.1, h1⟩, by show x :: r'.flat = convS l P A.length x :: convL l P r.flat (A.length + 1); rw [e, h2], sim_step hK h3⟩
  | .loop x y q r, A, B, hl, hw, hg => by
    have hl2 : l = A ++ (x :: (q.flat ++ (y :: (r.flat ++ B)))) := by rw [hl]; simp [LTr.flat]
    have hx : l[A.length]? = some x := by rw [hl2]; simp
    have hcx := hc x (List.mem_of_getElem? hx)
    have hlo := (ok_of_can hcx).lo hw.1
    have hd := can_d hcx
    have hm : mate l A.length = some (A.length + 1 + q.flat.length) := by
      unfold mate
      have : l.drop (A.length + 1) = q.flat ++ (y :: (r.flat ++ B)) := by rw [hl2, List.drop_append]; simp
      rw [this, endG_tree q hw.2.2.1]
      unfold endG
      rw [if_pos hw.2.1, if_pos rfl]
    obtain ⟨_, g2, _⟩ := ends_facts hP
    obtain ⟨k, hk, _, hE2⟩ := g2 A.length x hx hw.1
    rw [hm] at hk
    injection hk with hk
    subst hk
    have hpd : (P.getD (A.length + 1 + q.flat.length) 0).toNat = A.length := by rw [List.getD, hE2]; rfl
    have hio : iOf l A.length = x.i := iOf_at hx
    have hdo : dOf l A.length = x.d := dOf_atT hx
    obtain ⟨q', a1, a2, a3⟩ := conv_tree hK hP hc q (A ++ [x]) (y :: (r.flat ++ B)) (by rw [hl2]; simp) hw.2.2.1 hg.2.1
    obtain ⟨r', b1, b2, b3⟩ := conv_tree hK hP hc r (A ++ (x :: (q.flat ++ [y]))) B (by rw [hl2]; simp) hw.2.2.2 hg.2.2
    simp only [List.length_append, List.length_cons, List.length_nil] at a2 b2
    have hqm : AllCan q := fun z hz => hc z (by rw [hl2]; simp [hz])
    have hkeep : ∀ f b, (LTr.ev K q f b).f x.d.toNat = f x.d.toNat := ev_keeps q hw.2.2.1 hqm (by
      have : ((x.d.toNat : Nat) : Int) = x.d := by omega
      rw [this]; exact hg.1)
    have hflat : convL l P (LTr.loop x y q r).flat A.length = convS l P A.length x :: (convL l P q.flat (A.length + 1) ++ (convS l P (A.length + 1 + q.flat.length) y :: convL l P r.flat (A.length + 1 + q.flat.length + 1))) := by
      show convS l P A.length x :: convL l P (q.flat ++ y :: r.flat) (A.length + 1) = _
      rw [conv_app]
      rfl
    rw [hflat, ← a2, show A.length + 1 + q.flat.length + 1 = A.length + (q.flat.length + (0 + 1) + 1) by omega, ← b2]
    by_cases h1 : x.i = 1
    · have ex : convS l P A.length x = ⟨1, x.d, x.a, x.b, x.i⟩ := by unfold convS; rw [if_pos ⟨hw.1, h1⟩]
      have ey : convS l P (A.length + 1 + q.flat.length) y = ⟨1, x.d, 0, 0, 0⟩ := by
        unfold convS
        rw [if_neg (by have := hw.2.1; omega), if_pos ⟨hw.2.1, by rw [hpd, hio]; exact h1⟩, hpd, hdo]
      rw [ex, ey]
      refine ⟨.step ⟨1, x.d, x.a, x.b, x.i⟩ (q'.app (.step ⟨1, x.d, 0, 0, 0⟩ r')), ⟨by simp, by simp, app_wf (R := .step ⟨1, x.d, 0, 0, 0⟩ r') ⟨by simp, by simp, b1⟩ q' a1⟩, by simp [LTr.flat, app_flat], fun f b hs => ?_⟩
      have d1 : doR K ⟨1, x.d, x.a, x.b, x.i⟩ f b = ⟨0, upd f x.d.toNat x.i, b⟩ := by
        unfold doR
        rw [if_pos (by simp)]
        have : valR ⟨1, x.d, x.a, x.b, x.i⟩ f = x.i := by unfold valR; rw [if_pos (Or.inl rfl)]; show x.i % 4294967296 = x.i; omega
        rw [this]
      have d0 : ∀ g c, doR K ⟨1, x.d, 0, 0, 0⟩ g c = ⟨0, upd g x.d.toNat 0, c⟩ := fun g c => by
        unfold doR
        rw [if_pos (by simp)]
        have : valR ⟨1, x.d, 0, 0, 0⟩ g = 0 := by unfold valR; rw [if_pos (Or.inl rfl)]; rfl
        rw [this]
      have hs1 := loop_ok hcx hw.1 hs
      have hq := a3 _ _ hs1
      have hqs := ev_ok hK q hw.2.2.1 hqm _ _ hs1
      have hk1 := hkeep (upd f x.d.toNat x.i) b
      rw [upd_at, h1] at hk1
      show (LTr.ev K (.step ⟨1, x.d, x.a, x.b, x.i⟩ (q'.app (.step ⟨1, x.d, 0, 0, 0⟩ r'))) f b).le (LTr.ev K (.loop x y q r) f b)
      have eL : LTr.ev K (.step ⟨1, x.d, x.a, x.b, x.i⟩ (q'.app (.step ⟨1, x.d, 0, 0, 0⟩ r'))) f b = (LTr.ev K (q'.app (.step ⟨1, x.d, 0, 0, 0⟩ r')) (upd f x.d.toNat x.i) b).after 1 := by
        show (if (doR K ⟨1, x.d, x.a, x.b, x.i⟩ f b).t ≠ 0 then _ else _) = _
        rw [d1, if_neg (by simp)]
      rw [eL, app_ev]
      rw [h1] at hq hqs ⊢
      have eR : LTr.ev K (.loop x y q r) f b = if (itE (LTr.ev K q) x.d.toNat 1 (upd f x.d.toNat 1) b).t ≠ 0 then (itE (LTr.ev K q) x.d.toNat 1 (upd f x.d.toNat 1) b).after 1
          else (LTr.ev K r (itE (LTr.ev K q) x.d.toNat 1 (upd f x.d.toNat 1) b).f (itE (LTr.ev K q) x.d.toNat 1 (upd f x.d.toNat 1) b).b).after ((itE (LTr.ev K q) x.d.toNat 1 (upd f x.d.toNat 1) b).n + 1) := by
        show (if (itE (LTr.ev K q) x.d.toNat x.i.toNat (upd f x.d.toNat x.i) b).t ≠ 0 then _ else _) = _
        rw [h1]
        rfl
      rw [eR]
      generalize hQ : LTr.ev K q (upd f x.d.toNat 1) b = o at *
      have hit : itE (LTr.ev K q) x.d.toNat 1 (upd f x.d.toNat 1) b = if o.t ≠ 0 then o else ⟨o.n + 1, 0, upd o.f x.d.toNat 0, o.b⟩ := by
        unfold itE
        rw [hQ, hk1]
        split
        · rfl
        · show LOu.after ⟨0, 0, _, _⟩ (o.n + 1) = _
          unfold LOu.after
          simp
      rw [hit]
      generalize LTr.ev K q' (upd f x.d.toNat 1) b = o' at *
      by_cases ht : o.t ≠ 0
      · rw [if_pos ht, if_pos ht, if_pos (by rw [hq.t]; exact ht)]
        exact hq.after (Nat.le_refl _)
      · rw [if_neg ht, if_neg (by rw [hq.t]; exact ht)]
        dsimp only
        rw [if_neg (by simp)]
        have e2 : LTr.ev K (.step ⟨1, x.d, 0, 0, 0⟩ r') o'.f o'.b = (LTr.ev K r' (upd o'.f x.d.toNat 0) o'.b).after 1 := by
          show (if (doR K ⟨1, x.d, 0, 0, 0⟩ o'.f o'.b).t ≠ 0 then _ else _) = _
          rw [d0, if_neg (by simp)]
        rw [e2, after_after, after_after, hq.f, hq.b]
        have hr := b3 (upd o.f x.d.toNat 0) o.b ⟨wordsF_upd hqs.1 _ (by omega), hqs.2⟩
        exact hr.after (by have := hq.n; omega)
    · have ex : convS l P A.length x = x := by unfold convS; rw [if_neg (fun h => h1 h.2), if_neg (by have := hw.1; omega)]
      have ey : convS l P (A.length + 1 + q.flat.length) y = y := by
        unfold convS
        rw [if_neg (by have := hw.2.1; omega), if_neg (fun h => h1 (by rw [← hio, ← hpd]; exact h.2))]
      rw [ex, ey]
      exact ⟨.loop x y q' r', ⟨hw.1, hw.2.1, a1, b1⟩, rfl, sim_loop hK hcx hw.1 hw.2.2.1 hqm a3 b3⟩
theorem conv_can {l : List Q5} {P : List Int} (hP : endsS l = some P) (hc : ∀ x ∈ l, canS x = true) {k : Nat} {x : Q5} (hx : l[k]? = some x) : canS (convS l P k x) = true := by
  have hcx := hc x (List.mem_of_getElem? hx)
  unfold convS
  split
  · next h =>
    have hd := can_d hcx
    have hlo := (ok_of_can hcx).lo h.1
    unfold canS at hcx ⊢
    simp only [Bool.and_eq_true, decide_eq_true_eq] at hcx ⊢
    obtain ⟨⟨⟨⟨⟨_, _⟩, ha⟩, hb⟩, _⟩, _⟩ := hcx
    have e1 : hasA x.o = false := by rw [h.1]; decide
    have e2 : hasB x.o = false := by rw [h.1]; decide
    rw [e1] at ha
    rw [e2] at hb
    refine ⟨⟨⟨⟨⟨by decide, ?_⟩, ?_⟩, ?_⟩, ?_⟩, ?_⟩
    · have : hasD 1 = true := by decide
      rw [this]; simp [fitsS, hd.1, hd.2]
    · have : hasA 1 = false := by decide
      rw [this]; exact ha
    · have : hasB 1 = false := by decide
      rw [this]; exact hb
    · simp [leastS]; omega
    · simp [mostS]; omega
  · split
    · next h =>
      obtain ⟨_, g2, g3⟩ := ends_facts hP
      obtain ⟨i, y, hy, hyo, hmt⟩ := g3 k x hx h.1
      obtain ⟨k', hk', _, hE2⟩ := g2 i y hy hyo
      rw [hmt] at hk'
      injection hk' with hk'
      subst hk'
      have : (P.getD k 0).toNat = i := by rw [List.getD, hE2]; rfl
      rw [this, dOf_atT hy]
      exact set_can (can_d (hc y (List.mem_of_getElem? hy))) (by omega)
    · exact hcx
theorem convL_mem {l : List Q5} {P : List Int} : ∀ (xs : List Q5) (k : Nat), (∀ j x, xs[j]? = some x → l[k + j]? = some x) → ∀ z ∈ convL l P xs k, ∃ j x, l[j]? = some x ∧ z = convS l P j x
  | [], k, _, z, hz => by simp [convL] at hz
  | x :: xs, k, h, z, hz => by
    rcases List.mem_cons.1 (show z ∈ convS l P k x :: convL l P xs (k + 1) from hz) with rfl | hz
    · exact ⟨k, x, by simpa using h 0 x rfl, rfl⟩
    · exact convL_mem xs (k + 1) (fun j y hy => by have := h (j + 1) y (by simpa using hy); rwa [show k + (j + 1) = k + 1 + j by omega] at this) z hz
/-- what tidying leaves, as a tree that does the same -/
theorem tidy_sim {K : Bk} (hK : FlOk K) {l : List Q5} {P : List Int} (hP : endsS l = some P) (hc : ∀ x ∈ l, canS x = true) {T : LTr} (hl : l = T.flat) (hw : T.wf) (hg : T.good) : ∃ T' : LTr, T'.wf ∧ tidyS l P = T'.flat ∧ LSim K T T' := by
  obtain ⟨T1, h1, h2, h3⟩ := conv_tree hK hP hc T [] [] (by simpa using hl) hw hg
  rw [← hl] at h2
  obtain ⟨T2, k1, k2, k3⟩ := tidy_tree hK l P l 0 [] T1 h1 (fun z hz => by
    rw [h2] at hz
    obtain ⟨j, x, hx, rfl⟩ := convL_mem l ([] : List Q5).length (fun j x hx => by simpa using hx) z hz
    exact conv_can hP hc hx) (by simpa using h2)
  exact ⟨T2, k1, k2.symm, h3.trans k3⟩
/-- the statement's mathematics -/
theorem same_core {K : Bk} (hK : FlOk K) {l : List Q5} {P E : List Int} (hll : l.length ≤ 20000) (hc : ∀ x ∈ l, canS x = true) (hr : countedS l = true) (hP : endsS l = some P) (hE : endsS (tidyS l P) = some E) (f : Nat → Int) (b : List Nat) (hs : StOk f b) (k : Nat) :
    (runL K (tidyS l P) E k ⟨0, f, b⟩).n ≤ (runL K l P k ⟨0, f, b⟩).n ∧ ((runL K l P k ⟨0, f, b⟩).n < k → (runL K (tidyS l P) E k ⟨0, f, b⟩).t = (runL K l P k ⟨0, f, b⟩).t ∧ (runL K (tidyS l P) E k ⟨0, f, b⟩).s.f = (runL K l P k ⟨0, f, b⟩).s.f ∧ (runL K (tidyS l P) E k ⟨0, f, b⟩).s.b = (runL K l P k ⟨0, f, b⟩).s.b) := by
  obtain ⟨T, hw, hl⟩ := tree_of hP
  have hg := good_of hw hl hr
  obtain ⟨T', hw', hl', hsim⟩ := tidy_sim hK hP hc hl hw hg
  obtain ⟨hm1, _, _, hm4⟩ := tidy_may hll hc hr hP
  have hr' : countedS (tidyS l P) = true := by
    unfold checkS at hm1
    split at hm1
    · cases hm1
    split at hm1
    · cases hm1
    split at hm1
    · cases hm1
    · next h => simp at h; exact h.2
  have hg' := good_of hw' hl' hr'
  have hle := hsim f b hs
  rcases run_tree (K := K) hP hc hl hw hg f b k with ⟨a1, a2⟩ | ⟨a1, a2, a3, a4, a5⟩
  · rcases run_tree (K := K) hE hm4 hl' hw' hg' f b k with ⟨c1, c2⟩ | ⟨c1, c2, _⟩
    · exact ⟨by omega, fun h => by omega⟩
    · exact ⟨by omega, fun h => by omega⟩
  · rcases run_tree (K := K) hE hm4 hl' hw' hg' f b k with ⟨c1, c2⟩ | ⟨c1, c2, c3, c4, c5⟩
    · have := hle.n; exact ⟨by omega, fun h => by omega⟩
    · exact ⟨by have := hle.n; omega, fun _ => ⟨by rw [c3, a3, hle.t], by rw [c4, a4, hle.f], by rw [c5, a5, hle.b]⟩⟩
end Go.Proofs.Ytlieapapmkbbgaa
