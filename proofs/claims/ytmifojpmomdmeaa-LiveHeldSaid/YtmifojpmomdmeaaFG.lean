/- Appends as steps of a region that draws; rows of one's own, apart and kept. Over any program. -/
import Derived.Test.YtmifojpmomdmeaaNY
import Derived.Deep.AppendLies
import Derived.Deep.RegionHeld3
namespace Go.Proofs.Ytmifojpmomdmeaa
open Go Go.RowKit
set_option linter.unusedVariables false
section
variable {P : Program}

/-- append to a row of one's own, any number of elements, at a step of a region that draws -/
theorem step_append_own {ops : Array Oper} {o : Oper} {a : Act} {w : World} {K : Act → World → Prop} {Q : Exit → Act → World → Prop} {E : Prop} (hgd : o.guard = none) (s x : Operand) (t : TypeId)
    (ho : o.op = .call { callee := .builtin .append, args := #[s, x], argTypes := #[t, t] })
    (base : Nat) (e : TypeId) (i : TypeInfo) (z : Value) (size bytes : Nat) (ht : P.underlying t = some (.slice e)) (hi : P.info? e = some i) (hz : i.zero = some z)
    (hsize : i.size = size) (hby : i.bytes = bytes) (hzs : z.cells.size = size) (hsz : 0 < size)
    (v : Value) (n : Nat) (xs : List Value) (hs : a.eval s = v) (hown : w.ownsRow base e size v n xs)
    (ad : Addr) (m c : Nat) (news : List Value) (hx : a.eval x = .slice (some ad) m c) (hl : news.length = m * size) (hnews : ∀ j u, news[j]? = some u → w.cell? (ad.add j) = some u) (h1 : ∀ u ∈ news, u.oneCell' = true)
    (h63 : n + m ≤ maxLen) (hbytes : (n + m) * bytes ≤ 140737488355328) (hbase : base ≤ w.heap.size)
    (h : ∀ v' w', w'.ownsRow base e size v' (n + m) (xs ++ news) → w.grownBy w' v.ownBlock → (v' = .slice none 0 0 ↔ v = .slice none 0 0 ∧ m = 0) → K (a.put o.dst v') w') :
    if Region.wanted o (yielded ops a.tmps) = true then Oper.wp P o a w K Q else E := by
  have hw : Region.wanted o (yielded ops a.tmps) = true := by simp [Region.wanted, hgd]
  rw [if_pos hw]
  exact wp_append_own w s x t ho base e i z size bytes ht hi hz hsize hby hzs hsz v n xs hs hown ad m c news hx hl hnews h1 h63 hbytes hbase h
theorem run_append_zero {t ty e : TypeId} (ht : P.underlying t = some (.slice e)) {i : TypeInfo} {z : Value} (hi : P.info? e = some i) (hz : i.zero = some z) (g : Nat) (ad : Option Addr) (c : Nat) (w : World) :
    (Builtin.append_ #[t, t] ty #[.slice (some ⟨g, 0, none⟩) 0 0, .slice ad 0 c]).run P w = .ok (.slice (some ⟨g, 0, none⟩) 0 0) w := by
  cases ad <;> simp [Builtin.append_, run_underlying ht, sizeOf, typeInfo, hi, Builtin.lenOf, Builtin.firstCells, loadCells, loadCellsFrom, storeCells]
theorem step_append_zero {w : World} {ops : Array Oper} {o : Oper} {a : Act} {K : Act → World → Prop} {Q : Exit → Act → World → Prop} {E : Prop} (hgd : o.guard = none) (s x : Operand) (t : TypeId)
    (ho : o.op = .call { callee := .builtin .append, args := #[s, x], argTypes := #[t, t] })
    (e : TypeId) (i : TypeInfo) (z : Value) (ht : P.underlying t = some (.slice e)) (hi : P.info? e = some i) (hz : i.zero = some z)
    (g : Nat) (hs : a.eval s = .slice (some ⟨g, 0, none⟩) 0 0) (ad : Option Addr) (c : Nat) (hx : a.eval x = .slice ad 0 c)
    (h : K (a.put o.dst (.slice (some ⟨g, 0, none⟩) 0 0)) w) :
    if Region.wanted o (yielded ops a.tmps) = true then Oper.wp P o a w K Q else E := by
  have hw : Region.wanted o (yielded ops a.tmps) = true := by simp [Region.wanted, hgd]
  rw [if_pos hw]
  have hr := run_append_zero (P := P) (ty := o.type) ht hi hz g ad c w
  unfold Oper.wp execOp
  simp only [ho, resolve, invoke, builtin, Sem.run_bind, Sem.run_pure, Result.andThen_ok, List.map_toArray, List.map_cons, List.map_nil, hs, hx, hr]
  exact h
theorem wpList_append_zero {ops : Array Oper} {rest : List Oper} {o : Oper} {a : Act} {w : World} {Q : Exit → Act → World → Prop} (hgd : o.guard = none) (s x : Operand) (t : TypeId)
    (ho : o.op = .call { callee := .builtin .append, args := #[s, x], argTypes := #[t, t] })
    (e : TypeId) (i : TypeInfo) (z : Value) (ht : P.underlying t = some (.slice e)) (hi : P.info? e = some i) (hz : i.zero = some z)
    (g : Nat) (hs : a.eval s = .slice (some ⟨g, 0, none⟩) 0 0) (ad : Option Addr) (c : Nat) (hx : a.eval x = .slice ad 0 c)
    (h : wpList P ops Q rest (a.put o.dst (.slice (some ⟨g, 0, none⟩) 0 0)) w) : wpList P ops Q (o :: rest) a w := by
  refine wpList_plain hgd fun K hK => ?_
  have hr := run_append_zero (P := P) (ty := o.type) ht hi hz g ad c w
  unfold Oper.wp execOp
  simp only [ho, resolve, invoke, builtin, Sem.run_bind, Sem.run_pure, Result.andThen_ok, List.map_toArray, List.map_cons, List.map_nil, hs, hx, hr]
  exact hK _ _ h
/-- a row just made, of nothing -/
theorem own_emptyT (w : World) (base : Nat) (e : TypeId) (size : Nat) (hb : base ≤ w.heap.size) : (w.alloc (.cells #[] e)).ownsRow base e size (.slice (some ⟨w.heap.size, 0, none⟩) 0 0) 0 [] :=
  ⟨by simp, Or.inr ⟨w.heap.size, 0, #[], rfl, hb, by show (w.heap.push _)[w.heap.size]? = _; simp, Nat.le_refl _, by simp [maxLen], by simp, by simp⟩⟩
theorem own_lt {w : World} {base n size : Nat} {e : TypeId} {g cap : Nat} {xs : List Value} (h : w.ownsRow base e size (.slice (some ⟨g, 0, none⟩) n cap) n xs) : base ≤ g ∧ g < w.heap.size ∧ n ≤ cap ∧ cap ≤ maxLen ∧ ∃ cur, w.heap[g]? = some (.cells cur e (0, 0)) := by
  obtain ⟨_, ⟨hv, _⟩ | ⟨g', cap', cur, hv, hg, hh, hc, hcm, _⟩⟩ := h
  · simp at hv
  · injection hv with h1 h2 h3
    injection h1 with h1
    injection h1 with h1
    subst h1 h3
    refine ⟨hg, ?_, hc, hcm, cur, hh⟩
    rcases Nat.lt_or_ge g w.heap.size with h | h
    · exact h
    · rw [Array.getElem?_eq_none h] at hh; cases hh
/-- rows of different types lie in different blocks -/
theorem own_ne {w : World} {b b' n n' s s' g g' c c' : Nat} {e e' : TypeId} {xs xs' : List Value} (h : w.ownsRow b e s (.slice (some ⟨g, 0, none⟩) n c) n xs) (h' : w.ownsRow b' e' s' (.slice (some ⟨g', 0, none⟩) n' c') n' xs') (he : e ≠ e') : g ≠ g' := by
  obtain ⟨_, _, _, _, cur, h1⟩ := own_lt h
  obtain ⟨_, _, _, _, cur', h2⟩ := own_lt h'
  intro hg
  subst hg
  rw [h1] at h2
  injection h2 with h2
  injection h2 with _ h3 _
  exact he h3
/-- a row stays, if its block does -/
theorem own_block {w w' : World} {b n s g c : Nat} {e : TypeId} {xs : List Value} (h : w.ownsRow b e s (.slice (some ⟨g, 0, none⟩) n c) n xs) (hb : w'.heap[g]? = w.heap[g]?) : w'.ownsRow b e s (.slice (some ⟨g, 0, none⟩) n c) n xs := by
  obtain ⟨h1, ⟨hv, _⟩ | ⟨g', cap', cur, hv, hg, hh, hr⟩⟩ := h
  · simp at hv
  · have hv' := hv
    injection hv with h2 h3 h4
    injection h2 with h2
    injection h2 with h2
    subst h2
    exact ⟨h1, Or.inr ⟨g, cap', cur, hv', hg, hb.trans hh, hr⟩⟩
theorem own_grown {w w' : World} {b n s g c : Nat} {r : Option Nat} {e : TypeId} {xs : List Value} (h : w.ownsRow b e s (.slice (some ⟨g, 0, none⟩) n c) n xs) (hg : w.grownBy w' r) (hr : r ≠ some g) : w'.ownsRow b e s (.slice (some ⟨g, 0, none⟩) n c) n xs :=
  own_block h (hg.block g (own_lt h).2.1 (fun e => hr e.symm))
theorem own_kp {B : Nat} {w w' : World} {b n s g c : Nat} {e : TypeId} {xs : List Value} (h : w.ownsRow b e s (.slice (some ⟨g, 0, none⟩) n c) n xs) (hk : Kp B w w') (hb : B ≤ b) : w'.ownsRow b e s (.slice (some ⟨g, 0, none⟩) n c) n xs :=
  own_block h (hk.2 g (Nat.le_trans hb (own_lt h).1) (own_lt h).2.1)
end
theorem grown_alloc1 {w w1 : World} {r : Option Nat} {o : Obj} (h : w.grownBy w1 r) : w.grownBy (w1.alloc o) r := grown_trans h (below_grown (Below.alloc (Below.refl _ _) (Nat.le_refl _) o) r)
theorem below_alloc1 {w w1 : World} {o : Obj} (h : Below w.heap.size w w1) : Below w.heap.size w (w1.alloc o) := below_call h (Below.alloc (Below.refl _ _) (Nat.le_refl _) o)
theorem news2 (W : World) (B : Nat) (x y : Value) (t : TypeId) (hB : W.heap.size = B) : ∀ j u, ([x, y] : List Value)[j]? = some u → (W.alloc (.cells #[x, y] t)).cell? ((⟨B, 0, none⟩ : Addr).add j) = some u := by
  subst hB
  intro j u hu
  rw [addr_add0]
  exact (RowAt.new W [x, y] t).cell j u hu
theorem one2 (a b : Option Addr) (n m c d : Nat) : ∀ u ∈ ([.slice a n c, .slice b m d] : List Value), u.oneCell' = true := by
  intro u hu
  simp at hu
  rcases hu with rfl | rfl <;> rfl
theorem blk_ge {B X n c : Nat} (h : B ≤ X) : ∀ x, (Value.slice (some ⟨X, 0, none⟩) n c).ownBlock = some x → B ≤ x := by
  intro x hx
  simp [Value.ownBlock] at hx
  omega
theorem blk_ne {X g n c : Nat} (h : X ≠ g) : (Value.slice (some ⟨X, 0, none⟩) n c).ownBlock ≠ some g := by
  simp [Value.ownBlock]
  exact h
theorem blk_geS {B X : Nat} (h : B ≤ X) : ∀ x, some X = some x → B ≤ x := fun x hx => Option.some.inj hx ▸ h
theorem blk_neS {X g : Nat} (h : X ≠ g) : some X ≠ some g := fun e => h (Option.some.inj e)
theorem own_shape2 {w : World} {b n s : Nat} {e : TypeId} {v : Value} {xs : List Value} (h : w.ownsRow b e s v n xs) (hn : v ≠ .slice none 0 0) : ∃ g c, v = .slice (some ⟨g, 0, none⟩) n c := by
  obtain ⟨_, ⟨h0, _⟩ | ⟨g, c, _, hv, _⟩⟩ := h
  · exact absurd h0 hn
  · exact ⟨g, c, hv⟩
/-- append of whatever slice to a row just made, of nothing -/
theorem step_append_any {P : Program} {ops : Array Oper} {o : Oper} {a : Act} {w : World} {K : Act → World → Prop} {Q : Exit → Act → World → Prop} {E : Prop} (hgd : o.guard = none) (s x : Operand) (t : TypeId)
    (ho : o.op = .call { callee := .builtin .append, args := #[s, x], argTypes := #[t, t] })
    (base : Nat) (e : TypeId) (i : TypeInfo) (z : Value) (size bytes : Nat) (ht : P.underlying t = some (.slice e)) (hi : P.info? e = some i) (hz : i.zero = some z)
    (hsize : i.size = size) (hby : i.bytes = bytes) (hzs : z.cells.size = size) (hsz : 0 < size)
    (g : Nat) (hs : a.eval s = .slice (some ⟨g, 0, none⟩) 0 0) (hown : w.ownsRow base e size (.slice (some ⟨g, 0, none⟩) 0 0) 0 [])
    (ad : Option Addr) (m c : Nat) (news : List Value) (hx : a.eval x = .slice ad m c) (hl : news.length = m * size) (hnone : ad = none → m = 0) (hnews : ∀ A, ad = some A → ∀ j u, news[j]? = some u → w.cell? (A.add j) = some u) (h1 : ∀ u ∈ news, u.oneCell' = true)
    (h63 : m ≤ maxLen) (hbytes : m * bytes ≤ 140737488355328) (hbase : base ≤ w.heap.size)
    (h : ∀ v' w', w'.ownsRow base e size v' m news → w.grownBy w' (some g) → v' ≠ .slice none 0 0 → K (a.put o.dst v') w') :
    if Region.wanted o (yielded ops a.tmps) = true then Oper.wp P o a w K Q else E := by
  cases ad with
  | none =>
    have hm := hnone rfl
    subst hm
    have hnl : news = [] := List.eq_nil_of_length_eq_zero (by simpa using hl)
    subst hnl
    exact step_append_zero hgd s x t ho e i z ht hi hz g hs none c hx (h _ w hown ⟨rfl, rfl, rfl, Nat.le_refl _, fun _ _ _ => rfl⟩ (by simp))
  | some A =>
    refine step_append_own hgd s x t ho base e i z size bytes ht hi hz hsize hby hzs hsz _ 0 [] hs hown A m c news hx hl (hnews A rfl) h1 (by omega) (by rw [Nat.zero_add]; exact hbytes) hbase ?_
    intro v' w' h2 h3 h4
    refine h v' w' ?_ h3 (fun e => by have := (h4.1 e).1; simp at this)
    rw [Nat.zero_add, List.nil_append] at h2
    exact h2
end Go.Proofs.Ytmifojpmomdmeaa

namespace Go.Proofs.Ytmifojpmomdmeaa
open Go Go.RowKit
set_option linter.unusedVariables false

/-- integers in a row of their own -/
def OwnI (k : IntKind) (e : TypeId) (w : World) (B : Nat) (a : Option Addr) (l : List Int) (c : Nat) : Prop :=
  (∃ g, a = some ⟨g, 0, none⟩ ∧ w.ownsRow B e 1 (.slice (some ⟨g, 0, none⟩) l.length c) l.length (l.map fun z => .int k z)) ∧ ∀ z ∈ l, (Lit.int k z).wf = true
theorem OwnI.ints {k : IntKind} {e : TypeId} {w : World} {B : Nat} {a : Option Addr} {l : List Int} {c : Nat} (h : OwnI k e w B a l c) : IntsIn k w a l c := by
  obtain ⟨⟨g, rfl, ho⟩, hw⟩ := h
  obtain ⟨h1, h2, h3, h4, _⟩ := own_lt ho
  refine ⟨⟨by rw [List.length_map]; exact h3, by unfold maxLen at h4; omega, ?_, Or.inr (Or.inr ⟨g, 0, rfl, h2, ?_⟩)⟩, hw⟩
  · intro x hx
    obtain ⟨z, hz, rfl⟩ := List.mem_map.1 hx
    exact ⟨⟨z, rfl, hw z hz⟩, trivial⟩
  · intro i x hx j u hu
    rw [List.getElem?_map] at hx
    obtain ⟨z, hz, rfl⟩ := Option.map_eq_some_iff.1 hx
    have hil := (List.getElem?_eq_some_iff.1 hz).1
    match j, hu with
    | 0, hu =>
      have := ho.cellAt i (by omega)
      simp only [List.length_cons, List.length_nil, Nat.zero_add, Nat.mul_one, Nat.add_zero]
      rw [this, List.getElem?_map, hz]
      simpa using hu
theorem OwnI.grown {k : IntKind} {e e' : TypeId} {w w' : World} {B g c' n s : Nat} {a : Option Addr} {l : List Int} {c : Nat} {xs : List Value} (h : OwnI k e w B a l c) (ho : w.ownsRow B e' s (.slice (some ⟨g, 0, none⟩) n c') n xs) (he : e' ≠ e) (hg : w.grownBy w' (some g)) : OwnI k e w' B a l c := by
  obtain ⟨⟨g', rfl, h'⟩, hw⟩ := h
  exact ⟨⟨g', rfl, own_grown h' hg (by have := own_ne ho h' he; simpa using this)⟩, hw⟩
theorem OwnI.over {k : IntKind} {e : TypeId} {w w' : World} {B : Nat} {a : Option Addr} {l : List Int} {c : Nat} (h : OwnI k e w B a l c) (hb : Below w.heap.size w w') : OwnI k e w' B a l c := by
  obtain ⟨⟨g', rfl, h'⟩, hw⟩ := h
  exact ⟨⟨g', rfl, own_laterW h' hb⟩, hw⟩
theorem OwnI.kp {k : IntKind} {e : TypeId} {w w' : World} {B B' : Nat} {a : Option Addr} {l : List Int} {c : Nat} (h : OwnI k e w B a l c) (hk : Kp B' w w') (hB : B' ≤ B) : OwnI k e w' B a l c := by
  obtain ⟨⟨g', rfl, h'⟩, hw⟩ := h
  exact ⟨⟨g', rfl, own_kp h' hk hB⟩, hw⟩
/-- a constant whose numbers lie in rows of their own -/
def OwnQ (w : World) (B : Nat) (q : CnQ) : Prop := OwnI .i8 130 w B q.ba q.bs q.bc ∧ OwnI .i32 21 w B q.wa q.ws q.wc
def cn2 (D : List CnQ) : List Value := D.flatMap CnQ.cells
theorem cn2_len (D : List CnQ) : (cn2 D).length = D.length * 2 := by
  induction D with
  | nil => rfl
  | cons a l ih => simp [cn2, CnQ.cells] at ih ⊢; omega
theorem cn2_app (D : List CnQ) (q : CnQ) : cn2 (D ++ [q]) = cn2 D ++ q.cells := by simp [cn2]
theorem cn2_at : ∀ (l : List CnQ) (k : Nat) (q : CnQ), l[k]? = some q → (cn2 l)[k * 2]? = some (.slice q.ba q.bs.length q.bc) ∧ (cn2 l)[k * 2 + 1]? = some (.slice q.wa q.ws.length q.wc)
  | [], k, q, h => by simp at h
  | a :: l, 0, q, h => by
    obtain rfl : a = q := by simpa using h
    simp [cn2, CnQ.cells]
  | a :: l, k + 1, q, h => by
    have h' : l[k]? = some q := by simpa using h
    have ih := cn2_at l k q h'
    have e : cn2 (a :: l) = [.slice a.ba a.bs.length a.bc, .slice a.wa a.ws.length a.wc] ++ cn2 l := by simp [cn2, CnQ.cells]
    rw [e]
    refine ⟨?_, ?_⟩
    · rw [List.getElem?_append_right (by simp; omega)]; simpa [show (k + 1) * 2 - 2 = k * 2 by omega] using ih.1
    · rw [List.getElem?_append_right (by simp; omega)]; simpa [show (k + 1) * 2 + 1 - 2 = k * 2 + 1 by omega] using ih.2
theorem cns_own {w : World} {B g c : Nat} {D : List CnQ} (h : w.ownsRow B 53 2 (.slice (some ⟨g, 0, none⟩) D.length c) D.length (cn2 D)) (hq : ∀ q ∈ D, OwnQ w B q) : CnsIn w (some ⟨g, 0, none⟩) D c := by
  obtain ⟨h1, h2, h3, h4, _⟩ := own_lt h
  refine ⟨h3, by unfold maxLen at h4; omega, fun q hm => ⟨(hq q hm).1.ints, (hq q hm).2.ints⟩, Or.inr (Or.inr ⟨g, 0, rfl, h2, fun k q hk => ?_⟩)⟩
  have hkl := (List.getElem?_eq_some_iff.1 hk).1
  obtain ⟨a0, a1⟩ := cn2_at D k q hk
  exact ⟨by rw [Nat.zero_add, h.cellAt _ (by omega), a0], by rw [Nat.zero_add, h.cellAt _ (by omega), a1]⟩
def nd26 (l : List Nd) : List Value := l.flatMap Nd.cells
theorem nd26_len (l : List Nd) : (nd26 l).length = l.length * 26 := by
  induction l with
  | nil => rfl
  | cons a l ih => simp [nd26] at ih ⊢; rw [ih, a.cells_len]; omega
theorem nd26_at : ∀ (l : List Nd) (k : Nat) (n : Nd), l[k]? = some n → ∀ j u, n.cells[j]? = some u → (nd26 l)[k * 26 + j]? = some u
  | [], k, n, h => by simp at h
  | a :: l, 0, n, h => by
    obtain rfl : a = n := by simpa using h
    intro j u hu
    have hj := (List.getElem?_eq_some_iff.1 hu).1
    show (a.cells ++ nd26 l)[0 * 26 + j]? = some u
    rw [Nat.zero_mul, Nat.zero_add, List.getElem?_append_left hj]
    exact hu
  | a :: l, k + 1, n, h => by
    have h' : l[k]? = some n := by simpa using h
    intro j u hu
    have ih := nd26_at l k n h' j u hu
    show (a.cells ++ nd26 l)[(k + 1) * 26 + j]? = some u
    rw [List.getElem?_append_right (by rw [a.cells_len]; omega), a.cells_len, show (k + 1) * 26 + j - 26 = k * 26 + j by omega]
    exact ih
theorem nds_own {w : World} {B g c : Nat} {l : List Nd} (h : w.ownsRow B 47 26 (.slice (some ⟨g, 0, none⟩) l.length c) l.length (nd26 l)) (hw : ∀ n ∈ l, AreInts kN n.cells) : NdsIn w (some ⟨g, 0, none⟩) l c := by
  obtain ⟨h1, h2, h3, h4, _⟩ := own_lt h
  refine ⟨by rw [List.length_map]; exact h3, by unfold maxLen at h4; omega, ?_, Or.inr (Or.inr ⟨g, 0, rfl, h2, fun k x hk j u hu => ?_⟩)⟩
  · intro x hx
    obtain ⟨n, hn, rfl⟩ := List.mem_map.1 hx
    exact hw n hn
  · rw [List.getElem?_map] at hk
    obtain ⟨n, hn, rfl⟩ := Option.map_eq_some_iff.1 hk
    have hkl := (List.getElem?_eq_some_iff.1 hn).1
    have hj := (List.getElem?_eq_some_iff.1 hu).1
    rw [n.cells_len] at hj
    show w.cell? ⟨g, 0 + k * 26 + j, none⟩ = some u
    rw [Nat.zero_add, h.cellAt _ (by omega)]
    exact nd26_at l k n hn j u hu
theorem nds_news {w W : World} {b off : Nat} {ns : List Nd} {c : Nat} (h : NdsIn w (some ⟨b, off, none⟩) ns c) (hb : Below w.heap.size w W) (m : Nat) : ∀ j u, (nd26 (ns.take m))[j]? = some u → W.cell? ((⟨b, off, none⟩ : Addr).add j) = some u := by
  intro j u hu
  have hjl := (List.getElem?_eq_some_iff.1 hu).1
  rw [nd26_len] at hjl
  have hk : j / 26 < (ns.take m).length := Nat.div_lt_of_lt_mul (by omega)
  obtain ⟨n, hn⟩ : ∃ n, (ns.take m)[j / 26]? = some n := ⟨_, List.getElem?_eq_getElem hk⟩
  have hr : j % 26 < n.cells.length := by rw [n.cells_len]; exact Nat.mod_lt _ (by omega)
  obtain ⟨v, hv⟩ : ∃ v, n.cells[j % 26]? = some v := ⟨_, List.getElem?_eq_getElem hr⟩
  have e := nd26_at _ _ n hn _ v hv
  rw [show j / 26 * 26 + j % 26 = j by omega, hu] at e
  obtain rfl := Option.some.inj e
  have hn' : ns[j / 26]? = some n := by
    rw [List.getElem?_take] at hn
    split at hn
    · exact hn
    · cases hn
  obtain ⟨b', off', hbo, hlt, hrg⟩ := nds_range h (j / 26) n hn'
  injection hbo with hbo
  injection hbo with e1 e2 e3
  subst e1 e2
  rw [Addr.add_mid]
  have := (hb.cell (p := ⟨b, off + j / 26 * 26 + j % 26, none⟩) hlt).trans (hrg _ u hv)
  rwa [show off + j / 26 * 26 + j % 26 = off + j by omega] at this
theorem nds_wf {w : World} {a : Option Addr} {ns : List Nd} {c : Nat} (h : NdsIn w a ns c) : ∀ n ∈ ns, AreInts kN n.cells := fun n hn => h.2.2.1 _ (List.mem_map.2 ⟨n, hn, rfl⟩)
theorem Kp.trans {B B' : Nat} {a b c : World} (h : Kp B a b) (k : Kp B' b c) (hB : B' ≤ B) : Kp B a c :=
  ⟨Nat.le_trans h.1 k.1, fun i hi hl => (k.2 i (Nat.le_trans hB hi) (Nat.lt_of_lt_of_le hl h.1)).trans (h.2 i hi hl)⟩
theorem own_shapeN {w : World} {b n s : Nat} {e : TypeId} {v : Value} {xs : List Value} (h : w.ownsRow b e s v n xs) (hn : 0 < n) : ∃ g c, v = .slice (some ⟨g, 0, none⟩) n c := by
  obtain ⟨_, ⟨_, h0⟩ | ⟨g, c, _, hv, _⟩⟩ := h
  · omega
  · exact ⟨g, c, hv⟩
theorem own_kpx {B : Nat} {w w' : World} {b b' n n' s s' g g' c c' : Nat} {e e' : TypeId} {xs xs' : List Value} (h : w.ownsRow b e s (.slice (some ⟨g, 0, none⟩) n c) n xs) (h' : w.ownsRow b' e' s' (.slice (some ⟨g', 0, none⟩) n' c') n' xs') (he : e ≠ e') (hk : KpX B g' w w') (hb : B ≤ b) : w'.ownsRow b e s (.slice (some ⟨g, 0, none⟩) n c) n xs :=
  own_block h (hk.2 g (Nat.le_trans hb (own_lt h).1) (own_lt h).2.1 (own_ne h h' he))
theorem OwnI.kpx {k : IntKind} {e e' : TypeId} {w w' : World} {B B' b' n' s' g' c' : Nat} {a : Option Addr} {l : List Int} {c : Nat} {xs' : List Value} (h : OwnI k e w B a l c) (h' : w.ownsRow b' e' s' (.slice (some ⟨g', 0, none⟩) n' c') n' xs') (he : e ≠ e') (hk : KpX B' g' w w') (hB : B' ≤ B) : OwnI k e w' B a l c := by
  obtain ⟨⟨g, rfl, ho⟩, hw⟩ := h
  exact ⟨⟨g, rfl, own_kpx ho h' he hk hB⟩, hw⟩
theorem few_end {w w6 : World} {gx gy gz go : Int} {g c gn cn : Nat} {D : List CnQ} {ns : List Nd} (hb : Below w.heap.size w w6)
    (oD : w6.ownsRow (w.heap.size + 1 + 1) 53 2 (.slice (some ⟨g, 0, none⟩) D.length c) D.length (cn2 D)) (hQ : ∀ q ∈ D, OwnQ w6 (w.heap.size + 1 + 1) q)
    (oN : w6.ownsRow (w.heap.size + 1 + 1) 47 26 (.slice (some ⟨gn, 0, none⟩) ns.length cn) ns.length (nd26 ns)) (hw : ∀ n ∈ ns, AreInts kN n.cells) (hl : ns.length ≤ 12) (hcl : D.length ≤ 20) (hqs : ∀ q ∈ D, q.bs.length ≤ 4000 ∧ q.ws.length ≤ 300)
    (rb : RowAt w6 (w.heap.size + 1) [.int .i64 0, .int .i64 0, .int .i64 0, .slice none 0 0, .slice none 0 0, .int .i64 0]) :
    FwPost w (.returned (.agg #[.int .i64 gx, .int .i64 gy, .int .i64 gz, .slice (some ⟨g, 0, none⟩) D.length c, .slice (some ⟨gn, 0, none⟩) ns.length cn, .int .i64 go])) ((((((((w6.setCell ⟨w.heap.size, 3, none⟩ (.slice (some ⟨g, 0, none⟩) D.length c)).setCell ⟨w.heap.size, 4, none⟩ (.slice (some ⟨gn, 0, none⟩) ns.length cn)).setCell ⟨w.heap.size + 1, 0, none⟩ (.int .i64 gx)).setCell ⟨w.heap.size + 1, 1, none⟩ (.int .i64 gy)).setCell ⟨w.heap.size + 1, 2, none⟩ (.int .i64 gz)).setCell ⟨w.heap.size + 1, 3, none⟩ (.slice (some ⟨g, 0, none⟩) D.length c)).setCell ⟨w.heap.size + 1, 4, none⟩ (.slice (some ⟨gn, 0, none⟩) ns.length cn)).setCell ⟨w.heap.size + 1, 5, none⟩ (.int .i64 go)) ∧
    RowAt ((((((((w6.setCell ⟨w.heap.size, 3, none⟩ (.slice (some ⟨g, 0, none⟩) D.length c)).setCell ⟨w.heap.size, 4, none⟩ (.slice (some ⟨gn, 0, none⟩) ns.length cn)).setCell ⟨w.heap.size + 1, 0, none⟩ (.int .i64 gx)).setCell ⟨w.heap.size + 1, 1, none⟩ (.int .i64 gy)).setCell ⟨w.heap.size + 1, 2, none⟩ (.int .i64 gz)).setCell ⟨w.heap.size + 1, 3, none⟩ (.slice (some ⟨g, 0, none⟩) D.length c)).setCell ⟨w.heap.size + 1, 4, none⟩ (.slice (some ⟨gn, 0, none⟩) ns.length cn)).setCell ⟨w.heap.size + 1, 5, none⟩ (.int .i64 go)) (w.heap.size + 1) [.int .i64 gx, .int .i64 gy, .int .i64 gz, .slice (some ⟨g, 0, none⟩) D.length c, .slice (some ⟨gn, 0, none⟩) ns.length cn, .int .i64 go] := by
  have kp : Kp (w.heap.size + 1 + 1) w6 ((((((((w6.setCell ⟨w.heap.size, 3, none⟩ (.slice (some ⟨g, 0, none⟩) D.length c)).setCell ⟨w.heap.size, 4, none⟩ (.slice (some ⟨gn, 0, none⟩) ns.length cn)).setCell ⟨w.heap.size + 1, 0, none⟩ (.int .i64 gx)).setCell ⟨w.heap.size + 1, 1, none⟩ (.int .i64 gy)).setCell ⟨w.heap.size + 1, 2, none⟩ (.int .i64 gz)).setCell ⟨w.heap.size + 1, 3, none⟩ (.slice (some ⟨g, 0, none⟩) D.length c)).setCell ⟨w.heap.size + 1, 4, none⟩ (.slice (some ⟨gn, 0, none⟩) ns.length cn)).setCell ⟨w.heap.size + 1, 5, none⟩ (.int .i64 go)) := (((((((((Kp.refl (w.heap.size + 1 + 1) w6).set w.heap.size 3 _ (by omega)).set w.heap.size 4 _ (by omega)).set (w.heap.size + 1) 0 _ (by omega)).set (w.heap.size + 1) 1 _ (by omega)).set (w.heap.size + 1) 2 _ (by omega)).set (w.heap.size + 1) 3 _ (by omega)).set (w.heap.size + 1) 4 _ (by omega)).set (w.heap.size + 1) 5 _ (by omega))
  refine ⟨⟨⟨gx, gy, gz, some ⟨g, 0, none⟩, c, D, some ⟨gn, 0, none⟩, cn, ns, go⟩, rfl, Below.setCell (Below.setCell (Below.setCell (Below.setCell (Below.setCell (Below.setCell (Below.setCell (Below.setCell (hb) (show w.heap.size ≤ w.heap.size by omega) _) (show w.heap.size ≤ w.heap.size by omega) _) (show w.heap.size ≤ w.heap.size + 1 by omega) _) (show w.heap.size ≤ w.heap.size + 1 by omega) _) (show w.heap.size ≤ w.heap.size + 1 by omega) _) (show w.heap.size ≤ w.heap.size + 1 by omega) _) (show w.heap.size ≤ w.heap.size + 1 by omega) _) (show w.heap.size ≤ w.heap.size + 1 by omega) _, fun W hW => ?_, hl, fun _ => ⟨gn, rfl, by have := (own_lt oN).1; omega, fun j => ?_, fun W hW => ?_⟩, hcl, hqs⟩, ((((((((rb.aside w.heap.size 3 _ (by omega)).aside w.heap.size 4 _ (by omega)).set (l' := [.int .i64 gx, .int .i64 0, .int .i64 0, .slice none 0 0, .slice none 0 0, .int .i64 0]) 0 (.int .i64 gx) (by simp) rfl).set (l' := [.int .i64 gx, .int .i64 gy, .int .i64 0, .slice none 0 0, .slice none 0 0, .int .i64 0]) 1 (.int .i64 gy) (by simp) rfl).set (l' := [.int .i64 gx, .int .i64 gy, .int .i64 gz, .slice none 0 0, .slice none 0 0, .int .i64 0]) 2 (.int .i64 gz) (by simp) rfl).set (l' := [.int .i64 gx, .int .i64 gy, .int .i64 gz, .slice (some ⟨g, 0, none⟩) D.length c, .slice none 0 0, .int .i64 0]) 3 (.slice (some ⟨g, 0, none⟩) D.length c) (by simp) rfl).set (l' := [.int .i64 gx, .int .i64 gy, .int .i64 gz, .slice (some ⟨g, 0, none⟩) D.length c, .slice (some ⟨gn, 0, none⟩) ns.length cn, .int .i64 0]) 4 (.slice (some ⟨gn, 0, none⟩) ns.length cn) (by simp) rfl).set (l' := [.int .i64 gx, .int .i64 gy, .int .i64 gz, .slice (some ⟨g, 0, none⟩) D.length c, .slice (some ⟨gn, 0, none⟩) ns.length cn, .int .i64 go]) 5 (.int .i64 go) (by simp) rfl)⟩
  · have k2 := kp.trans hW (by omega)
    exact ⟨cns_own (own_kp oD k2 (Nat.le_refl _)) (fun q hq => ⟨(hQ q hq).1.kp k2 (Nat.le_refl _), (hQ q hq).2.kp k2 (Nat.le_refl _)⟩), nds_own (own_kp oN k2 (Nat.le_refl _)) hw⟩
  · exact (own_kp oN kp (Nat.le_refl _)).frozenAt j
  · have k2 : KpX (w.heap.size + 1 + 1) gn w6 W := ⟨Nat.le_trans kp.1 hW.1, fun i hi hl hne => (hW.2 i (by omega) (Nat.lt_of_lt_of_le hl kp.1) hne).trans (kp.2 i hi hl)⟩
    exact cns_own (own_kpx oD oN (by decide) k2 (Nat.le_refl _)) (fun q hq => ⟨(hQ q hq).1.kpx oN (by decide) k2 (Nat.le_refl _), (hQ q hq).2.kpx oN (by decide) k2 (Nat.le_refl _)⟩)
theorem ints_news {k : IntKind} {w W : World} {b off : Nat} {l : List Int} {c : Nat} (h : IntsIn k w (some ⟨b, off, none⟩) l c) (hb : Below w.heap.size w W) (m : Nat) : ∀ j u, ((l.take m).map fun z => Value.int k z)[j]? = some u → W.cell? ((⟨b, off, none⟩ : Addr).add j) = some u := by
  intro j u hu
  rw [List.getElem?_map] at hu
  obtain ⟨z, hz, rfl⟩ := Option.map_eq_some_iff.1 hu
  have hz' : l[j]? = some z := by
    rw [List.getElem?_take] at hz
    split at hz
    · exact hz
    · cases hz
  obtain ⟨_, b', off', hbo, hlt, hc⟩ := ints_cell h j z hz'
  injection hbo with hbo
  injection hbo with e1 e2 e3
  subst e1 e2
  rw [Addr.add_mid]
  exact (hb.cell (p := ⟨b, off + j, none⟩) hlt).trans hc
theorem ints_one (k : IntKind) (l : List Int) : ∀ u ∈ l.map (fun z => Value.int k z), u.oneCell' = true := by
  intro u hu
  obtain ⟨z, _, rfl⟩ := List.mem_map.1 hu
  rfl
theorem ints_none {k : IntKind} {w : World} {a : Option Addr} {l : List Int} {c : Nat} (h : IntsIn k w a l c) (ha : a = none) : l = [] := by
  cases l with
  | nil => rfl
  | cons z l =>
    obtain ⟨_, b, off, h1, _⟩ := ints_cell h 0 z rfl
    rw [ha] at h1
    cases h1
theorem ints_newsA {k : IntKind} {w W : World} {a : Option Addr} {l : List Int} {c : Nat} (h : IntsIn k w a l c) (hb : Below w.heap.size w W) (m : Nat) : ∀ A, a = some A → ∀ j u, ((l.take m).map fun z => Value.int k z)[j]? = some u → W.cell? (A.add j) = some u := by
  intro A hA j u hu
  subst hA
  have hu' := hu
  rw [List.getElem?_map] at hu
  obtain ⟨z, hz, _⟩ := Option.map_eq_some_iff.1 hu
  have hz' : l[j]? = some z := by
    rw [List.getElem?_take] at hz
    split at hz
    · exact hz
    · cases hz
  obtain ⟨_, b', off', hbo, _, _⟩ := ints_cell h j z hz'
  obtain rfl : A = ⟨b', off', none⟩ := Option.some.inj hbo
  exact ints_news h hb m j u hu'
end Go.Proofs.Ytmifojpmomdmeaa
