/- A runner, part B: what single operations come to. -/
import Derived.Test.YtmmhoemddfncmaaExeA
namespace Go.Proofs.Ytmmhoemddfncmaa
open Go Go.RowKit
set_option linter.unusedVariables false
set_option linter.unusedSimpArgs false

section
variable {P : Program} {N0 : Nat} {w0 w : World} {β : Bs} {H : Hp}

/-- is it one of several cells? -/
def aggB (P : Program) (t : TypeId) : Option Bool :=
  match P.underlying t with
  | some (.struct _) | some (.array _ _) => some true
  | some _ => some false
  | none => none
theorem run_isAgg {t : TypeId} {b : Bool} (h : aggB P t = some b) : (isAgg t).run P w = .ok b w := by
  unfold aggB at h
  cases hu : P.underlying t with
  | none => rw [hu] at h; cases h
  | some d =>
    rw [hu] at h
    cases d <;> simp at h <;> subst h <;> simp [isAgg, run_underlying hu]
def sizeB (P : Program) (t : TypeId) : Option Nat := (P.info? t).map (·.size)
theorem run_sizeOf {t : TypeId} {n : Nat} (h : sizeB P t = some n) : (sizeOf t).run P w = .ok n w := by
  unfold sizeB at h
  cases hi : P.info? t with
  | none => rw [hi] at h; cases h
  | some i => rw [hi] at h; simp at h; subst h; simp [sizeOf, typeInfo, hi]
theorem addr_add (b o n : Nat) : (⟨b, o, none⟩ : Addr).add n = ⟨b, o + n, none⟩ := by unfold Addr.add; split <;> simp_all

def aLoad (P : Program) (H : Hp) (t : TypeId) : Value → Option Value
  | .pointer (some ⟨i, off, none⟩) =>
    match H.get i with
    | .live k =>
      match aggB P t, sizeB P t with
      | some true, some n => if ((k.cells.drop off).take n).length = n then some (.agg ((k.cells.drop off).take n).toArray) else none
      | some false, some _ => k.cells[off]?
      | _, _ => none
    | _ => none
  | _ => none
theorem seg_cells {b off : Nat} {k : Blk} (h : ∀ (j : Nat) (v : Value), k.cells[j]? = some v → ∃ v', w.cell? ⟨b, j, none⟩ = some v' ∧ R0 β v v') : ∀ (n : Nat), ((k.cells.drop off).take n).length = n →
    ∃ l' : List Value, l'.length = n ∧ All2 (R0 β) ((k.cells.drop off).take n) l' ∧ ∀ j v, l'[j]? = some v → w.cell? ((⟨b, off, none⟩ : Addr).add j) = some v
  | 0, _ => ⟨[], rfl, by simp; exact .nil, fun j v hj => by simp at hj⟩
  | n + 1, hn => by
    rw [List.length_take, List.length_drop] at hn
    have hlt : off + n < k.cells.length := by omega
    obtain ⟨l', h1, h2, h3⟩ := seg_cells (off := off) h n (by rw [List.length_take, List.length_drop]; omega)
    obtain ⟨v', hv, hr⟩ := h (off + n) k.cells[off + n] (by simp [hlt])
    refine ⟨l' ++ [v'], by simp [h1], ?_, ?_⟩
    · rw [List.take_succ_eq_append_getElem (by rw [List.length_drop]; omega)]
      simp only [List.getElem_drop]
      exact h2.append (.cons hr .nil)
    · intro j v hj
      by_cases hjl : j < n
      · rw [List.getElem?_append_left (by omega)] at hj
        exact h3 j v hj
      · rw [List.getElem?_append_right (by omega)] at hj
        have hj0 : j - l'.length = 0 := by have := (List.getElem?_eq_some_iff.1 hj).1; simp at this; omega
        rw [hj0] at hj
        simp at hj; subst hj
        have : j = n := by omega
        rw [addr_add, this]; exact hv
theorem aLoad_ok {t : TypeId} {v v' u : Value} (h : aLoad P H t v = some u) (hv : RV β v v') (hs : HR N0 β H w) : ∃ u', (Instr.loadAt t v').run P w = .ok u' w ∧ RV β u u' := by
  unfold aLoad at h
  split at h
  · rename_i i off
    obtain ⟨b, x, hb, rfl⟩ := hv.ptr_inv
    split at h
    · rename_i k hk
      obtain ⟨b', x', hb', hcs⟩ := hs.rd i k hk
      rw [hb] at hb'; cases hb'
      split at h
      · rename_i n ha hn
        split at h
        · rename_i hl
          simp only [Option.some.injEq] at h; subst h
          obtain ⟨l', hl', h5, h6⟩ := seg_cells (off := off) hcs n hl
          have hr := run_loadCells_list (P := P) w ⟨b, off, none⟩ l' h6
          refine ⟨.agg l'.toArray, ?_, .one (.agg h5)⟩
          rw [hl'] at hr
          simp [Instr.loadAt, Instr.sureAddr, loadVar, run_isAgg ha, run_sizeOf hn, hr]
        · cases h
      · rename_i n ha hn
        obtain ⟨u', hu, hr⟩ := hcs off _ h
        exact ⟨u', by simp [Instr.loadAt, Instr.sureAddr, loadVar, run_isAgg ha, hu], .one (.base hr)⟩
      · cases h
    · cases h
  · cases h

def aStore (P : Program) (N0 : Nat) (H : Hp) (t : TypeId) (p v : Value) : Option Hp :=
  match p with
  | .pointer (some ⟨i, off, none⟩) =>
    match H.get i, cellsL v, sizeB P t with
    | .live k, some cs, some n => if N0 ≤ i ∧ cs.length = n ∧ off + n ≤ k.cells.length then some (H.put i (.live { k with cells := k.cells.take off ++ cs ++ k.cells.drop (off + n) })) else none
    | _, _, _ => none
  | _ => none
theorem put_cells {i b x off : Nat} {k : Blk} {cs : Array Value} (hs : HS N0 w0 β H w) (hN : N0 ≤ i) (hk : H.get i = .live k) (hb : β i = some (b, x)) (hg : w.heap[b]? = some (.cells cs k.elem (0, 0)))
    (h3 : All2 (R0 β) k.cells (cs.toList.take k.cells.length)) (h4 : cs.size = k.cells.length + x * k.unit) (h5 : k.opn = false → x = 0) (h6 : k.capN + x ≤ maxLen)
    {l l' : List Value} (hl : All2 (R0 β) l l') (hfit : off + l.length ≤ k.cells.length) :
    HS N0 w0 β (H.put i (.live { k with cells := k.cells.take off ++ l ++ k.cells.drop (off + l.length) })) (w.setRow b (cs.toList.take off ++ l' ++ cs.toList.drop (off + l'.length)).toArray) := by
  have hll := hl.length
  have hlen : (k.cells.take off ++ l ++ k.cells.drop (off + l.length)).length = k.cells.length := by simp; omega
  refine hs.write hN hk hb hg rfl ?_ ?_ h5 h6
  · simp only [hlen]
    have e : (cs.toList.take off ++ l' ++ cs.toList.drop (off + l'.length)).take k.cells.length = (cs.toList.take k.cells.length).take off ++ l' ++ (cs.toList.take k.cells.length).drop (off + l'.length) := by
      apply List.ext_getElem?
      intro j
      have hsz : k.cells.length ≤ cs.toList.length := by simp [h4]
      simp only [List.getElem?_take, List.getElem?_append, List.length_append, List.length_take, List.getElem?_drop]
      rw [← hll]
      have m1 : min off cs.toList.length = off := by omega
      have m2 : min off (min k.cells.length cs.toList.length) = off := by omega
      rw [m1, m2]
      by_cases c1 : j < k.cells.length
      · by_cases c2 : j < off + l.length
        · by_cases c3 : j < off
          · simp [c1, c2, c3]
          · simp [c1, c2, c3]
        · have c4 : off + l.length + (j - (off + l.length)) = j := by omega
          simp [c1, c2, c4]
      · have c2 : ¬ j < off + l.length := by omega
        have c4 : off + l.length + (j - (off + l.length)) = j := by omega
        simp [c1, c2, c4]
    show All2 (R0 β) _ ((cs.toList.take off ++ l' ++ cs.toList.drop (off + l'.length)).take k.cells.length)
    rw [e, ← hll]
    exact ((h3.take off).append hl).append (h3.drop _)
  · simp only [hlen, ← h4]
    simp
    have : cs.size = cs.toList.length := by simp
    omega
theorem oneCells {l l' : List Value} (h : All2 (R0 β) l l') : ∀ v ∈ l', v.oneCell' = true := by
  induction h with
  | nil => simp
  | cons h _ ih => intro v hv; cases hv with
    | head => exact h.one
    | tail _ hv => exact ih v hv
theorem aStore_ok {t : TypeId} {p p' v v' : Value} {H' : Hp} (h : aStore P N0 H t p v = some H') (hp : RV β p p') (hv : RV β v v') (hs : HS N0 w0 β H w) : ∃ w', (Instr.storeAt t p' v').run P w = .ok () w' ∧ HS N0 w0 β H' w' := by
  unfold aStore at h
  split at h
  · rename_i i off
    obtain ⟨b, x, hb, rfl⟩ := hp.ptr_inv
    split at h
    · rename_i k l n hk hl hn
      split at h
      · rename_i hc
        obtain ⟨c1, c2, c3⟩ := hc
        simp only [Option.some.injEq] at h; subst h
        obtain ⟨b', x', cs, hb', hg, h3, h4, h5, h6⟩ := hs.blk i k c1 hk
        rw [hb] at hb'; cases hb'
        have hcs := hv.cells hl
        subst c2
        have hw := put_cells (off := off) hs c1 hk hb hg h3 h4 h5 h6 hcs (by omega)
        have hst := run_storeCells_at P b off k.elem v'.cells.toList 0 cs w hg (by rw [← hcs.length, h4]; omega) (oneCells hcs)
        refine ⟨_, ?_, hw⟩
        have hsz : v'.cells.size = l.length := by have := hcs.length; simpa using this.symm
        simp only [Nat.add_zero] at hst
        simp [Instr.storeAt, Instr.sureAddr, storeVar, run_sizeOf hn, hsz, hst]
      · cases h
    · cases h
  · cases h

/-- a new variable -/
def aNew (P : Program) (H : Hp) (at_ : Nat) (t : TypeId) (v : Value) : Option (Value × Hp) :=
  match cellsL v, H.get at_ with
  | some cs, .resv => some (.pointer (some ⟨at_, 0, none⟩), H.put at_ (.live { cells := cs, elem := t, unit := 1, capN := 1, opn := false }))
  | _, _ => none
theorem aNew_ok {at_ : Nat} {t : TypeId} {v v' u : Value} {H' : Hp} (h : aNew P H at_ t v = some (u, H')) (hv : RV β v v') (hs : HS N0 w0 β H w) :
    ∃ a w' β', (newVar t v').run P w = .ok a w' ∧ Ext β β' ∧ RV β' u (.pointer (some a)) ∧ HS N0 w0 β' H' w' := by
  unfold aNew at h
  split at h
  · rename_i cs hc hj
    simp only [Option.some.injEq, Prod.mk.injEq] at h
    obtain ⟨rfl, rfl⟩ := h
    have hcs := hv.cells hc
    obtain ⟨a1, a2, a3⟩ := hs.alloc hj { cells := cs, elem := t, unit := 1, capN := 1, opn := false } 0 v'.cells w (.inl rfl) (by rw [hcs.length, List.take_length]; exact hcs) (by have := hcs.length; simpa using this.symm) (fun _ => rfl) (by show 1 + 0 ≤ maxLen; decide)
    exact ⟨_, _, _, rfl, a2, .one (.base (.ptr a3)), a1⟩
  · cases h

/-- reslicing, lengths -/
def natOf : Value → Option Nat
  | .int _ (.ofNat n) => some n
  | _ => none
theorem natOf_inv {v v' : Value} {n : Nat} (h : natOf v = some n) (hv : RV β v v') : ∃ k, v' = .int k n := by
  cases v <;> simp [natOf] at h
  rename_i k m
  cases m <;> simp at h
  subst h
  exact ⟨k, hv.int_inv⟩

def bndOf (d : Nat) : Option Value → Option Nat
  | some v => natOf v
  | none => some d
def IsBnd (d l : Nat) : Option Value → Prop
  | some v => ∃ k, v = Value.int k (l : Int)
  | none => l = d
def aSlice (P : Program) (H : Hp) (t : TypeId) (x : Value) (lo hi : Option Value) : Option Value :=
  match P.underlying t, x with
  | some (.slice e), .slice a n c =>
    let l := bndOf 0 lo
    let h := bndOf n hi
    match l, h, sizeB P e with
    | some l, some h, some z => if l ≤ h ∧ h ≤ c ∧ l < c then
        match a with
        | some ⟨i, o, sp⟩ => some (.slice (some ⟨i, o + l * z, sp⟩) (h - l) (c - l))
        | _ => none
      else if l = 0 ∧ h = 0 ∧ a.isNone = true ∧ n = 0 ∧ c = 0 then some (.slice none 0 0) else none
    | _, _, _ => none
  | some (.array n e), .pointer (some ⟨i, o, none⟩) =>
    let l := bndOf 0 lo
    let h := bndOf n hi
    match l, h, sizeB P e with
    | some l, some h, some z => if l ≤ h ∧ h ≤ n ∧ l < n then some (.slice (some ⟨i, o + l * z, some 0⟩) (h - l) (n - l)) else none
    | _, _, _ => none
  | _, _ => none
/-- a slice with a capacity told -/
def aSlice3 (P : Program) (t : TypeId) (x : Value) (lo hi mx : Option Value) : Option Value :=
  match P.underlying t, x with
  | some (.slice e), .slice (some ⟨i, o, sp⟩) n c =>
    match bndOf 0 lo, hi.bind natOf, mx.bind natOf, sizeB P e with
    | some l, some h, some m, some z => if l ≤ h ∧ h ≤ m ∧ m ≤ c ∧ (l < m ∨ l = 0) then some (.slice (some ⟨i, o + l * z, some 0⟩) (h - l) (m - l)) else none
    | _, _, _, _ => none
  | _, _ => none
theorem run_bounds {b : Bool} {n c : Nat} {lo hi : Option Value} {l h : Nat} (hl : IsBnd 0 l lo) (hh : IsBnd n h hi)
    (h1 : l ≤ h) (h2 : h ≤ c) : (Instr.sliceBounds b n c lo hi none).run P w = .ok (l, h, c) w := by
  have i1 : ((l : Nat) : Int) ≤ (h : Int) := by omega
  have i2 : ((h : Nat) : Int) ≤ (c : Int) := by omega
  have i3 : (0 : Int) ≤ (l : Int) := by omega
  have i4 : (0 : Int) ≤ (h : Int) := by omega
  cases lo with
  | none =>
    cases hi with
    | none => subst hl; subst hh; simp [Instr.sliceBounds]
    | some v => subst hl; obtain ⟨k, rfl⟩ := hh; simp [Instr.sliceBounds, Instr.sliceBound, asIntOf, h2]
  | some u =>
    cases hi with
    | none => subst hh; obtain ⟨k, rfl⟩ := hl; simp [Instr.sliceBounds, Instr.sliceBound, asIntOf, h1]
    | some v => obtain ⟨k, rfl⟩ := hl; obtain ⟨k', rfl⟩ := hh; simp [Instr.sliceBounds, Instr.sliceBound, asIntOf, h1, h2]
inductive RO (β : Bs) : Option Value → Option Value → Prop
  | no : RO β none none
  | so {v v' : Value} : RV β v v' → RO β (some v) (some v')
theorem RO.bound {lo lo' : Option Value} (h : RO β lo lo') {d l : Nat} (hl : bndOf d lo = some l) : IsBnd d l lo' := by
  cases h with
  | no => simpa [bndOf, IsBnd] using hl.symm
  | so hv => exact natOf_inv hl hv
theorem aSlice_ok {t : TypeId} {x x' u : Value} {lo lo' hi hi' : Option Value} (h : aSlice P H t x lo hi = some u) (hx : RV β x x') (hl : RO β lo lo') (hh : RO β hi hi') (hs : HR N0 β H w) :
    ∃ u', (Instr.sliceAt t x' lo' hi' none).run P w = .ok u' w ∧ RV β u u' := by
  unfold aSlice at h
  split at h
  · rename_i e a n c hu
    simp only at h
    split at h
    · rename_i l hh' z el eh ez
      have bl := hl.bound el
      have bh := hh.bound eh
      split at h
      · rename_i hc
        obtain ⟨c1, c2, c3⟩ := hc
        split at h
        · rename_i i o sp
          obtain ⟨b, xx, hb, rfl⟩ := hx.slp_inv
          simp only [Option.some.injEq] at h; subst h
          have hr := run_bounds (P := P) (w := w) (b := true) (n := n) (c := c + xo sp xx) bl bh c1 (by omega)
          refine ⟨.slice (some ⟨b, o + l * z, none⟩) (hh' - l) (c - l + xo sp xx), ?_, .one (.base (.slp hb))⟩
          have hne : ¬ (c + xo sp xx = l) := by omega
          have he : c + xo sp xx - l = c - l + xo sp xx := by omega
          simp [Instr.sliceAt, Instr.slice, run_underlying hu, hr, run_sizeOf ez, hne, addr_add, he]
        · cases h
      · split at h
        · rename_i hc
          obtain ⟨rfl, rfl, hn, rfl, rfl⟩ := hc
          simp only [Option.some.injEq] at h; subst h
          have : a = none := by simpa using hn
          subst this
          have hx' : x' = .slice none 0 0 := hx.eq_flat rfl
          subst hx'
          have hr := run_bounds (P := P) (w := w) (b := true) (n := 0) (c := 0) bl bh (Nat.le_refl _) (Nat.le_refl _)
          exact ⟨_, by simp [Instr.sliceAt, Instr.slice, run_underlying hu, hr, run_sizeOf ez], .of_flat rfl⟩
        · cases h
    · cases h
  · rename_i n e i o hu
    simp only at h
    split at h
    · rename_i l hh' z el eh ez
      have bl := hl.bound el
      have bh := hh.bound eh
      split at h
      · rename_i hc
        obtain ⟨c1, c2, c3⟩ := hc
        obtain ⟨b, xx, hb, rfl⟩ := hx.ptr_inv
        simp only [Option.some.injEq] at h; subst h
        have hr := run_bounds (P := P) (w := w) (b := false) (n := n) (c := n) bl bh c1 c2
        refine ⟨.slice (some ⟨b, o + l * z, none⟩) (hh' - l) (n - l + 0), ?_, .one (.base (.slp (sp := some 0) hb))⟩
        have hne : ¬ (n = l) := by omega
        simp [Instr.sliceAt, run_underlying hu, Instr.sureAddr, hr, run_sizeOf ez, hne, addr_add]
      · cases h
    · cases h
  · cases h
theorem aSlice3_ok {t : TypeId} {x x' u : Value} {lo lo' hi hi' mx mx' : Option Value} (h : aSlice3 P t x lo hi mx = some u) (hx : RV β x x') (hl : RO β lo lo') (hh : RO β hi hi') (hm : RO β mx mx') :
    ∃ u', (Instr.sliceAt t x' lo' hi' mx').run P w = .ok u' w ∧ RV β u u' := by
  unfold aSlice3 at h
  split at h
  · rename_i e i o sp n c hu
    split at h
    · rename_i l hh' m z el eh em ez
      have bl := hl.bound el
      split at h
      · rename_i hc
        obtain ⟨c1, c2, c3, c4⟩ := hc
        obtain ⟨b, xx, hb, rfl⟩ := hx.slp_inv
        simp only [Option.some.injEq] at h; subst h
        cases hh with
        | no => cases eh
        | so hh =>
        cases hm with
        | no => cases em
        | so hm =>
        obtain ⟨kh, rfl⟩ := natOf_inv eh hh
        obtain ⟨km, rfl⟩ := natOf_inv em hm
        have q : m ≤ c + xo sp xx := by omega
        generalize c + xo sp xx = C at q
        have hr : (Instr.sliceBounds true n C lo' (some (.int kh hh')) (some (.int km m))).run P w = .ok (l, hh', m) w := by
          cases lo' with
          | none => have e0 : l = 0 := bl; subst e0; simp [Instr.sliceBounds, Instr.sliceBound, asIntOf, c2, q]
          | some u => obtain ⟨k, rfl⟩ := bl; simp [Instr.sliceBounds, Instr.sliceBound, asIntOf, c1, c2, q]
        refine ⟨.slice (some ⟨b, o + l * z, none⟩) (hh' - l) (m - l + 0), ?_, .one (.base (.slp (sp := some 0) hb))⟩
        simp only [Instr.sliceAt, Instr.slice, Sem.run_bind, run_underlying hu, Result.andThen_ok, hr, run_sizeOf ez, Sem.run_pure, Option.map_some, addr_add]
        by_cases hml : m = l
        · have : l = 0 := by omega
          simp [hml, this]
        · simp [hml]
      · cases h
    · cases h
  · cases h
end
end Go.Proofs.Ytmmhoemddfncmaa
