/- A runner, part D: literals, makes, appends, copies, comparisons with nil. -/
import Derived.Test.YtmmhoemddfncmaaExeC
namespace Go.Proofs.Ytmmhoemddfncmaa
open Go Go.RowKit
set_option linter.unusedVariables false
set_option linter.unusedSimpArgs false

section
variable {P : Program} {N0 : Nat} {w0 w : World} {β : Bs} {H : Hp}

def zeroB (P : Program) (t : TypeId) : Option Value := (P.info? t).bind (·.zero)
theorem run_zeroValue {t : TypeId} {v : Value} (h : zeroB P t = some v) : (zeroValue t).run P w = .ok v w := by
  unfold zeroB at h
  cases hi : P.info? t with
  | none => rw [hi] at h; cases h
  | some i => rw [hi] at h; simp at h; simp [zeroValue, typeInfo, hi, h]

def AllP (β : Bs) : List (Nat × Value) → List (Nat × Value) → Prop := All2 (fun a b => a.1 = b.1 ∧ RV β a.2 b.2)
def aBuild (P : Program) (t : TypeId) (parts : List (Nat × Value)) : Option Value :=
  match zeroB P t, P.underlying t with
  | some z, some (.struct fs) =>
    match semPure P (fs.mapM fun f => do pure (f.offset, ← sizeOf f.type)) with
    | some places => if z.cells.toList.all flatL then (aFill (places[·]?) z.cells.toList parts).map fun cs => .agg cs.toArray else none
    | none => none
  | some z, some (.array _ e) =>
    match sizeB P e with
    | some s => if z.cells.toList.all flatL then (aFill (fun i => some (i * s, s)) z.cells.toList parts).map fun cs => .agg cs.toArray else none
    | none => none
  | _, _ => none
theorem flats {l : List Value} (h : l.all flatL = true) : All2 (R0 β) l l := All2.self fun x hx => .flat (List.all_eq_true.1 h x hx)
theorem aBuild_ok {t : TypeId} {parts : List (Nat × Value)} {parts' : Array (Nat × Value)} {u : Value} (h : aBuild P t parts = some u) (hp : AllP β parts parts'.toList) :
    ∃ u', (Instr.build t parts').run P w = .ok u' w ∧ RV β u u' := by
  unfold aBuild at h
  split at h
  · rename_i z fs hz hu
    split at h
    · rename_i places hpl
      split at h
      · rename_i hf
        simp only [Option.map_eq_some_iff] at h
        obtain ⟨cs, hc, rfl⟩ := h
        obtain ⟨cs', g1, g2⟩ := aFill_ok _ _ _ _ _ hc (flats hf) hp
        refine ⟨.agg cs', ?_, ?_⟩
        · have := semPure_ok (w := w) hpl
          simp only [bind_pure_comp] at this
          simp only [Array.toArray_toList] at g1
          simp [Instr.build, run_zeroValue hz, run_underlying hu, this, g1]
        · have := RV.one (.agg g2); simpa using this
      · cases h
    · cases h
  · rename_i z n e hz hu
    split at h
    · rename_i s hs
      split at h
      · rename_i hf
        simp only [Option.map_eq_some_iff] at h
        obtain ⟨cs, hc, rfl⟩ := h
        obtain ⟨cs', g1, g2⟩ := aFill_ok _ _ _ _ _ hc (flats hf) hp
        refine ⟨.agg cs', ?_, ?_⟩
        · simp only [Array.toArray_toList] at g1
          simp [Instr.build, run_zeroValue hz, run_underlying hu, run_sizeOf hs, g1]
        · have := RV.one (.agg g2); simpa using this
      · cases h
    · cases h
  · cases h

/-- a new row -/
def rowBlk (e : TypeId) (cs : List Value) (unit n : Nat) : Blk := { cells := cs, elem := e, unit := unit, capN := n, opn := false }
theorem row_ok {at_ : Nat} {e : TypeId} {cs : List Value} {cs' : Array Value} {unit n : Nat} (hj : H.get at_ = .resv) (hc : All2 (R0 β) cs cs'.toList) (hn : n ≤ maxLen) (hs : HS N0 w0 β H w) {l : Nat} :
    ∃ β', Ext β β' ∧ RV β' (.slice (some ⟨at_, 0, none⟩) l n) (.slice (some ⟨w.heap.size, 0, none⟩) l n) ∧ HS N0 w0 β' (H.put at_ (.live (rowBlk e cs unit n))) (w.alloc (.cells cs' e)) := by
  obtain ⟨a1, a2, a3⟩ := hs.alloc hj (rowBlk e cs unit n) 0 cs' w (.inl rfl) (by show All2 _ cs _; rw [show (rowBlk e cs unit n).cells.length = cs'.toList.length from hc.length, List.take_length]; exact hc) (by have := hc.length; simp [rowBlk]; simpa using this.symm) (fun _ => rfl) (by simpa [rowBlk] using hn)
  exact ⟨_, a2, .one (.base (.slc (x := 0) a3)), a1⟩

def isResv : Ent → Bool
  | .resv => true
  | _ => false
theorem isResv_ok {e : Ent} (h : isResv e = true) : e = .resv := by cases e <;> simp_all [isResv]
def repL (z : List Value) : Nat → List Value
  | 0 => []
  | n + 1 => z ++ repL z n
theorem repL_len (z : List Value) : ∀ n, (repL z n).length = n * z.length
  | 0 => by simp [repL]
  | n + 1 => by simp only [repL, List.length_append, repL_len z n, Nat.add_mul]; omega
theorem repL_get (z : List Value) : ∀ (n i : Nat), i < n * z.length → (repL z n)[i]? = z[i % z.length]?
  | 0, i, h => by simp at h
  | n + 1, i, h => by
    simp only [repL]
    by_cases hi : i < z.length
    · rw [List.getElem?_append_left hi, Nat.mod_eq_of_lt hi]
    · have hge : z.length ≤ i := by omega
      rw [List.getElem?_append_right hge, repL_get z n (i - z.length) (by rw [Nat.add_mul] at h; omega)]
      exact congrArg (z[·]?) (Nat.mod_eq_sub_mod hge).symm
theorem made_eq {z : Array Value} {n s : Nat} (hs : z.size = s) : madeCells z (n * s) = (repL z.toList n).toArray := by
  apply Array.ext'
  apply List.ext_getElem?
  intro i
  subst hs
  simp only [madeCells, Array.toList_map, Array.toList_range, List.getElem?_map, List.toList_toArray]
  by_cases hi : i < n * z.size
  · rw [List.getElem?_range hi, repL_get _ _ _ (by simpa using hi)]
    have hz : 0 < z.size := by
      rcases Nat.eq_zero_or_pos z.size with h | h
      · rw [h] at hi; simp at hi
      · exact h
    have hlt : i % z.size < z.size := Nat.mod_lt _ hz
    simp [hlt]
  · rw [List.getElem?_eq_none (by simp; omega), List.getElem?_eq_none (by rw [repL_len]; simp; omega)]
    rfl
theorem repL_flat {z : List Value} (h : z.all flatL = true) : ∀ n, (repL z n).all flatL = true
  | 0 => rfl
  | n + 1 => by simp only [repL, List.all_append, h, repL_flat h n, Bool.and_self]
def aBuildSlice (P : Program) (H : Hp) (at_ : Nat) (t : TypeId) (len : Nat) (parts : List (Nat × Value)) : Option (Value × Hp) :=
  match P.underlying t with
  | some (.slice e) =>
    match sizeB P e, zeroB P e with
    | some s, some z =>
      if len * s ≤ 16777216 ∧ len ≤ 16777216 ∧ isResv (H.get at_) = true then
        if z.cells.toList.all flatL = true ∧ z.cells.size = s then
          match aFill (fun i => some (i * s, s)) (repL z.cells.toList len) parts with
          | some cs => some (.slice (some ⟨at_, 0, none⟩) len len, H.put at_ (.live (rowBlk e cs s len)))
          | none => none
        else none
      else none
    | _, _ => none
  | _ => none
theorem maxLen_big {n : Nat} (h : n ≤ 16777216) : n ≤ maxLen := by simp only [maxLen]; omega
theorem aBuildSlice_ok {at_ : Nat} {t : TypeId} {len : Nat} {parts : List (Nat × Value)} {parts' : Array (Nat × Value)} {u : Value} {H' : Hp} (h : aBuildSlice P H at_ t len parts = some (u, H')) (hp : AllP β parts parts'.toList) (hs : HS N0 w0 β H w) :
    ∃ u' w' β', (Instr.buildSlice t len parts').run P w = .ok u' w' ∧ Ext β β' ∧ RV β' u u' ∧ HS N0 w0 β' H' w' := by
  unfold aBuildSlice at h
  split at h
  · rename_i e hu
    split at h
    · rename_i s z hsz hz
      split at h
      · rename_i hlen
        obtain ⟨hl1, hl2, hres⟩ := hlen
        split at h
        · rename_i hf
          obtain ⟨hf, hzs⟩ := hf
          split at h
          · rename_i cs hc
            simp only [Option.some.injEq, Prod.mk.injEq] at h
            obtain ⟨rfl, rfl⟩ := h
            obtain ⟨cs', g1, g2⟩ := aFill_ok _ _ _ _ _ hc (flats (repL_flat hf len)) hp
            rw [← made_eq hzs] at g1
            obtain ⟨β', b1, b2, b3⟩ := row_ok (e := e) (unit := s) (l := len) (isResv_ok hres) g2 (maxLen_big hl2) hs
            refine ⟨_, _, β', ?_, b1, b2, b3⟩
            have hno : ¬ (16777216 < len * s) := by omega
            simp only [madeCells] at g1
            by_cases h0 : len * s = 0
            · rw [h0] at g1
              simp [Array.range_zero'] at g1
              simp [Instr.buildSlice, run_underlying hu, run_sizeOf hsz, h0, g1, newRow, Array.range_zero']
            · simp [Instr.buildSlice, run_underlying hu, run_sizeOf hsz, hno, h0, run_zeroValue hz, g1, newRow]
          · cases h
        · cases h
      · cases h
    · cases h
  · cases h

def aMake (P : Program) (H : Hp) (at_ : Nat) (t : TypeId) (l c : Value) : Option (Value × Hp) :=
  match P.underlying t, natOf l, natOf c with
  | some (.slice e), some l, some c =>
    match P.info? e with
    | some i => match i.zero with
      | some z =>
        let zs := repL z.cells.toList c
        if l ≤ c ∧ i.bytes * c ≤ 281474976710656 ∧ c ≤ 16777216 ∧ (z.cells.toList.all flatL = true ∧ z.cells.size = i.size) ∧ isResv (H.get at_) = true then some (.slice (some ⟨at_, 0, none⟩) l c, H.put at_ (.live (rowBlk e zs i.size c))) else none
      | none => none
    | none => none
  | _, _, _ => none
theorem aMake_ok {at_ : Nat} {t : TypeId} {l c l' c' u : Value} {H' : Hp} (h : aMake P H at_ t l c = some (u, H')) (hl : RV β l l') (hc : RV β c c') (hs : HS N0 w0 β H w) :
    ∃ u' w' β', (Instr.makeSlice t l' c').run P w = .ok u' w' ∧ Ext β β' ∧ RV β' u u' ∧ HS N0 w0 β' H' w' := by
  unfold aMake at h
  split at h
  · rename_i e ln cn hu hln hcn
    split at h
    · rename_i i hi
      split at h
      · rename_i z hz
        simp only at h
        split at h
        · rename_i hcond
          obtain ⟨h1, h2, h3, h4, hres⟩ := hcond
          simp only [Option.some.injEq, Prod.mk.injEq] at h
          obtain ⟨rfl, rfl⟩ := h
          obtain ⟨kl, rfl⟩ := natOf_inv hln hl
          obtain ⟨kc, rfl⟩ := natOf_inv hcn hc
          obtain ⟨β', b1, b2, b3⟩ := row_ok (e := e) (unit := i.size) (l := ln) (n := cn) (isResv_ok hres) (cs' := madeCells z.cells (cn * i.size)) (by rw [made_eq h4.2]; exact flats (repL_flat h4.1 cn)) (maxLen_big h3) hs
          have hr := run_make (P := P) w t e i z hu hi hz kl kc ln cn (by omega) (by omega) (by rw [← Int.natCast_mul]; omega) (by omega)
          simp only [Int.toNat_natCast] at hr
          exact ⟨_, _, β', hr, b1, b2, b3⟩
        · cases h
      · cases h
    · cases h
  · cases h

/-- a block is taken over under a new number, with more known of it -/
theorem HS.adopt {j i b x x' : Nat} {k k' : Blk} {cs cs' : Array Value} (hs : HS N0 w0 β H w) (hj : H.get j = .resv) (hN : N0 ≤ i) (hk : H.get i = .live k) (hb : β i = some (b, x))
    (hg : w.heap[b]? = some (.cells cs k.elem (0, 0))) (he : k'.elem = k.elem) (h3 : All2 (R0 β) k'.cells (cs'.toList.take k'.cells.length)) (h4 : cs'.size = k'.cells.length + x' * k'.unit) (h5 : k'.opn = true) (h6 : k'.capN + x' ≤ maxLen) :
    HS N0 w0 (upd β j (b, x')) ((H.put i .dead).put j (.live k')) (w.setRow b cs') ∧ Ext β (upd β j (b, x')) ∧ (upd β j (b, x')) j = some (b, x') := by
  have hbj := hs.resv j hj
  have e : Ext β (upd β j (b, x')) := Ext.upd hbj _
  have hnew := upd_same β j (b, x')
  have hbs : w0.heap.size ≤ b := hs.own i b x hN hb
  have hkill := hs.kill hk
  have hij : j ≠ i := by intro h; rw [h, hk] at hj; cases hj
  have hold : ∀ (a : Nat) (kk : Blk), ((H.put i .dead).put j (.live k')).get a = .live kk → (a ≠ i ∧ a ≠ j ∧ H.get a = .live kk) ∨ (a = j ∧ kk = k') := by
    intro a kk ha
    by_cases haj : a = j
    · subst haj
      rw [Hp.get_put_same hkill.wf] at ha; cases ha
      exact .inr ⟨rfl, rfl⟩
    · rw [Hp.get_put_other hkill.wf haj] at ha
      by_cases hai : a = i
      · subst hai; rw [Hp.get_put_same hs.wf] at ha; cases ha
      · rw [Hp.get_put_other hs.wf hai] at ha; exact .inl ⟨hai, haj, ha⟩
  have hjN : N0 ≤ j := by
    rcases Nat.lt_or_ge j N0 with hl | hl
    · rw [hs.glob j hl] at hbj; cases hbj
    · exact hl
  have hbel : Below w0.heap.size w (w.setRow b cs') := ⟨rfl, rfl, rfl, by simp, fun j hj => setRow_other w b j cs' (by omega)⟩
  have hblk : ∀ a kk, N0 ≤ a → ((H.put i .dead).put j (.live k')).get a = .live kk → BlkOk (upd β j (b, x')) a kk (w.setRow b cs') := by
    intro a kk hNa ha
    rcases hold a kk ha with ⟨hne, hnj, ha⟩ | ⟨rfl, rfl⟩
    · obtain ⟨b2, x2, c2, g1, g2, g3⟩ := hs.blk a kk hNa ha
      obtain ⟨b3, x3, c3, q1, q2, q3⟩ := BlkOk.mono e ⟨b2, x2, c2, g1, g2, g3⟩
      rw [e _ _ g1] at q1; cases q1
      refine ⟨b2, x2, c3, e _ _ g1, ?_, q3⟩
      rw [setRow_other w b b2 cs' (fun he => hne (hs.inj a i kk k _ _ hNa hN ha hk g1 hb he))]; exact q2
    · exact ⟨b, x', cs', hnew, by rw [he]; exact setRow_heap w b cs cs' k.elem (0, 0) hg, h3.mono (fun _ _ => R0.mono e), h4, (fun h => by rw [h5] at h; cases h), h6⟩
  refine ⟨{ rd := ?_, blk := hblk, glob := fun a ha => e _ _ (hs.glob a ha), gsz := hs.gsz, wf := Hp.put_wf hkill.wf _ _, below := hs.below.trans hbel, resv := ?_, own := ?_, inj := ?_ }, e, hnew⟩
  · intro a kk ha
    rcases Nat.lt_or_ge a N0 with hl | hl
    · rcases hold a kk ha with ⟨_, _, ha⟩ | ⟨rfl, _⟩
      · exact (hs.old hbel hl ha).mono e
      · omega
    · exact (hblk a kk hl ha).rd
  · intro a ha
    have hne : a ≠ j := by intro h; subst h; rw [Hp.get_put_same hkill.wf] at ha; cases ha
    rw [Hp.get_put_other hkill.wf hne] at ha
    rw [upd_other _ _ hne]; exact hkill.resv a ha
  · intro a b2 x2 ha hb2
    by_cases hne : a = j
    · subst hne; rw [hnew] at hb2; cases hb2; exact hbs
    · rw [upd_other _ _ hne] at hb2; exact hs.own a b2 x2 ha hb2
  · intro a c ka kc ba bc nA nC ha hc hba hbc heq
    rcases hold a ka ha with ⟨na, la, qa⟩ | ⟨la, _⟩ <;> rcases hold c kc hc with ⟨nc, lc, qc⟩ | ⟨lc, _⟩
    · rw [upd_other _ _ la] at hba
      rw [upd_other _ _ lc] at hbc
      exact hs.inj _ _ _ _ _ _ nA nC qa qc hba hbc heq
    · rw [upd_other _ _ la] at hba
      rw [lc, hnew] at hbc; cases hbc
      exact absurd (hs.inj _ _ _ _ _ _ nA hN qa hk hba hb heq) na
    · rw [upd_other _ _ lc] at hbc
      rw [la, hnew] at hba; cases hba
      exact absurd (hs.inj _ _ _ _ _ _ nC hN qc hk hbc hb heq.symm) nc
    · rw [la, lc]

/-- a slice's cells -/
def sliceCells (H : Hp) (u : Nat) : Value → Option (List Value)
  | .slice (some ⟨i, o, _⟩) m _ => match H.get i with
    | .live k => let cs := (k.cells.drop o).take (m * u); if cs.length = m * u then some cs else none
    | _ => none
  | _ => none
theorem sliceCells_ok {u : Nat} {v v' : Value} {l : List Value} (h : sliceCells H u v = some l) (hv : RV β v v') (hs : HR N0 β H w) :
    ∃ (a : Addr) (m c : Nat) (l' : List Value), v' = .slice (some a) m c ∧ (∃ a0 c0, v = .slice a0 m c0) ∧ l'.length = m * u ∧ All2 (R0 β) l l' ∧ ∀ j x, l'[j]? = some x → w.cell? (a.add j) = some x := by
  unfold sliceCells at h
  split at h
  · rename_i i o sp m c
    obtain ⟨b, x, hb, rfl⟩ := hv.slp_inv
    split at h
    · rename_i k hk
      simp only at h
      split at h
      · rename_i hl
        simp only [Option.some.injEq] at h; subst h
        obtain ⟨b', x', hb', hcs⟩ := hs.rd i k hk
        rw [hb] at hb'; cases hb'
        obtain ⟨l', q1, q2, q3⟩ := seg_cells (off := o) hcs (m * u) hl
        exact ⟨_, _, _, l', rfl, ⟨_, _, rfl⟩, q1, q2, q3⟩
      · cases h
    · cases h
  · cases h

def aAppend (P : Program) (N0 : Nat) (H : Hp) (at_ : Nat) (t : TypeId) (s x : Value) : Option (Value × Hp) :=
  match P.underlying t with
  | some (.slice e) => match P.info? e with
    | some i => match i.zero with
      | some z =>
        match x, s with
        | .slice none 0 0, .slice none 0 0 => some (.slice none 0 0, H)
        | .slice none 0 0, .slice (some ⟨b, 0, sp⟩) n c => if n ≤ c then some (.slice (some ⟨b, 0, sp⟩) n c, H) else none
        | .slice (some a) m _, .slice none 0 0 =>
          match sliceCells H i.size x with
          | some l => if m = 0 then some (.slice none 0 0, H) else if m * i.bytes ≤ 140737488355328 ∧ m ≤ 16777216 ∧ z.cells.size = i.size ∧ 0 < i.size ∧ isResv (H.get at_) = true then
              some (.slice (some ⟨at_, 0, none⟩) m m, H.put at_ (.live { cells := l, elem := e, unit := i.size, capN := m, opn := true })) else none
          | none => none
        | .slice (some a) m _, .slice (some ⟨b, 0, none⟩) n c =>
          match sliceCells H i.size x, H.get b with
          | some l, .live k =>
            if N0 ≤ b ∧ k.elem = e ∧ k.unit = i.size ∧ k.cells.length = k.capN * i.size ∧ k.capN = c ∧ n ≤ c ∧ (n + m) * i.bytes ≤ 140737488355328 ∧ n + m ≤ 16777216 ∧ z.cells.size = i.size ∧ 0 < i.size ∧ isResv (H.get at_) = true then
              if n + m ≤ c then some (.slice (some ⟨b, 0, none⟩) (n + m) c, H.put b (.live { k with cells := k.cells.take (n * i.size) ++ l ++ k.cells.drop (n * i.size + m * i.size) }))
              else some (.slice (some ⟨at_, 0, none⟩) (n + m) (n + m), (H.put b .dead).put at_ (.live { cells := k.cells.take (n * i.size) ++ l, elem := e, unit := i.size, capN := n + m, opn := true }))
            else none
          | _, _ => none
        | .slice (some a) m _, .slice (some ⟨b, o, some q⟩) n c =>
          match sliceCells H i.size x, sliceCells H i.size (.slice (some ⟨b, o, some q⟩) n c) with
          | some l, some old =>
            if c < n + m ∧ (n + m) * i.bytes ≤ 140737488355328 ∧ n + m ≤ 16777216 ∧ z.cells.size = i.size ∧ 0 < i.size ∧ isResv (H.get at_) = true then
              some (.slice (some ⟨at_, 0, none⟩) (n + m) (n + m), H.put at_ (.live { cells := old ++ l, elem := e, unit := i.size, capN := n + m, opn := true }))
            else none
          | _, _ => none
        | _, _ => none
      | none => none
    | none => none
  | _ => none
theorem aAppend_ok {at_ : Nat} {t ty : TypeId} {s s' x x' u : Value} {H' : Hp} (h : aAppend P N0 H at_ t s x = some (u, H')) (hs' : RV β s s') (hx : RV β x x') (hs : HS N0 w0 β H w) :
    ∃ u' w' β', (Builtin.append_ #[t, t] ty #[s', x']).run P w = .ok u' w' ∧ Ext β β' ∧ RV β' u u' ∧ HS N0 w0 β' H' w' := by
  unfold aAppend at h
  split at h
  rotate_left
  · cases h
  rename_i e ht
  split at h
  rotate_left
  · cases h
  rename_i i hi
  split at h
  rotate_left
  · cases h
  rename_i z hz
  split at h
  · simp only [Option.some.injEq, Prod.mk.injEq] at h
    obtain ⟨rfl, rfl⟩ := h
    obtain rfl := hs'.eq_flat rfl
    obtain rfl := hx.eq_flat rfl
    exact ⟨_, w, β, by simp [Builtin.append_, run_underlying ht, sizeOf, typeInfo, hi, Builtin.lenOf, Builtin.firstCells], Ext.refl _, .of_flat rfl, hs⟩
  · rename_i b sp n c
    split at h
    · rename_i hnc
      simp only [Option.some.injEq, Prod.mk.injEq] at h
      obtain ⟨rfl, rfl⟩ := h
      obtain rfl := hx.eq_flat rfl
      obtain ⟨b', xx, hb, rfl⟩ := hs'.slp_inv
      refine ⟨.slice (some ⟨b', 0, none⟩) n (c + xo sp xx), w, β, ?_, Ext.refl _, .one (.base (.slp hb)), hs⟩
      have : n ≤ c + xo sp xx := by omega
      simp [Builtin.append_, run_underlying ht, sizeOf, typeInfo, hi, Builtin.lenOf, Builtin.firstCells, this, storeCells]
    · cases h
  · rename_i a m cx
    split at h
    rotate_left
    · cases h
    rename_i l hl
    obtain rfl := hs'.eq_flat rfl
    obtain ⟨a', m', c', l', rfl, ⟨_, _, he⟩, h2, h3, h4⟩ := sliceCells_ok hl hx hs.toHR
    cases he
    split at h
    · rename_i hm
      subst hm
      simp only [Option.some.injEq, Prod.mk.injEq] at h
      obtain ⟨rfl, rfl⟩ := h
      have : l' = [] := List.eq_nil_of_length_eq_zero (by simpa using h2)
      exact ⟨_, w, β, by simp [Builtin.append_, run_underlying ht, sizeOf, typeInfo, hi, Builtin.lenOf, Builtin.firstCells, loadCells, loadCellsFrom], Ext.refl _, .of_flat rfl, hs⟩
    · rename_i hm
      split at h
      rotate_left
      · cases h
      rename_i hc
      obtain ⟨q1, q2, q3, q4, qj⟩ := hc
      simp only [Option.some.injEq, Prod.mk.injEq] at h
      obtain ⟨rfl, rfl⟩ := h
      have hr := run_append_nil (P := P) w t ty e i z ht hi hz a' m c' l' h2 h4 (by omega) (by omega) (by omega)
      have hge := grownCap_ge w m 0 e
      have hle := grownCap_le_maxLen w m 0 e (maxLen_big q2)
      have hll := h3.length
      obtain ⟨a1, a2, a3⟩ := hs.alloc (isResv_ok qj) { cells := l, elem := e, unit := i.size, capN := m, opn := true } (grownCap w m 0 e - m) (l'.toArray ++ Builtin.zeroCells z.cells (grownCap w m 0 e - m)) w.drew (.inr rfl)
        (by simp only [Array.toList_append]; rw [hll, List.take_left]; exact h3) (by simp only [Array.size_append, List.size_toArray, size_zeroCells, q3, hll]) (by intro h; cases h) (by show m + _ ≤ maxLen; omega)
      refine ⟨_, _, _, hr, a2, ?_, a1⟩
      have := RV.one (.base (R0.slc (o := 0) (n := m) (c := m) a3))
      rw [show m + (grownCap w m 0 e - m) = grownCap w m 0 e by omega] at this
      exact this
  · rename_i a m cx b n c
    split at h
    rotate_left
    · cases h
    rename_i l k hl hk
    obtain ⟨bb, xx, hb, rfl⟩ := hs'.slc_inv
    obtain ⟨a', m', c', l', rfl, ⟨_, _, he⟩, h2, h3, h4⟩ := sliceCells_ok hl hx hs.toHR
    cases he
    split at h
    rotate_left
    · cases h
    rename_i hc
    obtain ⟨r1, r2, r3, r4, r5, r6, r7, r8, r9, r10, rj⟩ := hc
    obtain ⟨b2, x2, cs, hb2, hg, g3, g4, g5, g6⟩ := hs.blk b k r1 hk
    rw [hb] at hb2; cases hb2
    have hll := h3.length
    have hcs : cs.size = (c + xx) * i.size := by rw [g4, r4, r3, r5, Nat.add_mul]
    rw [r2] at hg
    have hcl : k.cells.length = c * i.size := by rw [r4, r5]
    have hnc : n * i.size ≤ c * i.size := Nat.mul_le_mul_right _ r6
    have hold : All2 (R0 β) (k.cells.take (n * i.size)) (cs.toList.take (n * i.size)) := by
      have := g3.take (n * i.size)
      rwa [List.take_take, Nat.min_eq_left (by rw [hcl]; exact hnc)] at this
    split at h
    · rename_i hroom
      simp only [Option.some.injEq, Prod.mk.injEq] at h
      obtain ⟨rfl, rfl⟩ := h
      have hfit : n * i.size + l.length ≤ k.cells.length := by rw [hll, h2, hcl, ← Nat.add_mul]; exact Nat.mul_le_mul_right _ hroom
      have hr := run_append_room (P := P) w t ty e i ht hi bb n (c + xx) cs hg a' m c' l' h2 h4 (oneCells h3) (by omega) (by rw [hcs, h2, ← Nat.add_mul]; exact Nat.mul_le_mul_right _ (by omega))
      have hw := put_cells (off := n * i.size) hs r1 hk hb (by rw [r2]; exact hg) g3 g4 g5 g6 h3 hfit
      rw [show l.length = m * i.size by rw [hll, h2]] at hw
      refine ⟨_, _, β, hr, Ext.refl _, .one (.base (.slc hb)), hw⟩
    · rename_i hroom
      simp only [Option.some.injEq, Prod.mk.injEq] at h
      obtain ⟨rfl, rfl⟩ := h
      have hnl : (k.cells.take (n * i.size) ++ l).length = (n + m) * i.size := by
        rw [List.length_append, hll, h2, List.length_take, hcl, Nat.min_eq_left hnc, Nat.add_mul]
      by_cases hin : n + m ≤ c + xx
      · have hr := run_append_room (P := P) w t ty e i ht hi bb n (c + xx) cs hg a' m c' l' h2 h4 (oneCells h3) hin (by rw [hcs, h2, ← Nat.add_mul]; exact Nat.mul_le_mul_right _ hin)
        have hmul : (n + m) * i.size ≤ (c + xx) * i.size := Nat.mul_le_mul_right _ hin
        have hlen2 : n * i.size + l'.length = (n + m) * i.size := by rw [h2, ← Nat.add_mul]
        have htk : (cs.toList.take (n * i.size)).length = n * i.size := by rw [List.length_take, Array.length_toList, hcs]; exact Nat.min_eq_left (Nat.le_trans (Nat.mul_le_mul_right _ (Nat.le_add_right n m)) hmul)
        obtain ⟨a1, a2, a3⟩ := hs.adopt (isResv_ok rj) (k' := { cells := k.cells.take (n * i.size) ++ l, elem := e, unit := i.size, capN := n + m, opn := true }) (x' := c + xx - (n + m))
          (cs' := (cs.toList.take (n * i.size) ++ l' ++ cs.toList.drop (n * i.size + l'.length)).toArray) r1 hk hb (by rw [r2]; exact hg) r2.symm
          (by
            have e2 : (cs.toList.take (n * i.size) ++ l' ++ cs.toList.drop (n * i.size + l'.length)).take ((n + m) * i.size) = cs.toList.take (n * i.size) ++ l' := List.take_left' (by rw [List.length_append, htk, hlen2])
            simp only [hnl, e2]
            exact hold.append h3)
          (by
            have e3 : (cs.toList.take (n * i.size) ++ l' ++ cs.toList.drop (n * i.size + l'.length)).length = (c + xx) * i.size := by
              rw [List.length_append, List.length_append, htk, List.length_drop, show cs.toList.length = (c + xx) * i.size from (Array.length_toList (xs := cs)).trans hcs, hlen2]; omega
            simp only [List.size_toArray, e3, hnl]
            rw [← Nat.add_mul, show n + m + (c + xx - (n + m)) = c + xx by omega])
          rfl (by show n + m + (c + xx - (n + m)) ≤ maxLen; omega)
        refine ⟨_, _, _, hr, a2, ?_, a1⟩
        have := RV.one (.base (R0.slc (o := 0) (n := n + m) (c := n + m) a3))
        rw [show n + m + (c + xx - (n + m)) = c + xx by omega] at this
        exact this
      · have hcells : ∀ j v, (cs.toList.take (n * i.size))[j]? = some v → w.cell? ((⟨bb, 0, none⟩ : Addr).add j) = some v := by
          intro j v hj
          rw [addr_add, Nat.zero_add, cell_of_row w bb j cs e (0, 0) hg]
          rw [List.getElem?_take] at hj
          split at hj
          · simpa using hj
          · cases hj
        have hol := hold.length
        have htk : (cs.toList.take (n * i.size)).length = n * i.size := by rw [← hol, List.length_take, hcl, Nat.min_eq_left hnc]
        have hr := run_append_grow (P := P) w t ty e i z ht hi hz ⟨bb, 0, none⟩ n (c + xx) (cs.toList.take (n * i.size)) htk hcells a' m c' l' h2 h4 (by omega) (by omega) (growslice_fits (by omega) r7)
        have hge := grownCap_ge w (n + m) (c + xx) e
        have hle := grownCap_le_maxLen w (n + m) (c + xx) e (maxLen_big r8)
        obtain ⟨a1, a2, a3⟩ := (hs.kill hk).alloc (j := at_) (by rw [Hp.get_put_other hs.wf (by intro h; rw [h, hk] at rj; cases rj)]; exact isResv_ok rj) { cells := k.cells.take (n * i.size) ++ l, elem := e, unit := i.size, capN := n + m, opn := true } (grownCap w (n + m) (c + xx) e - (n + m))
          ((cs.toList.take (n * i.size)).toArray ++ l'.toArray ++ Builtin.zeroCells z.cells (grownCap w (n + m) (c + xx) e - (n + m))) w.drew (.inr rfl)
          (by
            have e2 : ((cs.toList.take (n * i.size)).toArray ++ l'.toArray ++ Builtin.zeroCells z.cells (grownCap w (n + m) (c + xx) e - (n + m))).toList.take ((n + m) * i.size) = cs.toList.take (n * i.size) ++ l' := by
              simp only [Array.toList_append]
              exact List.take_left' (by rw [List.length_append, htk, h2, ← Nat.add_mul])
            simp only [hnl, e2]
            exact hold.append h3)
          (by
            show _ = (k.cells.take (n * i.size) ++ l).length + _ * i.size
            simp only [Array.size_append, List.size_toArray, size_zeroCells, r9, hnl, htk, h2]
            rw [← Nat.add_mul])
          (by intro h; cases h) (by show n + m + _ ≤ maxLen; omega)
        refine ⟨_, _, _, hr, a2, ?_, a1⟩
        have := RV.one (.base (R0.slc (o := 0) (n := n + m) (c := n + m) a3))
        rw [show n + m + (grownCap w (n + m) (c + xx) e - (n + m)) = grownCap w (n + m) (c + xx) e by omega] at this
        exact this
  · rename_i a m cx b o q n c
    split at h
    rotate_left
    · cases h
    rename_i l old hl hold
    have hs2 := hs'.slp_inv
    obtain ⟨bb, xx, hb, hse⟩ := hs2
    obtain ⟨a', m', c', l', rfl, ⟨_, _, he⟩, h2, h3, h4⟩ := sliceCells_ok hl hx hs.toHR
    cases he
    obtain ⟨a2, n2, c2, old', he1, ⟨_, _, he2⟩, o2, o3, o4⟩ := sliceCells_ok hold hs' hs.toHR
    cases he2
    rw [hse] at he1
    simp only [Value.slice.injEq, Option.some.injEq] at he1
    obtain ⟨ea, _, ec⟩ := he1
    have ec : c = c2 := by simpa [xo] using ec
    subst hse
    split at h
    rotate_left
    · cases h
    rename_i hc
    obtain ⟨r1, r7, r8, r9, r10, rj⟩ := hc
    simp only [Option.some.injEq, Prod.mk.injEq] at h
    obtain ⟨rfl, rfl⟩ := h
    subst ec
    have hr := run_append_grow (P := P) w t ty e i z ht hi hz a2 n c old' o2 o4 a' m c' l' h2 h4 (by omega) (by omega) (growslice_fits (by omega) r7)
    rw [← ea] at hr
    have hge := grownCap_ge w (n + m) c e
    have hle := grownCap_le_maxLen w (n + m) c e (maxLen_big r8)
    have hnl : (old ++ l).length = (n + m) * i.size := by rw [List.length_append, o3.length, o2, h3.length, h2, Nat.add_mul]
    obtain ⟨a1, a3, a5⟩ := hs.alloc (isResv_ok rj) { cells := old ++ l, elem := e, unit := i.size, capN := n + m, opn := true } (grownCap w (n + m) c e - (n + m))
      (old'.toArray ++ l'.toArray ++ Builtin.zeroCells z.cells (grownCap w (n + m) c e - (n + m))) w.drew (.inr rfl)
      (by
        have e2 : (old'.toArray ++ l'.toArray ++ Builtin.zeroCells z.cells (grownCap w (n + m) c e - (n + m))).toList.take ((n + m) * i.size) = old' ++ l' := by
          simp only [Array.toList_append]
          exact List.take_left' (by rw [List.length_append, o2, h2, ← Nat.add_mul])
        simp only [hnl, e2]
        exact o3.append h3)
      (by
        show _ = (old ++ l).length + _ * i.size
        simp only [Array.size_append, List.size_toArray, size_zeroCells, r9, hnl, o2, h2]
        rw [← Nat.add_mul])
      (by intro h; cases h) (by show n + m + _ ≤ maxLen; omega)
    refine ⟨_, _, _, (by simpa [xo] using hr), a3, ?_, a1⟩
    have := RV.one (.base (R0.slc (o := 0) (n := n + m) (c := n + m) a5))
    rw [show n + m + (grownCap w (n + m) c e - (n + m)) = grownCap w (n + m) c e by omega] at this
    exact this
  · cases h
end
end Go.Proofs.Ytmmhoemddfncmaa
