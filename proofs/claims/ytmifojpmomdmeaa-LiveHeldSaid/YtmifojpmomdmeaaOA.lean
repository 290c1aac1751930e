/- Plain: in which order what is left to be done is done. -/
import Derived.Test.YtmifojpmomdmeaaFA
import Derived.Test.YtmifojpmomdmeaaND
import Derived.Maps.AppendAt
import Derived.Deep.DeepCutAuto
import Derived.Lib.Hide
namespace Go.Proofs.Ytmifojpmomdmeaa
set_option linter.unusedVariables false
set_option linter.unusedSectionVars false

/-- each once -/
def oncS (k : List Nat) (v : Nat) : List Nat := if v ∈ k then k else k ++ [v]
def oncL (l : List Nat) : List Nat := l.foldl oncS []
theorem oncF_mem : ∀ (l k : List Nat) (x : Nat), x ∈ l.foldl oncS k ↔ x ∈ k ∨ x ∈ l
  | [], k, x => by simp
  | v :: r, k, x => by
    rw [List.foldl_cons, oncF_mem r]
    unfold oncS
    split
    · next h => constructor
                · rintro (h1 | h1)
                  · exact .inl h1
                  · exact .inr (List.mem_cons_of_mem _ h1)
                · rintro (h1 | h1)
                  · exact .inl h1
                  · rcases List.mem_cons.1 h1 with rfl | h2
                    · exact .inl h
                    · exact .inr h2
    · simp [or_assoc]
theorem oncL_mem (l : List Nat) (x : Nat) : x ∈ oncL l ↔ x ∈ l := by unfold oncL; rw [oncF_mem]; simp
theorem oncF_nodup : ∀ (l k : List Nat), k.Nodup → (l.foldl oncS k).Nodup
  | [], k, h => h
  | v :: r, k, h => by
    rw [List.foldl_cons]
    refine oncF_nodup r _ ?_
    unfold oncS
    split
    · exact h
    · next hv => rw [List.nodup_append]; exact ⟨h, by simp, fun a ha b hb => by simp at hb; subst hb; exact fun e => hv (e ▸ ha)⟩
theorem oncL_nodup (l : List Nat) : (oncL l).Nodup := oncF_nodup l [] List.nodup_nil
theorem oncL_len : ∀ (l k : List Nat), (l.foldl oncS k).length ≤ k.length + l.length
  | [], k => by simp
  | v :: r, k => by
    rw [List.foldl_cons]
    have := oncL_len r (oncS k v)
    have h2 : (oncS k v).length ≤ k.length + 1 := by unfold oncS; split <;> simp
    simp; omega

structure Od where
  N : Nat
  rd : Nat → List Nat
  sz : Nat → Int
  need : Nat → Bool
  free : Nat → Bool
  out : Nat
variable (m : Od)
def Od.want (v : Nat) : Bool := m.need v && !m.free v
def Od.todoK (k : Nat) : List Nat := (List.range (k + 1)).filter m.want
def Od.todo : List Nat := m.todoK m.N
def Od.there (d : List Nat) (v : Nat) : Bool := m.free v || decide (v ∈ d)
def Od.readers (d : List Nat) (r : Nat) : Nat := (m.todo.filter fun u => !decide (u ∈ d) && decide (r ∈ m.rd u)).length
def Od.frees (r : Nat) : Bool := !m.free r && decide (r ≠ m.out)
def Od.less (d : List Nat) (n : Int) (r : Nat) : Int := if m.frees r && decide (m.readers d r = 1) then n - m.sz r else n
def Od.more (d : List Nat) (v : Nat) : Int := (oncL (m.rd v)).foldl (m.less d) (m.sz v)
def Od.can (d : List Nat) (v : Nat) : Bool := !m.there d v && (oncL (m.rd v)).all (m.there d)
def Od.pick (d : List Nat) (p : Nat × Int) (v : Nat) : Nat × Int := if m.can d v then (if p.1 = 0 ∨ m.more d v < p.2 then (v, m.more d v) else p) else p
def Od.next (d : List Nat) : Nat := (m.todo.foldl (m.pick d) (0, 0)).1
def Od.order (m : Od) : Nat → List Nat
  | 0 => []
  | k + 1 => Od.order m k ++ [m.next (Od.order m k)]
/- the document's -/
def Od.other (d : List Nat) (v x u : Nat) : Bool := decide (u ≠ v) && m.need u && !m.free u && !decide (u ∈ d) && decide (x ∈ m.rd u)
def Od.otherD (d : List Nat) (v x : Nat) : Bool := (List.range (m.N + 1)).any (m.other d v x)
def Od.stepD (d : List Nat) (v : Nat) (p : Int × List Nat) (x : Nat) : Int × List Nat := if m.free x = true ∨ x ∈ p.2 ∨ x = m.out then p else ((if m.otherD d v x then p.1 else p.1 - m.sz x), p.2 ++ [x])
def Od.moreD (d : List Nat) (v : Nat) : Int := ((m.rd v).foldl (m.stepD d v) (m.sz v, [])).1
def Od.canD (d : List Nat) (v : Nat) : Bool := m.need v && !m.free v && !decide (v ∈ d) && (m.rd v).all (m.there d)
def Od.pickD (d : List Nat) (p : Nat × Int) (v : Nat) : Nat × Int := if m.canD d v then (if p.1 = 0 ∨ m.moreD d v < p.2 then (v, m.moreD d v) else p) else p
def Od.nextD (d : List Nat) : Nat := ((List.range (m.N + 1)).foldl (m.pickD d) (0, 0)).1
def Od.orderD (m : Od) : Nat → List Nat
  | 0 => []
  | k + 1 => if m.nextD (Od.orderD m k) = 0 then Od.orderD m k else Od.orderD m k ++ [m.nextD (Od.orderD m k)]

structure Od.Ok : Prop where
  f0 : m.free 0 = true
  r2 : ∀ v, (m.rd v).length ≤ 2
  lt : ∀ v x, m.want v = true → x ∈ m.rd v → x < v
  nd : ∀ v x, m.want v = true → x ∈ m.rd v → m.need x = true
variable {m : Od}
theorem todo_mem {v : Nat} : v ∈ m.todo ↔ v ≤ m.N ∧ m.want v = true := by
  unfold Od.todo Od.todoK; rw [List.mem_filter, List.mem_range]; exact ⟨fun h => ⟨by omega, h.2⟩, fun h => ⟨by omega, h.2⟩⟩
theorem todo_nodup : m.todo.Nodup := List.Pairwise.filter _ List.nodup_range
theorem todo_pos (H : m.Ok) {v : Nat} (h : m.want v = true) : v ≠ 0 := by
  rintro rfl; unfold Od.want at h; rw [H.f0] at h; simp at h
theorem all_once (l : List Nat) (p : Nat → Bool) : (oncL l).all p = l.all p := by
  rw [Bool.eq_iff_iff, List.all_eq_true, List.all_eq_true]
  exact ⟨fun h x hx => h x ((oncL_mem l x).2 hx), fun h x hx => h x ((oncL_mem l x).1 hx)⟩
theorem canD_can (d : List Nat) (v : Nat) : m.canD d v = (m.want v && m.can d v) := by
  unfold Od.canD Od.can Od.want
  rw [all_once]
  unfold Od.there
  cases m.need v <;> cases m.free v <;> simp
theorem od_one_of {l : List Nat} (hn : l.Nodup) {v : Nat} (hv : v ∈ l) : l.length = 1 ↔ ∀ u ∈ l, u = v := by
  constructor
  · intro h u hu
    match l, h, hv, hu with
    | [a], _, hv, hu => simp at hv hu; rw [hu, hv]
  · intro h
    match l, hn, hv, h with
    | [a], _, _, _ => rfl
    | a :: b :: r, hn, _, h =>
      have h1 := h a (by simp)
      have h2 := h b (by simp)
      rw [h1, h2] at hn
      simp at hn
theorem readers_one {d : List Nat} {v x : Nat} (hv : v ∈ m.todo) (hd : v ∉ d) (hx : x ∈ m.rd v) : m.readers d x = 1 ↔ m.otherD d v x = false := by
  unfold Od.readers
  rw [od_one_of (List.Pairwise.filter _ todo_nodup) (v := v) (by rw [List.mem_filter]; exact ⟨hv, by simp [hd, hx]⟩)]
  rw [Bool.eq_false_iff]
  unfold Od.otherD Od.other
  rw [Ne, List.any_eq_true]
  constructor
  · rintro h ⟨u, hu, hb⟩
    simp only [Bool.and_eq_true, Bool.not_eq_true', decide_eq_true_eq, decide_eq_false_iff_not] at hb
    obtain ⟨⟨⟨⟨h1, h2⟩, h3⟩, h4⟩, h5⟩ := hb
    refine h1 (h u (List.mem_filter.2 ⟨todo_mem.2 ⟨by have := List.mem_range.1 hu; omega, by unfold Od.want; rw [h2, h3]; rfl⟩, by simp [h4, h5]⟩))
  · intro h u hu
    obtain ⟨h1, h2⟩ := List.mem_filter.1 hu
    obtain ⟨h3, h4⟩ := todo_mem.1 h1
    unfold Od.want at h4
    simp only [Bool.and_eq_true, Bool.not_eq_true', decide_eq_true_eq, decide_eq_false_iff_not] at h2 h4
    refine Decidable.byContradiction fun hne => h ⟨u, List.mem_range.2 (by omega), ?_⟩
    simp [hne, h4.1, h4.2, h2.1, h2.2]
theorem more_moreD (H : m.Ok) {d : List Nat} {v : Nat} (hv : v ∈ m.todo) (hd : v ∉ d) : m.moreD d v = m.more d v := by
  have hr := fun x hx => readers_one (x := x) hv hd hx
  have hl := H.r2 v
  unfold Od.moreD Od.more
  have key : ∀ (x : Nat), x ∈ m.rd v → ∀ (n : Int), (if m.free x = true ∨ x = m.out then n else (if m.otherD d v x then n else n - m.sz x)) = m.less d n x := by
    intro x hx n
    have := hr x hx
    unfold Od.less Od.frees
    by_cases c : m.otherD d v x = true
    · have e : ¬ m.readers d x = 1 := fun h => by rw [this.1 h] at c; simp at c
      simp [c, e]
    · have c' : m.otherD d v x = false := by simpa using c
      have e := this.2 c'
      rw [c']
      by_cases f : m.free x = true <;> by_cases o : x = m.out <;> simp [f, o, e]
  match hrd : m.rd v, hl with
  | [], _ => rfl
  | [a], _ =>
    have ka := key a (by rw [hrd]; simp) (m.sz v)
    simp only [oncL, oncS, List.foldl_cons, List.foldl_nil, List.not_mem_nil, if_false, List.nil_append]
    rw [← ka]
    unfold Od.stepD
    by_cases f : m.free a = true <;> by_cases o : a = m.out <;> simp [f, o]
  | [a, b], _ =>
    by_cases e : b = a
    · subst e
      have ka := key b (by rw [hrd]; simp) (m.sz v)
      have ho : oncL [b, b] = [b] := by simp [oncL, oncS]
      rw [ho]
      simp only [List.foldl_cons, List.foldl_nil]
      rw [← ka]
      unfold Od.stepD
      by_cases f : m.free b = true <;> by_cases o : b = m.out <;> simp [f, o]
    · have ka := key a (by rw [hrd]; simp) (m.sz v)
      have kb := key b (by rw [hrd]; simp)
      have ho : oncL [a, b] = [a, b] := by simp [oncL, oncS, e]
      rw [ho]
      simp only [List.foldl_cons, List.foldl_nil]
      rw [← kb, ← ka]
      unfold Od.stepD
      by_cases f : m.free a = true <;> by_cases o : a = m.out <;> by_cases f2 : m.free b = true <;> by_cases o2 : b = m.out <;> simp [f, o, f2, o2, e]
theorem can_not {d : List Nat} {v : Nat} (h : m.can d v = true) : v ∉ d := by
  unfold Od.can Od.there at h
  simp only [Bool.and_eq_true, Bool.not_eq_true', Bool.or_eq_false_iff, decide_eq_false_iff_not] at h
  exact h.1.2
theorem next_nextD (H : m.Ok) (d : List Nat) : m.nextD d = m.next d := by
  unfold Od.nextD Od.next Od.todo Od.todoK
  rw [List.foldl_filter]
  congr 1
  have : ∀ (l : List Nat) (p : Nat × Int), (∀ v ∈ l, v ≤ m.N) → l.foldl (m.pickD d) p = l.foldl (fun x y => if m.want y = true then m.pick d x y else x) p := by
    intro l
    induction l with
    | nil => intro p _; rfl
    | cons v r ih =>
      intro p h
      rw [List.foldl_cons, List.foldl_cons, ih _ (fun x hx => h x (List.mem_cons_of_mem _ hx))]
      congr 1
      unfold Od.pickD Od.pick
      rw [canD_can]
      by_cases c : m.want v = true
      · rw [c, Bool.true_and, if_pos rfl]
        by_cases c2 : m.can d v = true
        · rw [if_pos c2, if_pos c2, more_moreD H (todo_mem.2 ⟨h v (List.mem_cons_self ..), c⟩) (can_not c2)]
        · rw [if_neg c2, if_neg c2]
      · rw [if_neg c]; simp [c]
  exact this _ _ (fun v hv => by have := List.mem_range.1 hv; omega)
theorem pick_from (d : List Nat) : ∀ (l : List Nat) (p : Nat × Int), (l.foldl (m.pick d) p).1 = p.1 ∨ ((l.foldl (m.pick d) p).1 ∈ l ∧ m.can d (l.foldl (m.pick d) p).1 = true)
  | [], p => .inl rfl
  | v :: r, p => by
    rw [List.foldl_cons]
    rcases pick_from d r (m.pick d p v) with h | ⟨h1, h2⟩
    · rw [h]
      unfold Od.pick
      split
      · next c => split
                  · exact .inr ⟨by simp, c⟩
                  · exact .inl rfl
      · exact .inl rfl
    · exact .inr ⟨List.mem_cons_of_mem _ h1, h2⟩
theorem pick_keep (d : List Nat) : ∀ (l : List Nat) (p : Nat × Int), p.1 ≠ 0 → (∀ v ∈ l, v ≠ 0) → (l.foldl (m.pick d) p).1 ≠ 0
  | [], p, h, _ => h
  | v :: r, p, h, hl => by
    rw [List.foldl_cons]
    refine pick_keep d r _ ?_ (fun x hx => hl x (List.mem_cons_of_mem _ hx))
    unfold Od.pick
    split
    · split
      · exact hl v (List.mem_cons_self ..)
      · exact h
    · exact h
theorem pick_some (d : List Nat) : ∀ (l : List Nat) (p : Nat × Int), (∀ v ∈ l, v ≠ 0) → (∃ v ∈ l, m.can d v = true) → (l.foldl (m.pick d) p).1 ≠ 0
  | [], p, _, h => by obtain ⟨v, h, _⟩ := h; simp at h
  | v :: r, p, hl, h => by
    rw [List.foldl_cons]
    by_cases c : m.can d v = true
    · refine pick_keep d r _ ?_ (fun x hx => hl x (List.mem_cons_of_mem _ hx))
      unfold Od.pick
      rw [if_pos c]
      split
      · exact hl v (List.mem_cons_self ..)
      · next hc => exact fun e => hc (.inl e)
    · refine pick_some d r _ (fun x hx => hl x (List.mem_cons_of_mem _ hx)) ?_
      obtain ⟨u, hu, hc⟩ := h
      rcases List.mem_cons.1 hu with rfl | h2
      · exact absurd hc c
      · exact ⟨u, h2, hc⟩
theorem sub_len : ∀ (l d : List Nat), l.Nodup → (∀ v ∈ l, v ∈ d) → l.length ≤ d.length
  | [], d, _, _ => Nat.zero_le _
  | a :: r, d, hn, h => by
    have ha := h a (List.mem_cons_self ..)
    have hn2 := List.nodup_cons.1 hn
    have := sub_len r (d.erase a) hn2.2 (fun v hv => (List.mem_erase_of_ne (by rintro rfl; exact hn2.1 hv)).2 (h v (List.mem_cons_of_mem _ hv)))
    rw [List.length_erase_of_mem ha] at this
    have hp := List.length_pos_of_mem ha
    simp; omega
theorem short_misses {l d : List Nat} (hl : l.Nodup) (hd : d.Nodup) (hs : d.length < l.length) : ∃ v ∈ l, v ∉ d := by
  refine Decidable.byContradiction fun h => ?_
  have h2 : ∀ v ∈ l, v ∈ d := fun v hv => Decidable.byContradiction fun hd => h ⟨v, hv, hd⟩
  have := sub_len _ _ hl h2
  omega
theorem least_of {p : Nat → Prop} [DecidablePred p] : ∀ (v : Nat), p v → ∃ u, p u ∧ ∀ x, x < u → ¬ p x := by
  intro v
  induction v using Nat.strongRecOn with
  | _ v ih =>
    intro hv
    by_cases h : ∃ x, x < v ∧ p x
    · obtain ⟨x, h1, h2⟩ := h
      exact ih x h1 h2
    · exact ⟨v, hv, fun x hx hp => h ⟨x, hx, hp⟩⟩
/-- while something is left, there is one that can be done -/
theorem next_spec (H : m.Ok) {d : List Nat} (hd : d.Nodup) (hs : d.length < m.todo.length) : m.next d ∈ m.todo ∧ m.can d (m.next d) = true := by
  obtain ⟨v, hv, hvd⟩ := short_misses todo_nodup hd hs
  obtain ⟨u, ⟨hu, hud⟩, hlow⟩ := least_of (p := fun v => v ∈ m.todo ∧ v ∉ d) v ⟨hv, hvd⟩
  obtain ⟨hu1, hu2⟩ := todo_mem.1 hu
  have hc : m.can d u = true := by
    unfold Od.can
    rw [all_once, Bool.and_eq_true, List.all_eq_true]
    constructor
    · unfold Od.there
      have h2 := hu2
      unfold Od.want at h2
      simp only [Bool.and_eq_true, Bool.not_eq_true'] at h2
      rw [h2.2]; simp [hud]
    · intro x hx
      have h1 := H.lt u x hu2 hx
      have h2 := H.nd u x hu2 hx
      unfold Od.there
      by_cases f : m.free x = true
      · rw [f]; rfl
      · have f' : m.free x = false := by simpa using f
        have h3 : x ∈ m.todo := todo_mem.2 ⟨by omega, by unfold Od.want; rw [h2, f']; rfl⟩
        have : x ∈ d := Decidable.byContradiction fun h => hlow x h1 ⟨h3, h⟩
        simp [this]
  have h0 := pick_some d m.todo (0, 0) (fun x hx => todo_pos H (todo_mem.1 hx).2) ⟨u, hu, hc⟩
  rcases pick_from d m.todo (0, 0) with h | h
  · exact absurd h h0
  · exact h
theorem next_none {d : List Nat} (h : ∀ v ∈ m.todo, v ∈ d) : m.next d = 0 := by
  rcases pick_from (m := m) d m.todo (0, 0) with h1 | ⟨h1, h2⟩
  · exact h1
  · exact absurd (h _ h1) (can_not h2)
theorem order_spec (H : m.Ok) : ∀ k, k ≤ m.todo.length → (m.order k).Nodup ∧ (m.order k).length = k ∧ ∀ v ∈ m.order k, v ∈ m.todo
  | 0, _ => ⟨List.nodup_nil, rfl, fun v h => by simp [Od.order] at h⟩
  | k + 1, hk => by
    obtain ⟨h1, h2, h3⟩ := order_spec H k (by omega)
    obtain ⟨h4, h5⟩ := next_spec H h1 (by omega)
    unfold Od.order
    refine ⟨?_, by simp [h2], ?_⟩
    · rw [List.nodup_append]
      exact ⟨h1, by simp, fun a ha b hb => by simp at hb; subst hb; exact fun e => can_not h5 (e ▸ ha)⟩
    · intro v hv
      rcases List.mem_append.1 hv with h | h
      · exact h3 v h
      · simp at h; rw [h]; exact h4
theorem order_all (H : m.Ok) {v : Nat} (hv : v ∈ m.todo) : v ∈ m.order m.todo.length := by
  obtain ⟨h1, h2, h3⟩ := order_spec H m.todo.length (Nat.le_refl _)
  refine Decidable.byContradiction fun h => ?_
  have h4 : (v :: m.order m.todo.length).Nodup := List.nodup_cons.2 ⟨h, h1⟩
  have := sub_len _ m.todo h4 (fun x hx => by rcases List.mem_cons.1 hx with rfl | h5; exact hv; exact h3 x h5)
  simp at this; omega
theorem orderD_stop (H : m.Ok) {k : Nat} (h : m.next (m.orderD k) = 0) : ∀ j, m.orderD (k + j) = m.orderD k
  | 0 => rfl
  | j + 1 => by
    show (if m.nextD (m.orderD (k + j)) = 0 then m.orderD (k + j) else _) = _
    rw [orderD_stop H h j, next_nextD H, if_pos h]
theorem order_orderD (H : m.Ok) : ∀ k, k ≤ m.todo.length → m.orderD k = m.order k
  | 0, _ => rfl
  | k + 1, hk => by
    have ih := order_orderD H k (by omega)
    obtain ⟨h1, h2, h3⟩ := order_spec H k (by omega)
    obtain ⟨h4, h5⟩ := next_spec H h1 (by omega)
    unfold Od.orderD Od.order
    rw [ih, next_nextD H, if_neg (todo_pos H (todo_mem.1 h4).2)]
theorem todo_short (H : m.Ok) : m.todo.length ≤ m.N := by
  have h1 : ∀ v ∈ m.todo, v ∈ List.range' 1 m.N := by
    intro v hv
    have h2 := todo_mem.1 hv
    have h3 := todo_pos H h2.2
    rw [List.mem_range']
    exact ⟨v - 1, by omega, by omega⟩
  have := sub_len _ _ todo_nodup h1
  simpa using this
/-- both orders are the same -/
theorem order_same (H : m.Ok) : m.orderD (m.N + 1) = m.order m.todo.length := by
  have h1 := order_orderD H m.todo.length (Nat.le_refl _)
  have h2 := todo_short H
  have h3 := orderD_stop H (k := m.todo.length) (by rw [h1]; exact next_none (fun v hv => order_all H hv)) (m.N + 1 - m.todo.length)
  rw [show m.todo.length + (m.N + 1 - m.todo.length) = m.N + 1 by omega] at h3
  rw [h3, h1]
/-- each of the order stands behind what it reads -/
theorem order_at (H : m.Ok) : ∀ k, k ≤ m.todo.length → ∀ i v, (m.order k)[i]? = some v → v ∈ m.todo ∧ v ∉ (m.order k).take i ∧ ∀ x ∈ m.rd v, m.free x = true ∨ x ∈ (m.order k).take i
  | 0, _, i, v, h => by simp [Od.order] at h
  | k + 1, hk, i, v, h => by
    obtain ⟨h1, h2, h3⟩ := order_spec H k (by omega)
    obtain ⟨h4, h5⟩ := next_spec H h1 (by omega)
    unfold Od.order at h ⊢
    by_cases hi : i < k
    · rw [List.getElem?_append_left (by omega)] at h
      obtain ⟨a, b, c⟩ := order_at H k (by omega) i v h
      rw [List.take_append_of_le_length (by omega)]
      exact ⟨a, b, c⟩
    · rw [List.getElem?_append_right (by omega), h2] at h
      have hik : i = k := by
        refine Decidable.byContradiction fun e => ?_
        rw [List.getElem?_eq_none (by simp; omega)] at h
        simp at h
      subst hik
      simp at h
      subst h
      rw [List.take_append_of_le_length (by omega), List.take_of_length_le (by omega)]
      refine ⟨h4, can_not h5, fun x hx => ?_⟩
      unfold Od.can at h5
      rw [all_once, Bool.and_eq_true, List.all_eq_true] at h5
      have := h5.2 x hx
      unfold Od.there at this
      simpa using this
end Go.Proofs.Ytmifojpmomdmeaa

namespace Go.Proofs.Ytmifojpmomdmeaa
set_option linter.unusedVariables false
set_option linter.unusedSectionVars false

theorem mapR_len {α : Type} (n : Nat) (f : Nat → α) : ((List.range n).map f).length = n := by simp
theorem mapR_at {α : Type} {n : Nat} (f : Nat → α) {i : Nat} (h : i < n) : ((List.range n).map f)[i]? = some (f i) := by simp [h]
theorem mapR_getD {α : Type} {n : Nat} (f : Nat → α) {i : Nat} (x : α) (h : i < n) : ((List.range n).map f).getD i x = f i := by simp [List.getD, h]
theorem mapR_set {α : Type} (n : Nat) (f g : Nat → α) (i : Nat) (x : α) (h : ∀ j, j < n → g j = if j = i then x else f j) : ((List.range n).map f).set i x = (List.range n).map g := by
  apply List.ext_getElem (by simp)
  intro j h1 h2
  have hj : j < n := by simpa using h2
  rw [List.getElem_set, List.getElem_map, List.getElem_map, List.getElem_range, h j hj]
  by_cases e : i = j
  · rw [if_pos e, if_pos e.symm]
  · rw [if_neg e, if_neg (Ne.symm e)]
theorem mapR_eq {α : Type} {n : Nat} {f g : Nat → α} (h : ∀ j, j < n → f j = g j) : (List.range n).map f = (List.range n).map g :=
  List.map_congr_left fun j hj => h j (List.mem_range.1 hj)
theorem mapR_of {n : Nat} {L : List Int} {g : Nat → Int} (hl : L.length = n) (h : ∀ j, j < n → L.getD j 0 = g j) : L = (List.range n).map g := by
  apply List.ext_getElem (by simp [hl])
  intro j h1 h2
  have hj : j < n := by rw [← hl]; exact h1
  have := h j hj
  rw [List.getElem_map, List.getElem_range, ← this]
  simp [List.getD, h1]
theorem rep_map {α : Type} (n : Nat) (x : α) : List.replicate n x = (List.range n).map fun _ => x := by
  apply List.ext_getElem (by simp)
  intro j h1 h2
  simp
theorem nodup_count : ∀ (l : List Nat) (i : Nat), l.Nodup → i ∈ l → l.count i = 1
  | [], i, _, h => by simp at h
  | a :: r, i, hn, h => by
    have hn2 := List.nodup_cons.1 hn
    rw [List.count_cons]
    by_cases e : a = i
    · subst e; rw [List.count_eq_zero_of_not_mem hn2.1]; simp
    · rcases List.mem_cons.1 h with rfl | h2
      · exact absurd rfl e
      · rw [nodup_count r i hn2.2 h2]; simp [e]
variable (m : Od)
def Od.thereK (k : Nat) : List Bool := (List.range (m.N + 1)).map fun v => decide (v ≤ k) && m.free v
def Od.sizesK (k : Nat) : List Int := (List.range (m.N + 1)).map fun v => if v ≤ k then m.sz v else 0
def Od.freesK (k : Nat) : List Bool := (List.range (m.N + 1)).map fun v => decide (v ≤ k) && m.frees v
def Od.readK (k r : Nat) : Nat := ((m.todoK k).filter fun u => decide (r ∈ m.rd u)).length
def Od.readersK (k : Nat) : List Int := (List.range (m.N + 1)).map fun r => (m.readK k r : Int)
def Od.thereL (d : List Nat) : List Bool := (List.range (m.N + 1)).map (m.there d)
def Od.readersL (d : List Nat) : List Int := (List.range (m.N + 1)).map fun r => (m.readers d r : Int)
def zs (l : List Nat) : List Int := l.map (fun (x : Nat) => (x : Int))
variable {m : Od}
theorem zs_count (l : List Nat) (i : Nat) : (zs l).count (i : Int) = l.count i := by
  induction l with
  | nil => rfl
  | cons a r ih =>
    show ((a : Int) :: zs r).count (i : Int) = _
    rw [List.count_cons, List.count_cons, ih]
    by_cases e : a = i
    · subst e; simp
    · have : ¬ (a : Int) = (i : Int) := by omega
      simp [e, this]
theorem once_count (l : List Nat) (i : Nat) : (oncL l).count i = if i ∈ l then 1 else 0 := by
  by_cases e : i ∈ l
  · rw [if_pos e, nodup_count _ _ (oncL_nodup l) ((oncL_mem l i).2 e)]
  · rw [if_neg e, List.count_eq_zero_of_not_mem (fun h => e ((oncL_mem l i).1 h))]
theorem zs_in {l : List Nat} {n : Nat} (h : ∀ x ∈ l, x < n) : ∀ v ∈ zs (oncL l), 0 ≤ v ∧ v < (n : Int) := by
  intro v hv
  obtain ⟨x, hx, rfl⟩ := List.mem_map.1 hv
  have := h x ((oncL_mem l x).1 hx)
  omega
theorem todoK_succ (k : Nat) : m.todoK (k + 1) = if m.want (k + 1) then m.todoK k ++ [k + 1] else m.todoK k := by
  unfold Od.todoK
  rw [show k + 1 + 1 = (k + 1) + 1 from rfl, List.range_succ (n := k + 1), List.filter_append]
  by_cases c : m.want (k + 1) = true
  · simp [c]
  · simp [c]
theorem sizesK_succ (k : Nat) : (m.sizesK k).set (k + 1) (m.sz (k + 1)) = m.sizesK (k + 1) := by
  refine mapR_set _ _ _ _ _ fun j hj => ?_
  by_cases e : j = k + 1
  · subst e; simp
  · rw [if_neg e]
    by_cases h : j ≤ k
    · rw [if_pos h, if_pos (by omega)]
    · rw [if_neg h, if_neg (by omega)]
theorem thereK_free {k : Nat} (h : m.free (k + 1) = true) : (m.thereK k).set (k + 1) true = m.thereK (k + 1) := by
  refine mapR_set _ _ _ _ _ fun j hj => ?_
  by_cases e : j = k + 1
  · subst e; simp [h]
  · rw [if_neg e]
    by_cases h : j ≤ k
    · simp [h, show j ≤ k + 1 by omega]
    · simp [h, show ¬ j ≤ k + 1 by omega]
theorem thereK_not {k : Nat} (h : m.free (k + 1) = false) : m.thereK k = m.thereK (k + 1) := by
  refine mapR_eq fun j hj => ?_
  by_cases e : j = k + 1
  · subst e; simp [h]
  · by_cases h : j ≤ k
    · simp [h, show j ≤ k + 1 by omega]
    · simp [h, show ¬ j ≤ k + 1 by omega]
theorem freesK_free {k : Nat} (h : m.free (k + 1) = true) : m.freesK k = m.freesK (k + 1) := by
  refine mapR_eq fun j hj => ?_
  by_cases e : j = k + 1
  · subst e; simp [Od.frees, h]
  · by_cases h : j ≤ k
    · simp [h, show j ≤ k + 1 by omega]
    · simp [h, show ¬ j ≤ k + 1 by omega]
theorem freesK_not {k : Nat} (h : m.free (k + 1) = false) : (m.freesK k).set (k + 1) (!decide (k + 1 = m.out)) = m.freesK (k + 1) := by
  refine mapR_set _ _ _ _ _ fun j hj => ?_
  by_cases e : j = k + 1
  · subst e; simp [Od.frees, h]
  · rw [if_neg e]
    by_cases h : j ≤ k
    · simp [h, show j ≤ k + 1 by omega]
    · simp [h, show ¬ j ≤ k + 1 by omega]
theorem readersK_not {k : Nat} (h : m.want (k + 1) = false) : m.readersK k = m.readersK (k + 1) := by
  unfold Od.readersK Od.readK
  rw [todoK_succ, if_neg (by rw [h]; simp)]
theorem readersK_want {k : Nat} (hk : k + 1 ≤ m.N) (h : m.want (k + 1) = true) (hl : ∀ x ∈ m.rd (k + 1), x < m.N + 1) : addAll 1 (m.readersK k) (zs (oncL (m.rd (k + 1)))) = m.readersK (k + 1) := by
  refine mapR_of (by rw [addAll_len]; exact mapR_len _ _) fun j hj => ?_
  rw [addAll_at 1 j _ _ (by have := zs_in hl; rw [show (m.readersK k).length = m.N + 1 from mapR_len _ _]; exact this)]
  rw [show (m.readersK k).getD j 0 = (m.readK k j : Int) from mapR_getD _ _ hj, zs_count, once_count]
  unfold Od.readK
  rw [todoK_succ, if_pos h, List.filter_append, List.length_append]
  by_cases e : j ∈ m.rd (k + 1)
  · simp [e]
  · simp [e]
theorem thereK_end : m.thereK m.N = m.thereL [] := by
  refine mapR_eq fun j hj => ?_
  simp [Od.there, show j ≤ m.N by omega]
theorem readersK_end : m.readersK m.N = m.readersL [] := by
  refine mapR_eq fun j hj => ?_
  unfold Od.readK Od.readers Od.todo
  simp
theorem thereK_zero (h0 : m.free 0 = true) : (List.replicate (m.N + 1) false).set 0 true = m.thereK 0 := by
  rw [rep_map]
  refine mapR_set _ _ _ _ _ fun j hj => ?_
  by_cases e : j = 0
  · subst e; simp [h0]
  · simp [e]
theorem sizesK_zero : (List.replicate (m.N + 1) 0).set 0 (m.sz 0) = m.sizesK 0 := by
  rw [rep_map]
  refine mapR_set _ _ _ _ _ fun j hj => ?_
  by_cases e : j = 0
  · subst e; simp
  · rw [if_neg e, if_neg (by omega)]
theorem freesK_zero (h0 : m.free 0 = true) : List.replicate (m.N + 1) false = m.freesK 0 := by
  rw [rep_map]
  refine mapR_eq fun j hj => ?_
  by_cases e : j = 0
  · subst e; simp [Od.frees, h0]
  · simp [e]
theorem readersK_zero (h0 : m.free 0 = true) : List.replicate (m.N + 1) 0 = m.readersK 0 := by
  rw [rep_map]
  refine mapR_eq fun j hj => ?_
  simp [Od.readK, Od.todoK, Od.want, h0, List.range_succ]
theorem todoK_zero (h0 : m.free 0 = true) : m.todoK 0 = [] := by
  simp [Od.todoK, Od.want, h0, List.range_succ]
/-- behind one more that is done -/
theorem thereL_done {d : List Nat} {v : Nat} : (m.thereL d).set v true = m.thereL (d ++ [v]) := by
  refine mapR_set _ _ _ _ _ fun j hj => ?_
  by_cases e : j = v
  · subst e; simp [Od.there]
  · rw [if_neg e]; simp [Od.there, e]
theorem filter_less {l : List Nat} (hn : l.Nodup) {v : Nat} (hv : v ∈ l) (d : List Nat) (hd : v ∉ d) (q : Nat → Bool) :
    (l.filter fun u => !decide (u ∈ d) && q u).length = (l.filter fun u => !decide (u ∈ d ++ [v]) && q u).length + (if q v then 1 else 0) := by
  induction l with
  | nil => simp at hv
  | cons a r ih =>
    have hn2 := List.nodup_cons.1 hn
    rw [List.filter_cons, List.filter_cons]
    by_cases e : a = v
    · subst e
      have h1 : (r.filter fun u => !decide (u ∈ d) && q u) = r.filter fun u => !decide (u ∈ d ++ [a]) && q u := by
        refine List.filter_congr fun u hu => ?_
        have : u ≠ a := fun h => hn2.1 (h ▸ hu)
        simp [this]
      rw [h1]
      by_cases c : q a = true
      · simp [hd, c]
      · simp [c]
    · have hv2 : v ∈ r := by rcases List.mem_cons.1 hv with h | h; exact absurd h.symm e; exact h
      have ih2 := ih hn2.2 hv2
      have h3 : (!decide (a ∈ d ++ [v]) && q a) = (!decide (a ∈ d) && q a) := by simp [e]
      rw [h3]
      by_cases c : (!decide (a ∈ d) && q a) = true
      · rw [if_pos c, if_pos c, List.length_cons, List.length_cons, ih2]; omega
      · rw [if_neg c, if_neg c, ih2]
theorem readersL_done {d : List Nat} {v : Nat} (hv : v ∈ m.todo) (hd : v ∉ d) (hl : ∀ x ∈ m.rd v, x < m.N + 1) : addAll (-1) (m.readersL d) (zs (oncL (m.rd v))) = m.readersL (d ++ [v]) := by
  refine mapR_of (by rw [addAll_len]; exact mapR_len _ _) fun j hj => ?_
  rw [addAll_at (-1) j _ _ (by have := zs_in hl; rw [show (m.readersL d).length = m.N + 1 from mapR_len _ _]; exact this)]
  rw [show (m.readersL d).getD j 0 = (m.readers d j : Int) from mapR_getD _ _ hj, zs_count, once_count]
  unfold Od.readers
  rw [filter_less todo_nodup hv d hd fun u => decide (j ∈ m.rd u)]
  by_cases e : j ∈ m.rd v
  · simp [e]; omega
  · simp [e]
theorem readers_le (d : List Nat) (r : Nat) : m.readers d r ≤ m.todo.length := List.length_filter_le _ _
theorem readK_le (k r : Nat) : m.readK k r ≤ k + 1 := by
  unfold Od.readK Od.todoK
  refine Nat.le_trans (List.length_filter_le _ _) (Nat.le_trans (List.length_filter_le _ _) (by simp))
end Go.Proofs.Ytmifojpmomdmeaa

namespace Go.Proofs.Ytmifojpmomdmeaa
open Go Go.RowKit
set_option linter.unusedVariables false
set_option linter.unusedSimpArgs false
set_option maxRecDepth 100000

def nsV (l : List Nat) : List Value := l.map (fun (v : Nat) => Value.int .i64 (v : Int))
theorem nsV_len (l : List Nat) : (nsV l).length = l.length := by simp [nsV]
theorem nsV_at {l : List Nat} {i x : Nat} (h : l[i]? = some x) : (nsV l)[i]? = some (.int .i64 (x : Int)) := by simp [nsV, h]
/-- the numbers of a slice, in blocks that are so -/
def NumsAt (P : Nat → Prop) (w : World) (at0 : Option Addr) (l : List Nat) : Prop :=
  ∀ (i x : Nat), l[i]? = some x → ∃ g, at0 = some ⟨g, 0, none⟩ ∧ P g ∧ g < w.heap.size ∧ w.cell? ⟨g, i, none⟩ = some (.int .i64 (x : Int))
theorem NumsAt.outN {P : Nat → Prop} {S : Nat → Prop} {w w' : World} {a : Option Addr} {l : List Nat} (h : NumsAt P w a l) (k : Out S w w') (hs : ∀ j, P j → ¬ S j) : NumsAt P w' a l := fun i x hx => by
  obtain ⟨g, h1, h2, h3, h4⟩ := h i x hx
  exact ⟨g, h1, h2, Nat.lt_of_lt_of_le h3 k.size, (k.cell (p := ⟨g, i, none⟩) h3 (hs g h2)).trans h4⟩
theorem NumsAt.over {P : Nat → Prop} {w w' : World} {a : Option Addr} {l : List Nat} (h : NumsAt P w a l) (k : Below w.heap.size w w') : NumsAt P w' a l :=
  h.outN (Out.of_below (fun _ => False) k) (fun _ _ => id)
theorem NumsAt.mono {P Q : Nat → Prop} {w : World} {a : Option Addr} {l : List Nat} (h : NumsAt P w a l) (k : ∀ j, P j → Q j) : NumsAt Q w a l := fun i x hx => by
  obtain ⟨g, h1, h2, h3⟩ := h i x hx
  exact ⟨g, h1, k g h2, h3⟩
theorem NumsAt.take {P : Nat → Prop} {w : World} {a : Option Addr} {l : List Nat} (h : NumsAt P w a l) (n : Nat) : NumsAt P w a (l.take n) := fun i x hx => by
  by_cases e : i < n
  · rw [List.getElem?_take_of_lt e] at hx; exact h i x hx
  · rw [List.getElem?_eq_none (by simp; omega)] at hx; simp at hx
theorem NumsAt.row {P : Nat → Prop} {w : World} {g : Nat} {l : List Nat} (h : RowAt w g (nsV l)) (hg : P g) : NumsAt P w (some ⟨g, 0, none⟩) l := fun i x hx => ⟨g, rfl, hg, h.lt, h.cell i _ (nsV_at hx)⟩
theorem NumsAt.nil (P : Nat → Prop) (w : World) (a : Option Addr) : NumsAt P w a [] := fun i x hx => by simp at hx
abbrev OwnL (w : World) (B : Nat) (v : Value) (l : List Nat) : Prop := w.ownsRow B 3 1 v l.length (nsV l)
theorem own_slN {w : World} {B : Nat} {v : Value} {l : List Nat} (h : OwnL w B v l) : ∃ a c, v = .slice a l.length c ∧ c ≤ 9223372036854775807 ∧ (∀ g, v.ownBlock = some g → a = some ⟨g, 0, none⟩) ∧ (v.ownBlock = none → l = []) := by
  obtain ⟨h1, ⟨rfl, h2⟩ | ⟨g, c, cur, rfl, hb, hg, hc, hm, _⟩⟩ := h
  · rw [h2]; exact ⟨none, 0, rfl, by omega, fun g hg => by simp [Value.ownBlock] at hg, fun _ => List.eq_nil_of_length_eq_zero h2⟩
  · exact ⟨_, c, rfl, hm, fun g' hg' => by simp [Value.ownBlock] at hg'; rw [hg'], fun h => by simp [Value.ownBlock] at h⟩
theorem own_rowN {w : World} {B g : Nat} {v : Value} {l : List Nat} (h : OwnL w B v l) (hg : v.ownBlock = some g) : RowAt w g (nsV l) := by
  obtain ⟨h1, ⟨rfl, h2⟩ | ⟨g', c, cur, rfl, hb, hh, hc, hm, hs, ht⟩⟩ := h
  · simp [Value.ownBlock] at hg
  · simp [Value.ownBlock] at hg
    subst hg
    refine ⟨(Array.getElem?_eq_some_iff.1 hh).1, fun j => ?_, fun j u hu => ?_⟩
    · simp [World.frozen?, hh]
    · rw [← ht] at hu
      rw [List.getElem?_take_of_lt (by
        refine Decidable.byContradiction fun e => ?_
        rw [List.getElem?_eq_none (by simp; omega)] at hu; simp at hu)] at hu
      simp only [World.cell?, hh]
      simpa using hu
theorem own_numsN {w : World} {B : Nat} {v : Value} {l : List Nat} {P : Nat → Prop} (h : OwnL w B v l) (hP : ∀ g, v.ownBlock = some g → P g) : ∃ a c, v = .slice a l.length c ∧ c ≤ 9223372036854775807 ∧ NumsAt P w a l := by
  obtain ⟨a, c, rfl, hc, hg, hn⟩ := own_slN h
  refine ⟨a, c, rfl, hc, ?_⟩
  cases hb : (Value.slice a l.length c).ownBlock with
  | none => rw [hn hb]; exact NumsAt.nil _ _ _
  | some g => rw [hg g hb]; exact NumsAt.row (own_rowN h hb) (hP g hb)
theorem own_overN {w w' : World} {B : Nat} {v : Value} {l : List Nat} (h : OwnL w B v l) {S : Nat → Prop} (k : Out S w w') (hs : ∀ g, v.ownBlock = some g → ¬ S g) : OwnL w' B v l := by
  obtain ⟨h1, h2 | ⟨g, c, cur, rfl, hb, hg, hr⟩⟩ := h
  · exact ⟨h1, .inl h2⟩
  · exact ⟨h1, .inr ⟨g, c, cur, rfl, hb, (k.block g (Array.getElem?_eq_some_iff.1 hg).1 (hs g rfl)).trans hg, hr⟩⟩
/-- one number more behind a row of one's own -/
theorem app_nat {ops : Array Oper} {rest : List Oper} {o : Oper} {a : Act} {Q : Exit → Act → World → Prop} {w : World} (hgd : o.guard = none) (s x : Operand)
    (ho : o.op = .call { callee := .builtin .append, args := #[s, x], argTypes := #[42, 42] }) (B : Nat) (v : Value) (l : List Nat) (hs : a.eval s = v) (hown : OwnL w B v l) (n : Nat)
    (hx : a.eval x = .slice (some ⟨w.heap.size, 0, none⟩) 1 1) (hl : l.length ≤ 1000000) (hB : B ≤ w.heap.size)
    (h : ∀ v' w', OwnL w' B v' (l ++ [n]) → Out (fun j => v.ownBlock = some j) w w' → (∀ g, v'.ownBlock = some g → v.ownBlock = some g ∨ w.heap.size ≤ g) → wpList Try.prog ops Q rest (a.put o.dst v') w') :
    wpList Try.prog ops Q (o :: rest) a (w.alloc (.cells #[.int .i64 (n : Int)] 3)) := by
  obtain ⟨i0, hi, hz0, hz1, hz2⟩ : ∃ i, Try.prog.info? 3 = some i ∧ i.zero = some (.int .i64 0) ∧ i.size = 1 ∧ i.bytes = 8 := ⟨(Try.prog.info? 3).get!, by kernel_rfl, by kernel_rfl, by kernel_rfl, by kernel_rfl⟩
  have hal := Below.alloc (Below.refl w.heap.size w) (Nat.le_refl _) (.cells #[.int .i64 (n : Int)] 3)
  have hal2 : Out (fun _ => False) w (w.alloc (.cells #[.int .i64 (n : Int)] 3)) := Out.of_below _ hal
  refine wpList_append_own_at _ hgd s x 42 ho B 3 i0 (.int .i64 0) 1 8 Try.underlying42 hi hz0 hz1 hz2 rfl (by decide) v l.length (nsV l) hs (own_overN hown hal2 (fun _ _ => id)) ⟨w.heap.size, 0, none⟩ 1 1 [.int .i64 (n : Int)] hx rfl (fun j u hu => by rw [addr_add0]; exact (RowAt.new _ [.int .i64 (n : Int)] _).cell j u hu) (fun u hu => by simp at hu; subst hu; rfl) (by unfold maxLen; omega) (by omega) (by simp; omega) ?_
  intro v' w' h1 h2 h3 h4
  have h1' : OwnL w' B v' (l ++ [n]) := by
    unfold OwnL
    rw [List.length_append, show nsV (l ++ [n]) = nsV l ++ [.int .i64 (n : Int)] by simp [nsV]]
    exact h1
  have h2' : Out (fun j => v.ownBlock = some j) (w.alloc (.cells #[.int .i64 (n : Int)] 3)) w' := Out.of_grown h2 (fun k e => e)
  refine h v' w' h1' ((hal2.mono (fun _ e => e.elim)).trans h2') fun g hg => ?_
  rcases h4 with h4 | h4
  · exact .inl (h4 ▸ hg)
  · rw [h4] at hg; simp at hg; exact .inr (by omega)
set_option maxHeartbeats 4000000 in
theorem index_any {P : Nat → Prop} (at0 : Option Addr) (c : Nat) (l : List Nat) (v : Nat) (w : World) (h : NumsAt P w at0 l) (hl : l.length ≤ 100000) :
    Calls Try.prog 84 #[.slice at0 l.length c, .int .i64 (v : Int)] w fun e w' => ∃ r : Int, e = .returned (.int .i64 r) ∧ Below w.heap.size w w' ∧ decide (0 ≤ r) = decide (v ∈ l) := by
  have H := Lib.hid h
  have hli : (l.length : Int) ≤ 100000 := by omega
  clear h
  go_enter Try.func84, Try.ntmps84
  go_wp2_with fail
  go_loopw [8] (fun s8 wr => ∃ k : Nat, k ≤ l.length ∧ s8 = .int .i64 k ∧ v ∉ l.take k ∧ Below w.heap.size w wr) (fun s8 _ => l.length - (intOf s8).toNat)
  case atStart => exact ⟨0, Nat.zero_le _, rfl, by simp, Below.refl _ _⟩
  case round =>
    obtain ⟨k, hk, rfl, hv, hB⟩ := hrel
    have HB := Lib.hid hB
    have HV := Lib.hid hv
    clear hB hv
    by_cases hkl : k < l.length
    · obtain ⟨x, hx⟩ : ∃ x, l[k]? = some x := ⟨_, List.getElem?_eq_getElem hkl⟩
      obtain ⟨g, rfl, _, hg, hc⟩ := (H.out.over HB.out) k x hx
      have kl0 : (0 : Int) ≤ (k : Int) := by omega
      have kl1 : (k : Int) < (l.length : Int) := by omega
      have HK := Lib.hid hkl
      have HX := Lib.hid hx
      clear hkl hx
      by_cases hvx : v = x
      · have t1 : ((v : Int) == (x : Int)) = true := by simp [hvx]
        have HE := Lib.hid hvx
        clear hvx
        go_wp2_with fail
        go_ret
        exact ⟨_, rfl, HB.out, by rw [HE.out]; simp [List.mem_of_getElem? HX.out]⟩
      · have t1 : ((v : Int) == (x : Int)) = false := by simp; omega
        have HE := Lib.hid hvx
        clear hvx
        go_wp2_with fail
        exact ⟨⟨k + 1, by have := HK.out; omega, rfl, by rw [List.take_add_one, HX.out]; simp [HE.out, HV.out], HB.out⟩, by have := HK.out; simp [intOf]; omega⟩
    · obtain rfl : k = l.length := by omega
      clear hkl
      go_wp2_with fail
      go_ret
      exact ⟨_, rfl, HB.out, by have := HV.out; rw [List.take_length] at this; simp [this]⟩
set_option maxHeartbeats 4000000 in
theorem contains_any {P : Nat → Prop} (at0 : Option Addr) (c : Nat) (l : List Nat) (v : Nat) (w : World) (h : NumsAt P w at0 l) (hl : l.length ≤ 100000) :
    Calls Try.prog 64 #[.slice at0 l.length c, .int .i64 (v : Int)] w fun e w' => e = .returned (.bool (decide (v ∈ l))) ∧ Below w.heap.size w w' := by
  have IX := Lib.hid (index_any at0 c l v w h hl)
  generalize decide (v ∈ l) = q at *
  clear h
  go_enter Try.func64, Try.ntmps64
  go_wp2_with (go_at_call 84; (with_reducible refine IX.out.mono ?_); rintro e w9 ⟨r, rfl, hb9, hr9⟩; have HR9 := Lib.hid hr9; have HB9 := Lib.hid hb9; clear hb9 hr9)
  go_ret
  exact ⟨by rw [← HR9.out]; rfl, HB9.out⟩
set_option maxHeartbeats 4000000 in
theorem rin_any {P : Nat → Prop} (at0 : Option Addr) (c : Nat) (l : List Nat) (v : Nat) (w : World) (h : NumsAt P w at0 l) (hl : l.length ≤ 100000) :
    Calls Try.prog 16 #[.slice at0 l.length c, .int .i64 (v : Int)] w fun e w' => e = .returned (.bool (decide (v ∈ l))) ∧ Below w.heap.size w w' := by
  have H := Lib.hid h
  have hli : (l.length : Int) ≤ 100000 := by omega
  clear h
  go_enter Try.func16, Try.ntmps16
  go_wp2_with fail
  go_loopw [5] (fun s5 wr => ∃ k : Nat, k ≤ l.length ∧ s5 = .int .i64 k ∧ v ∉ l.take k ∧ Below w.heap.size w wr) (fun s5 _ => l.length - (intOf s5).toNat)
  case atStart => exact ⟨0, Nat.zero_le _, rfl, by simp, Below.refl _ _⟩
  case round =>
    obtain ⟨k, hk, rfl, hv, hB⟩ := hrel
    have HB := Lib.hid hB
    have HV := Lib.hid hv
    clear hB hv
    by_cases hkl : k < l.length
    · obtain ⟨x, hx⟩ : ∃ x, l[k]? = some x := ⟨_, List.getElem?_eq_getElem hkl⟩
      obtain ⟨g, rfl, _, hg, hc⟩ := (H.out.over HB.out) k x hx
      have kl0 : (0 : Int) ≤ (k : Int) := by omega
      have kl1 : (k : Int) < (l.length : Int) := by omega
      have HK := Lib.hid hkl
      have HX := Lib.hid hx
      clear hkl hx
      by_cases hvx : v = x
      · have t1 : ((x : Int) == (v : Int)) = true := by simp [hvx]
        have HE := Lib.hid hvx
        clear hvx
        go_wp2_with fail
        go_ret
        exact ⟨by rw [HE.out]; simp [List.mem_of_getElem? HX.out], HB.out⟩
      · have t1 : ((x : Int) == (v : Int)) = false := by simp; omega
        have HE := Lib.hid hvx
        clear hvx
        go_wp2_with fail
        exact ⟨⟨k + 1, by have := HK.out; omega, rfl, by rw [List.take_add_one, HX.out]; simp [HE.out, HV.out], HB.out⟩, by have := HK.out; simp [intOf]; omega⟩
    · obtain rfl : k = l.length := by omega
      clear hkl
      go_wp2_with fail
      go_ret
      exact ⟨by have := HV.out; rw [List.take_length] at this; simp [this], HB.out⟩
end Go.Proofs.Ytmifojpmomdmeaa

namespace Go.Proofs.Ytmifojpmomdmeaa
open Go Go.RowKit
set_option linter.unusedVariables false
set_option linter.unusedSimpArgs false
set_option maxRecDepth 100000

/-- where a plan's blocks lie -/
structure PlB where
  pb : Nat
  rb : Nat
  sb : Nat
  db : Nat
  tb : Nat
  fb : Nat
  qa : Option Addr
  qc : Nat
  rv : List Value
def PlB.cells (p : PlB) (m : Od) : List Value := [.int .i64 (m.out : Int), .slice (some ⟨p.rb, 0, none⟩) (m.N + 1) (m.N + 1), .slice (some ⟨p.sb, 0, none⟩) (m.N + 1) (m.N + 1), .slice (some ⟨p.db, 0, none⟩) (m.N + 1) (m.N + 1), .slice (some ⟨p.tb, 0, none⟩) (m.N + 1) (m.N + 1), .slice (some ⟨p.fb, 0, none⟩) (m.N + 1) (m.N + 1), .slice p.qa m.todo.length p.qc, .int .i64 (m.todo.length : Int)]
def Od.sizesL (m : Od) : List Int := (List.range (m.N + 1)).map m.sz
def Od.freesL (m : Od) : List Bool := (List.range (m.N + 1)).map m.frees
def PlB.far (p : PlB) (T : Nat) (g : Nat) : Prop := g ≠ p.db ∧ g ≠ p.tb ∧ g < T
structure PlanAt (m : Od) (d : List Nat) (p : PlB) (T : Nat) (w : World) : Prop where
  hp : RowAt w p.pb (p.cells m)
  hr : RowAt w p.rb p.rv
  rr : p.rv.length = m.N + 1
  rc : ∀ v ∈ m.todo, ∃ a c, p.rv[v]? = some (.slice a (oncL (m.rd v)).length c) ∧ c ≤ 9223372036854775807 ∧ NumsAt (p.far T) w a (oncL (m.rd v))
  hs : RowAt w p.sb (intsV m.sizesL)
  hd : RowAt w p.db (intsV (m.readersL d))
  ht : RowAt w p.tb (boolsN (m.thereL d))
  hf : RowAt w p.fb (boolsN m.freesL)
  hq : NumsAt (p.far T) w p.qa m.todo
  hqc : p.qc ≤ 9223372036854775807
  n1 : p.far T p.pb ∧ p.far T p.rb ∧ p.far T p.sb ∧ p.far T p.fb
  n2 : p.db ≠ p.tb ∧ p.db < T ∧ p.tb < T
/-- what is asked of the numbers -/
structure Od.Fit (m : Od) : Prop where
  n : m.N ≤ 1000
  sz : ∀ v, 0 ≤ m.sz v ∧ m.sz v ≤ 100000
theorem PlanAt.outN {m : Od} {d : List Nat} {p : PlB} {T : Nat} {w w' : World} (h : PlanAt m d p T w) {S : Nat → Prop} (k : Out S w w') (hs : ∀ j, S j → T ≤ j) : PlanAt m d p T w' := by
  have hf : ∀ j, p.far T j → ¬ S j := fun j hj hS => by have := hs j hS; have := hj.2.2; omega
  exact ⟨h.hp.outN k (hf _ h.n1.1), h.hr.outN k (hf _ h.n1.2.1), h.rr, fun v hv => by
    obtain ⟨a, c, h1, h2, h3⟩ := h.rc v hv
    exact ⟨a, c, h1, h2, h3.outN k hf⟩, h.hs.outN k (hf _ h.n1.2.2.1), h.hd.outN k (fun hS => by have := hs _ hS; have := h.n2.2.1; omega), h.ht.outN k (fun hS => by have := hs _ hS; have := h.n2.2.2; omega), h.hf.outN k (hf _ h.n1.2.2.2), h.hq.outN k hf, h.hqc, h.n1, h.n2⟩
theorem PlanAt.over {m : Od} {d : List Nat} {p : PlB} {T : Nat} {w w' : World} (h : PlanAt m d p T w) (k : Below w.heap.size w w') : PlanAt m d p T w' :=
  h.outN (Out.of_below (fun _ => False) k) (fun _ e => e.elim)
theorem PlanAt.fields {m : Od} {d : List Nat} {p : PlB} {T : Nat} {w : World} (h : PlanAt m d p T w) : p.pb < w.heap.size ∧ w.cell? ⟨p.pb, 0, none⟩ = some (.int .i64 (m.out : Int)) ∧ w.cell? ⟨p.pb, 1, none⟩ = some (.slice (some ⟨p.rb, 0, none⟩) (m.N + 1) (m.N + 1)) ∧ w.cell? ⟨p.pb, 2, none⟩ = some (.slice (some ⟨p.sb, 0, none⟩) (m.N + 1) (m.N + 1)) ∧ w.cell? ⟨p.pb, 3, none⟩ = some (.slice (some ⟨p.db, 0, none⟩) (m.N + 1) (m.N + 1)) ∧ w.cell? ⟨p.pb, 4, none⟩ = some (.slice (some ⟨p.tb, 0, none⟩) (m.N + 1) (m.N + 1)) ∧ w.cell? ⟨p.pb, 5, none⟩ = some (.slice (some ⟨p.fb, 0, none⟩) (m.N + 1) (m.N + 1)) ∧ w.cell? ⟨p.pb, 6, none⟩ = some (.slice p.qa m.todo.length p.qc) ∧ w.cell? ⟨p.pb, 7, none⟩ = some (.int .i64 (m.todo.length : Int)) :=
  ⟨h.hp.lt, h.hp.cell 0 _ rfl, h.hp.cell 1 _ rfl, h.hp.cell 2 _ rfl, h.hp.cell 3 _ rfl, h.hp.cell 4 _ rfl, h.hp.cell 5 _ rfl, h.hp.cell 6 _ rfl, h.hp.cell 7 _ rfl⟩
theorem sizesL_at {m : Od} {v : Nat} (h : v ≤ m.N) : (intsV m.sizesL)[v]? = some (.int .i64 (m.sz v)) := intsV_at (mapR_at m.sz (by omega))
theorem readersL_at {m : Od} {d : List Nat} {v : Nat} (h : v ≤ m.N) : (intsV (m.readersL d))[v]? = some (.int .i64 (m.readers d v : Int)) := intsV_at (mapR_at (fun r => (m.readers d r : Int)) (by omega))
theorem thereL_at {m : Od} {d : List Nat} {v : Nat} (h : v ≤ m.N) : (boolsN (m.thereL d))[v]? = some (.bool (m.there d v)) := by
  have := boolsN_at (L := m.thereL d) (i := v) (by rw [show (m.thereL d).length = m.N + 1 from mapR_len _ _]; omega)
  rw [this, show (m.thereL d).getD v false = m.there d v from mapR_getD _ _ (by omega)]
theorem freesL_at {m : Od} {v : Nat} (h : v ≤ m.N) : (boolsN m.freesL)[v]? = some (.bool (m.frees v)) := by
  have := boolsN_at (L := m.freesL) (i := v) (by rw [show m.freesL.length = m.N + 1 from mapR_len _ _]; omega)
  rw [this, show m.freesL.getD v false = m.frees v from mapR_getD _ _ (by omega)]
theorem less_bd {m : Od} (F : m.Fit) (d : List Nat) : ∀ (l : List Nat) (n : Int), n - 100000 * l.length ≤ l.foldl (m.less d) n ∧ l.foldl (m.less d) n ≤ n
  | [], n => by simp
  | x :: r, n => by
    have := less_bd F d r (m.less d n x)
    have h := F.sz x
    have h2 : n - 100000 ≤ m.less d n x ∧ m.less d n x ≤ n := by unfold Od.less; split <;> omega
    rw [List.foldl_cons, List.length_cons]
    push_cast
    omega
theorem onc_len2 {m : Od} (H : m.Ok) (v : Nat) : (oncL (m.rd v)).length ≤ 2 := by
  have := oncL_len (m.rd v) []
  have := H.r2 v
  unfold oncL
  simp at *; omega
theorem more_bd {m : Od} (H : m.Ok) (F : m.Fit) (d : List Nat) (v : Nat) : -200000 ≤ m.more d v ∧ m.more d v ≤ 100000 := by
  have h1 := less_bd F d (oncL (m.rd v)) (m.sz v)
  have h2 := onc_len2 H v
  have h3 := F.sz v
  unfold Od.more
  omega
set_option maxHeartbeats 4000000 in
theorem more_any {m : Od} (H : m.Ok) (F : m.Fit) (d : List Nat) (p : PlB) (T v : Nat) (w : World) (h : PlanAt m d p T w) (hv : v ∈ m.todo) :
    Calls Try.prog 52 #[.pointer (some ⟨p.pb, 0, none⟩), .int .i64 (v : Int)] w fun e w' => e = .returned (.int .i64 (m.more d v)) ∧ Below w.heap.size w w' := by
  obtain ⟨pl, p0, p1, p2, p3, p4, p5, p6, p7⟩ := h.fields
  have hvN := (todo_mem.1 hv).1
  have hlt := fun x hx => H.lt v x (todo_mem.1 hv).2 ((oncL_mem _ x).1 hx)
  obtain ⟨a, c, r1, hc, hn⟩ := h.rc v hv
  have s1 := h.hs.cell v _ (sizesL_at hvN)
  have sl := h.hs.lt
  have r2 := h.hr.cell v _ r1
  have rl := h.hr.lt
  have hlen := onc_len2 H v
  have hsv := F.sz v
  have hN := F.n
  have v0 : (0 : Int) ≤ (v : Int) := by omega
  have v1 : (v : Int) < (m.N : Int) + 1 := by omega
  have HP := Lib.hid h
  have HN := Lib.hid hn
  have HLT := Lib.hid hlt
  have HMD := Lib.hid (show m.more d v = (oncL (m.rd v)).foldl (m.less d) (m.sz v) from rfl)
  have HBD := Lib.hid (less_bd F d)
  generalize m.more d v = mo at *
  obtain ⟨l, hl⟩ : ∃ l, l = oncL (m.rd v) := ⟨_, rfl⟩
  rw [← hl] at r2 hlen HN HMD
  have HLT2 : ∀ x ∈ l, x < v := by rw [hl]; exact hlt
  have HLT2 := Lib.hid HLT2
  have hli : (l.length : Int) ≤ 2 := by omega
  have FS := Lib.hid F.sz
  generalize m.sz v = sv at *
  clear h hn hlt r1 hl HLT F H hv
  go_enter Try.func52, Try.ntmps52
  go_wp2_with fail
  clear s1 r2
  go_loopw [5, 23] (fun s5 s23 wr => ∃ k : Nat, k ≤ l.length ∧ s23 = .int .i64 k ∧ s5 = .int .i64 ((l.take k).foldl (m.less d) sv) ∧ Below w.heap.size w wr) (fun _ s23 _ => l.length - (intOf s23).toNat)
  case atStart => exact ⟨0, Nat.zero_le _, rfl, rfl, Below.refl _ _⟩
  case round =>
    obtain ⟨k, hk, rfl, rfl, hB⟩ := hrel
    have HB := Lib.hid hB
    have P2 := HP.out.over hB
    obtain ⟨ql, q0, q1, q2, q3, q4, q5, q6, q7⟩ := P2.fields
    have bd := HBD.out (l.take k) sv
    have tl : (l.take k).length ≤ 2 := by rw [List.length_take]; omega
    obtain ⟨n, hn⟩ : ∃ n, n = (l.take k).foldl (m.less d) sv := ⟨_, rfl⟩
    rw [← hn] at bd ⊢
    have b0 : -300000 ≤ n := by omega
    have b1 : n ≤ 300000 := by omega
    have HNN := Lib.hid hn
    clear hB bd tl hn pl p0 p1 p2 p3 p4 p5 p6 p7
    by_cases hkl : k < l.length
    · obtain ⟨x, hx⟩ : ∃ x, l[k]? = some x := ⟨_, List.getElem?_eq_getElem hkl⟩
      obtain ⟨g, rfl, _, hg, hc2⟩ := (HN.out.over HB.out) k x hx
      have hxv := HLT2.out x (List.mem_of_getElem? hx)
      have hxN : x ≤ m.N := by omega
      have f1 := P2.hf.cell x _ (freesL_at hxN)
      have fl := P2.hf.lt
      have d1 := P2.hd.cell x _ (readersL_at hxN)
      have dl := P2.hd.lt
      have z1 := P2.hs.cell x _ (sizesL_at hxN)
      have zl := P2.hs.lt
      obtain ⟨z2, z3⟩ := FS.out x
      have kl0 : (0 : Int) ≤ (k : Int) := by omega
      have kl1 : (k : Int) < (l.length : Int) := by omega
      have x0 : (0 : Int) ≤ (x : Int) := by omega
      have x1 : (x : Int) < (m.N : Int) + 1 := by omega
      have HK := Lib.hid hkl
      have HNX := Lib.hid (show (l.take (k + 1)).foldl (m.less d) sv = if m.frees x && decide (m.readers d x = 1) then n - m.sz x else n by rw [List.take_add_one, hx, List.foldl_append, ← HNN.out]; rfl)
      generalize m.frees x = fx at *
      generalize m.readers d x = dx at *
      generalize m.sz x = zx at *
      clear hx hkl P2 hxv hxN hk
      cases fx
      · go_wp2_with fail
        exact ⟨⟨k + 1, by have := HK.out; omega, rfl, by rw [HNX.out]; rfl, HB.out⟩, by have := HK.out; simp [intOf]; omega⟩
      · by_cases hd1 : dx = 1
        · subst hd1
          go_wp2_with fail
          exact ⟨⟨k + 1, by have := HK.out; omega, rfl, by rw [HNX.out]; rfl, HB.out⟩, by have := HK.out; simp [intOf]; omega⟩
        · have t1 : ((dx : Int) == 1) = false := by simp; omega
          have HD := Lib.hid hd1
          clear hd1
          go_wp2_with fail
          exact ⟨⟨k + 1, by have := HK.out; omega, rfl, by rw [HNX.out]; simp [HD.out], HB.out⟩, by have := HK.out; simp [intOf]; omega⟩
    · obtain rfl : k = l.length := by omega
      have hm : n = mo := by rw [HNN.out, List.take_length, HMD.out]
      have HM := Lib.hid hm
      clear hkl hm
      go_wp2_with fail
      go_ret
      exact ⟨by first | rfl | (rw [HM.out]; rfl), HB.out⟩
set_option maxHeartbeats 4000000 in
theorem done_any {m : Od} (H : m.Ok) (F : m.Fit) (d : List Nat) (p : PlB) (T v : Nat) (w : World) (h : PlanAt m d p T w) (hv : v ∈ m.todo) (hvd : v ∉ d) :
    Calls Try.prog 35 #[.pointer (some ⟨p.pb, 0, none⟩), .int .i64 (v : Int)] w fun e w' => e = .returned (.tuple #[]) ∧ PlanAt m (d ++ [v]) p T w' ∧ Out (fun j => j = p.db ∨ j = p.tb) w w' := by
  obtain ⟨pl, p0, p1, p2, p3, p4, p5, p6, p7⟩ := h.fields
  have hvN := (todo_mem.1 hv).1
  have hlt := fun x hx => H.lt v x (todo_mem.1 hv).2 ((oncL_mem _ x).1 hx)
  have hltr := fun x hx => Nat.lt_of_lt_of_le (H.lt v x (todo_mem.1 hv).2 hx) (Nat.le_succ_of_le hvN)
  obtain ⟨a, c, r1, hc, hn⟩ := h.rc v hv
  have hlen := onc_len2 H v
  have hN := F.n
  have v0 : (0 : Int) ≤ (v : Int) := by omega
  have v1 : (v : Int) < (m.N : Int) + 1 := by omega
  have t1 := h.ht.cell v _ (thereL_at hvN)
  have tf := h.ht.fr v
  have tl := h.ht.lt
  have htd := todo_short H
  have hrl : (m.readersL d).length = m.N + 1 := mapR_len _ _
  have HRL := Lib.hid hrl
  have HT := Lib.hid (boolsN_set (b := true) h.ht (i := v) (by rw [show (m.thereL d).length = m.N + 1 from mapR_len _ _]; omega))
  have HTE := Lib.hid (thereL_done (m := m) (d := d) (v := v))
  have HRE := Lib.hid (readersL_done hv hvd hltr)
  have RBD : ∀ x ∈ m.readersL d, (0 : Int) ≤ x ∧ x ≤ 1000 := by
    intro x hx
    obtain ⟨j, _, rfl⟩ := List.mem_map.1 hx
    have := readers_le (m := m) d j
    omega
  have HRB := Lib.hid RBD
  have HP := Lib.hid h
  have n1 := h.n1
  have n2 := h.n2
  have O1 := Lib.hid (Out.of_grown (S := fun j => j = p.tb) (grownN_set (B := p.tb) (k := v) (x := .bool true) (World.grownBy.refl w (some p.tb))) (fun k e => (Option.some.inj e).symm))
  have hq1 := HP.out.hp.outN O1.out n1.1.2.1
  have HQ1 := Lib.hid (hq1)
  have hq2 := HP.out.hr.outN O1.out n1.2.1.2.1
  have HQ2 := Lib.hid hq2
  have hq3 := (HP.out.hd).outN O1.out n2.1
  have HQ3 := Lib.hid hq3
  have HN2 := Lib.hid (hn.outN O1.out (fun j hj => hj.2.1))
  generalize m.there d v = tv at *
  obtain ⟨l, hl⟩ : ∃ l, l = oncL (m.rd v) := ⟨_, rfl⟩
  rw [← hl] at r1 hlen HN2 HRE
  have hli : (l.length : Int) ≤ 2 := by omega
  have HLT2 : ∀ x ∈ l, x < v := by rw [hl]; exact hlt
  have HLT2 := Lib.hid HLT2
  have N1 := Lib.hid n1
  have N2 := Lib.hid n2
  have R1 := Lib.hid r1
  clear h hn hlt hltr r1 hl F H hv hvd htd hrl RBD hq1 hq2 hq3 n1 n2
  go_enter Try.func35, Try.ntmps35
  go_upto_region 1 with fail
  clear t1 tf tl pl p0 p1 p2 p3 p4 p5 p6 p7
  generalize w.setCell ⟨p.tb, v, none⟩ (.bool true) = W1 at *
  have pl := HQ1.out.lt
  have p1 := HQ1.out.cell 1 _ rfl
  have rl := HQ2.out.lt
  have r2 := HQ2.out.cell v _ R1.out
  go_wp2_with fail
  clear pl p1 rl r2
  go_loopw [20] (fun s20 wr => ∃ k : Nat, k ≤ l.length ∧ s20 = .int .i64 k ∧ RowAt wr p.db (intsV (addAll (-1) (m.readersL d) (zs (l.take k)))) ∧ Out (fun j => j = p.db) W1 wr) (fun s20 _ => l.length - (intOf s20).toNat)
  case atStart => exact ⟨0, Nat.zero_le _, rfl, HQ3.out, Out.refl _ _⟩
  case round =>
    obtain ⟨k, hk, rfl, hR, hO⟩ := hrel
    have HO := Lib.hid hO
    have HR := Lib.hid hR
    have hq1 := HQ1.out.outN hO N1.out.1.1
    have p3 := hq1.cell 3 _ rfl
    have pl := hq1.lt
    clear hO hR hq1
    by_cases hkl : k < l.length
    · obtain ⟨x, hx⟩ : ∃ x, l[k]? = some x := ⟨_, List.getElem?_eq_getElem hkl⟩
      obtain ⟨g, rfl, _, hg, hc2⟩ := (HN2.out.outN HO.out (fun j hj => hj.1)) k x hx
      have hxv := HLT2.out x (List.mem_of_getElem? hx)
      have hxl : x < (addAll (-1) (m.readersL d) (zs (l.take k))).length := by rw [addAll_len, HRL.out]; omega
      obtain ⟨y, hy⟩ : ∃ y, (addAll (-1) (m.readersL d) (zs (l.take k)))[x]? = some y := ⟨_, List.getElem?_eq_getElem hxl⟩
      have hyb := addAll_bd (b := -1) (by decide) (zs (l.take k)) (m.readersL d) 1000 (fun z hz => by have := HRB.out z hz; omega) (by omega) y (List.mem_of_getElem? hy)
      have hzl : (zs (l.take k)).length ≤ 2 := by simp [zs]; omega
      have y0 : -2000 ≤ y := by omega
      have y1 : y ≤ 2000 := by omega
      have d1 := HR.out.cell x _ (intsV_at hy)
      have df := HR.out.fr x
      have dl := HR.out.lt
      have kl0 : (0 : Int) ≤ (k : Int) := by omega
      have kl1 : (k : Int) < (l.length : Int) := by omega
      have x0 : (0 : Int) ≤ (x : Int) := by omega
      have x1 : (x : Int) < (m.N : Int) + 1 := by omega
      have HK := Lib.hid hkl
      have HS := addAt_row (b := -1) HR.out hxl
      rw [show (addAll (-1) (m.readersL d) (zs (l.take k))).getD x 0 = y by simp [List.getD, hy]] at HS
      have HNX := Lib.hid (show addAll (-1) (m.readersL d) (zs (l.take (k + 1))) = addAt (-1) (addAll (-1) (m.readersL d) (zs (l.take k))) (x : Int) by rw [List.take_add_one, hx, ← addAll_snoc]; simp [zs])
      have HS2 := Lib.hid HS
      have OX := Lib.hid (Out.of_grown (S := fun j => j = p.db) (grownN_set (B := p.db) (k := x) (x := .int .i64 (y + -1)) (World.grownBy.refl wr (some p.db))) (fun k e => (Option.some.inj e).symm))
      clear hx hkl hxv hxl hk hy hyb hzl HS
      go_wp2_with fail
      exact ⟨⟨k + 1, by have := HK.out; omega, rfl, by rw [HNX.out]; exact HS2.out, HO.out.trans OX.out⟩, by have := HK.out; simp [intOf]; omega⟩
    · obtain rfl : k = l.length := by omega
      have hO := HO.out
      have hR := HR.out
      rw [List.take_length, HRE.out] at hR
      have OA : Out (fun j => j = p.db ∨ j = p.tb) w wr := (O1.out.mono (fun j h => .inr h)).trans (hO.mono (fun j h => .inl h))
      have hf : ∀ j, p.far T j → ¬ (j = p.db ∨ j = p.tb) := fun j hj h => h.elim hj.1 hj.2.1
      have hT := HT.out.outN hO (fun e => N2.out.1 e.symm)
      rw [HTE.out] at hT
      have hend : PlanAt m (d ++ [v]) p T wr := ⟨HP.out.hp.outN OA (hf _ N1.out.1), HP.out.hr.outN OA (hf _ N1.out.2.1), HP.out.rr, fun u hu => by
        obtain ⟨a, c, h1, h2, h3⟩ := HP.out.rc u hu
        exact ⟨a, c, h1, h2, h3.outN OA hf⟩, HP.out.hs.outN OA (hf _ N1.out.2.2.1), hR, hT, HP.out.hf.outN OA (hf _ N1.out.2.2.2), HP.out.hq.outN OA hf, HP.out.hqc, HP.out.n1, HP.out.n2⟩
      have HE := Lib.hid hend
      have HOA := Lib.hid OA
      clear hkl hO hR OA hf hT hend
      go_wp2_with fail
      go_end0
      exact ⟨rfl, HE.out, HOA.out⟩
end Go.Proofs.Ytmifojpmomdmeaa

namespace Go.Proofs.Ytmifojpmomdmeaa
open Go Go.RowKit
set_option linter.unusedVariables false
set_option linter.unusedSimpArgs false

theorem row_cells {w : World} {b : Nat} {l : List Value} {t : TypeId} (h : w.heap[b]? = some (.cells l.toArray t)) : RowAt w b l :=
  ⟨(Array.getElem?_eq_some_iff.1 h).1, fun j => by simp [World.frozen?, h], fun j u hu => by simp only [World.cell?, h]; simpa using hu⟩
theorem NumsAt.mono2 {P Q : Nat → Prop} {w : World} {a : Option Addr} {l : List Nat} (h : NumsAt P w a l) (k : ∀ j, P j → j < w.heap.size → Q j) : NumsAt Q w a l := fun i x hx => by
  obtain ⟨g, h1, h2, h3, h4⟩ := h i x hx
  exact ⟨g, h1, k g h2 h3, h3, h4⟩
structure B6 where
  pb : Nat
  rb : Nat
  sb : Nat
  db : Nat
  tb : Nat
  fb : Nat
def B6.cells (b : B6) (n : Nat) (o q l : Value) : List Value := [o, .slice (some ⟨b.rb, 0, none⟩) n n, .slice (some ⟨b.sb, 0, none⟩) n n, .slice (some ⟨b.db, 0, none⟩) n n, .slice (some ⟨b.tb, 0, none⟩) n n, .slice (some ⟨b.fb, 0, none⟩) n n, q, l]
structure Six (n : Nat) (b : B6) (o q l : Value) (rv sv dv tv fv : List Value) (w : World) : Prop where
  p : RowAt w b.pb (b.cells n o q l)
  r : RowAt w b.rb rv
  s : RowAt w b.sb sv
  d : RowAt w b.db dv
  t : RowAt w b.tb tv
  f : RowAt w b.fb fv
/-- they lie apart, below T -/
structure B6.Apart (b : B6) (T : Nat) : Prop where
  nd : [b.pb, b.rb, b.sb, b.db, b.tb, b.fb].Nodup
  lt : b.pb < T ∧ b.rb < T ∧ b.sb < T ∧ b.db < T ∧ b.tb < T ∧ b.fb < T
theorem B6.Apart.ne {b : B6} {T : Nat} (h : b.Apart T) : (b.pb ≠ b.rb ∧ b.pb ≠ b.sb ∧ b.pb ≠ b.db ∧ b.pb ≠ b.tb ∧ b.pb ≠ b.fb) ∧ (b.rb ≠ b.sb ∧ b.rb ≠ b.db ∧ b.rb ≠ b.tb ∧ b.rb ≠ b.fb) ∧ (b.sb ≠ b.db ∧ b.sb ≠ b.tb ∧ b.sb ≠ b.fb) ∧ (b.db ≠ b.tb ∧ b.db ≠ b.fb) ∧ b.tb ≠ b.fb := by
  have := h.nd
  simp only [List.nodup_cons, List.mem_cons, not_or, List.not_mem_nil, not_false_eq_true, and_true, List.nodup_nil] at this
  exact ⟨this.1, this.2.1, this.2.2.1, this.2.2.2.1, this.2.2.2.2⟩
section
variable {n : Nat} {b : B6} {o q l : Value} {rv sv dv tv fv : List Value} {w : World} {T : Nat}
theorem Six.outN {S : Nat → Prop} {w' : World} (h : Six n b o q l rv sv dv tv fv w) (A : b.Apart T) (k : Out S w w') (hs : ∀ j, S j → T ≤ j) : Six n b o q l rv sv dv tv fv w' := by
  have L := A.lt
  exact ⟨h.p.outN k (fun hS => by have := hs _ hS; omega), h.r.outN k (fun hS => by have := hs _ hS; omega), h.s.outN k (fun hS => by have := hs _ hS; omega), h.d.outN k (fun hS => by have := hs _ hS; omega), h.t.outN k (fun hS => by have := hs _ hS; omega), h.f.outN k (fun hS => by have := hs _ hS; omega)⟩
theorem Six.over {w' : World} (h : Six n b o q l rv sv dv tv fv w) (k : Below w.heap.size w w') : Six n b o q l rv sv dv tv fv w' :=
  ⟨h.p.over k, h.r.over k, h.s.over k, h.d.over k, h.t.over k, h.f.over k⟩
theorem Six.setR (h : Six n b o q l rv sv dv tv fv w) (A : b.Apart T) (j : Nat) (v : Value) (hj : j < rv.length) : Six n b o q l (rv.set j v) sv dv tv fv (w.setCell ⟨b.rb, j, none⟩ v) := by
  have N := A.ne
  exact ⟨h.p.aside _ _ _ (Ne.symm N.1.1), h.r.set j v hj rfl, h.s.aside _ _ _ N.2.1.1, h.d.aside _ _ _ N.2.1.2.1, h.t.aside _ _ _ N.2.1.2.2.1, h.f.aside _ _ _ N.2.1.2.2.2⟩
theorem Six.setS (h : Six n b o q l rv sv dv tv fv w) (A : b.Apart T) (j : Nat) (v : Value) (hj : j < sv.length) : Six n b o q l rv (sv.set j v) dv tv fv (w.setCell ⟨b.sb, j, none⟩ v) := by
  have N := A.ne
  exact ⟨h.p.aside _ _ _ (Ne.symm N.1.2.1), h.r.aside _ _ _ (Ne.symm N.2.1.1), h.s.set j v hj rfl, h.d.aside _ _ _ N.2.2.1.1, h.t.aside _ _ _ N.2.2.1.2.1, h.f.aside _ _ _ N.2.2.1.2.2⟩
theorem Six.setD (h : Six n b o q l rv sv dv tv fv w) (A : b.Apart T) (j : Nat) (v : Value) (hj : j < dv.length) : Six n b o q l rv sv (dv.set j v) tv fv (w.setCell ⟨b.db, j, none⟩ v) := by
  have N := A.ne
  exact ⟨h.p.aside _ _ _ (Ne.symm N.1.2.2.1), h.r.aside _ _ _ (Ne.symm N.2.1.2.1), h.s.aside _ _ _ (Ne.symm N.2.2.1.1), h.d.set j v hj rfl, h.t.aside _ _ _ N.2.2.2.1.1, h.f.aside _ _ _ N.2.2.2.1.2⟩
theorem Six.setT (h : Six n b o q l rv sv dv tv fv w) (A : b.Apart T) (j : Nat) (v : Value) (hj : j < tv.length) : Six n b o q l rv sv dv (tv.set j v) fv (w.setCell ⟨b.tb, j, none⟩ v) := by
  have N := A.ne
  exact ⟨h.p.aside _ _ _ (Ne.symm N.1.2.2.2.1), h.r.aside _ _ _ (Ne.symm N.2.1.2.2.1), h.s.aside _ _ _ (Ne.symm N.2.2.1.2.1), h.d.aside _ _ _ (Ne.symm N.2.2.2.1.1), h.t.set j v hj rfl, h.f.aside _ _ _ N.2.2.2.2⟩
theorem Six.setF (h : Six n b o q l rv sv dv tv fv w) (A : b.Apart T) (j : Nat) (v : Value) (hj : j < fv.length) : Six n b o q l rv sv dv tv (fv.set j v) (w.setCell ⟨b.fb, j, none⟩ v) := by
  have N := A.ne
  exact ⟨h.p.aside _ _ _ (Ne.symm N.1.2.2.2.2), h.r.aside _ _ _ (Ne.symm N.2.1.2.2.2), h.s.aside _ _ _ (Ne.symm N.2.2.1.2.2), h.d.aside _ _ _ (Ne.symm N.2.2.2.1.2), h.t.aside _ _ _ (Ne.symm N.2.2.2.2), h.f.set j v hj rfl⟩
theorem Six.setQ (h : Six n b o q l rv sv dv tv fv w) (A : b.Apart T) (v : Value) : Six n b o v l rv sv dv tv fv (w.setCell ⟨b.pb, 6, none⟩ v) := by
  have N := A.ne
  exact ⟨h.p.set 6 v (by simp [B6.cells]) rfl, h.r.aside _ _ _ N.1.1, h.s.aside _ _ _ N.1.2.1, h.d.aside _ _ _ N.1.2.2.1, h.t.aside _ _ _ N.1.2.2.2.1, h.f.aside _ _ _ N.1.2.2.2.2⟩
theorem Six.setL (h : Six n b o q l rv sv dv tv fv w) (A : b.Apart T) (v : Value) : Six n b o q v rv sv dv tv fv (w.setCell ⟨b.pb, 7, none⟩ v) := by
  have N := A.ne
  exact ⟨h.p.set 7 v (by simp [B6.cells]) rfl, h.r.aside _ _ _ N.1.1, h.s.aside _ _ _ N.1.2.1, h.d.aside _ _ _ N.1.2.2.1, h.t.aside _ _ _ N.1.2.2.2.1, h.f.aside _ _ _ N.1.2.2.2.2⟩
theorem Six.fields (h : Six n b o q l rv sv dv tv fv w) : b.pb < w.heap.size ∧ w.cell? ⟨b.pb, 1, none⟩ = some (.slice (some ⟨b.rb, 0, none⟩) n n) ∧ w.cell? ⟨b.pb, 2, none⟩ = some (.slice (some ⟨b.sb, 0, none⟩) n n) ∧ w.cell? ⟨b.pb, 3, none⟩ = some (.slice (some ⟨b.db, 0, none⟩) n n) ∧ w.cell? ⟨b.pb, 4, none⟩ = some (.slice (some ⟨b.tb, 0, none⟩) n n) ∧ w.cell? ⟨b.pb, 5, none⟩ = some (.slice (some ⟨b.fb, 0, none⟩) n n) ∧ w.cell? ⟨b.pb, 6, none⟩ = some q :=
  ⟨h.p.lt, h.p.cell 1 _ rfl, h.p.cell 2 _ rfl, h.p.cell 3 _ rfl, h.p.cell 4 _ rfl, h.p.cell 5 _ rfl, h.p.cell 6 _ rfl⟩
/-- what of the heap a store into the six changes -/
theorem out_setB (w : World) (B j : Nat) (v : Value) (T0 : Nat) : Out (fun i => i = B) w (w.setCell ⟨B, j, none⟩ v) :=
  Out.of_grown (grownN_set (World.grownBy.refl w (some B))) (fun k e => (Option.some.inj e).symm)
end
end Go.Proofs.Ytmifojpmomdmeaa
