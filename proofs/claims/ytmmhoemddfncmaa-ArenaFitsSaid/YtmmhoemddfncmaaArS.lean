/- Sorting rooms: the kit's contract of slices.SortFunc, in these texts' words. -/
import Derived.Test.YtmmhoemddfncmaaRmA
import Derived.Test.YtmmhoemddfncmaaLayg
import Derived.Shelf.SlSortCmp.WholeK
namespace Go.Proofs.Ytmmhoemddfncmaa
open Go Go.RowKit
set_option linter.unusedVariables false

set_option maxRecDepth 100000 in
set_option maxHeartbeats 1000000 in
theorem compare_any (x y : Int) (w : World) : Calls Try.prog 28 #[.int .i64 x, .int .i64 y] w fun e w' => e = .returned (.int .i64 (if x < y then -1 else if y < x then 1 else 0)) ∧ w' = w := by
  have ex : (x != x) = false := by simp
  have ey : (y != y) = false := by simp
  by_cases h1 : x < y
  · rw [if_pos h1]
    go_enter Try.func28, Try.ntmps28
    go_wp2
    go_ret
    exact ⟨rfl, rfl⟩
  · rw [if_neg h1]
    by_cases h2 : y < x
    · rw [if_pos h2]
      go_enter Try.func28, Try.ntmps28
      go_wp2
      go_ret
      exact ⟨rfl, rfl⟩
    · rw [if_neg h2]
      have t1 : decide (x < y) = false := by simpa using h1
      have t2 : decide (y < x) = false := by simpa using h2
      go_enter Try.func28, Try.ntmps28
      go_wp2
      go_ret
      exact ⟨rfl, rfl⟩

def encR (x : Rm) : List Value := [.int .i64 x.1, .int .i64 x.2]
set_option maxHeartbeats 1000000 in
theorem closureR (x y : Rm) (W : World) : Calls Try.prog 30 #[.agg #[.int .i64 x.1, .int .i64 x.2], .agg #[.int .i64 y.1, .int .i64 y.2]] W fun e w' => e = .returned (.int .i64 (fR x y)) ∧ ∃ q os', w' = Sort.grow (W.drewN q) os' := by
  obtain ⟨x1, x2⟩ := x
  obtain ⟨y1, y2⟩ := y
  unfold fR
  obtain ⟨r, hr⟩ : ∃ r : Int, r = (if x1 < y1 then -1 else if y1 < x1 then 1 else 0) := ⟨_, rfl⟩
  have C := Lib.hid (fun W => compare_any x1 y1 W)
  simp only
  rw [← hr] at C ⊢
  clear hr
  go_enter Try.func30, Try.ntmps30
  go_wp2_with fail
  refine (C.out _).mono ?_
  rintro e w2 ⟨rfl, rfl⟩
  go_wp2_with fail
  go_ret
  exact ⟨rfl, 0, _, by rw [Sort.alloc_eq_grow, Sort.alloc_eq_grow, Sort.grow_grow]; rfl⟩
theorem cmpLaysR (blk off size : Nat) (w : World) : CmpLays Try.prog 30 #[] encR 2 fR blk off size w :=
  fun _ _ _ _ x y => closureR x y _
theorem ltOf_fR : ltOf fR = ltR := by
  funext x y
  exact fR_lt x y

/-! ### the world behind the sort -/
def setL : List Value → Nat → List Value → List Value
  | xs, _, [] => xs
  | xs, s, v :: r => setL (xs.set s v) (s + 1) r
theorem setL_all : ∀ (vs P xs : List Value), xs.length = vs.length → setL (P ++ xs) P.length vs = P ++ vs
  | [], P, xs, h => by
    have : xs = [] := List.eq_nil_of_length_eq_zero (by simpa using h)
    subst this
    rfl
  | v :: r, P, xs, h => by
    obtain ⟨x, ys, rfl⟩ : ∃ x ys, xs = x :: ys := by
      cases xs with
      | nil => simp at h
      | cons x ys => exact ⟨x, ys, rfl⟩
    rw [setL, List.set_append_right _ _ (Nat.le_refl _), Nat.sub_self, List.set_cons_zero]
    have := setL_all r (P ++ [v]) ys (by simpa using h)
    simp only [List.append_assoc, List.length_append, List.length_cons, List.length_nil, List.cons_append, List.nil_append, Nat.zero_add] at this
    exact this
theorem own_setCells {base c n G : Nat} {e : TypeId} {size : Nat} : ∀ (vs : List Value) (s : Nat) (w : World) (xs : List Value), w.ownsRow base e size (.slice (some ⟨G, 0, none⟩) n c) n xs →
    (w.setCells G s vs).ownsRow base e size (.slice (some ⟨G, 0, none⟩) n c) n (setL xs s vs) ∧ w.grownBy (w.setCells G s vs) (some G)
  | [], s, w, xs, h => ⟨h, World.grownBy.refl _ _⟩
  | v :: r, s, w, xs, h => by
    obtain ⟨o1, g1⟩ := h.stored s v
    obtain ⟨o2, g2⟩ := own_setCells r (s + 1) _ _ o1
    exact ⟨o2, g1.trans g2⟩
theorem flatK_len (d : Array Rm) : (Sort.flatK encR 2 d).toList.length = d.size * 2 := by simp
theorem flatK_c2 (d : Array Rm) : (Sort.flatK encR 2 d).toList = c2 d.toList := by
  apply List.ext_getElem
  · rw [flatK_len, c2_len]; simp
  · intro t h1 h2
    rw [flatK_len] at h1
    have g := Sort.get_flatK encR 2 d t h1
    have hk : t / 2 < d.size := by omega
    obtain ⟨e0, e1⟩ := c2_at0 d.toList (t / 2) d[t / 2]! (getBang hk)
    have hm : t % 2 = 0 ∨ t % 2 = 1 := by omega
    have hv : (Sort.flatK encR 2 d).toList[t]'(by rw [flatK_len]; exact h1) = (Sort.flatK encR 2 d)[t]! := by
      rw [getElem!_pos _ t (by simpa using h1)]
      simp
    rw [hv, g]
    apply Option.some.inj
    rw [← List.getElem?_eq_getElem h2]
    rcases hm with hm | hm
    · rw [hm, show t = t / 2 * 2 by omega, e0]
      simp [encR]
    · rw [hm, show t = t / 2 * 2 + 1 by omega, show (t / 2 * 2 + 1) / 2 = t / 2 by omega, e1]
      simp [encR]
theorem setMany_all : ∀ (vs : List Value) (F : Array Value), F.size = vs.length → Sort.setMany F 0 vs = vs.toArray := by
  intro vs F h
  apply Sort.ext_get! (by simp [h])
  intro t ht
  rw [Sort.size_setMany] at ht
  rw [Sort.get_setMany _ _ _ t ht, if_pos ⟨Nat.zero_le _, by omega⟩, Nat.sub_zero]
  simp
theorem holds_of {w : World} {base G c n : Nat} {d : Array Rm} (h : SW w base G c n d) : Sort.HoldsK encR 2 w G 0 d := by
  intro t ht
  rw [Sort.size_flatK] at ht
  rw [Sort.get_flatK _ _ _ _ ht, Nat.zero_add]
  have hk : t / 2 < n := by have := h.1; omega
  obtain ⟨c0, c1, f0, f1, _⟩ := h.at hk
  have hm : t % 2 = 0 ∨ t % 2 = 1 := by omega
  rcases hm with hm | hm
  · rw [hm]
    rw [show t / 2 * 2 = t by omega] at c0 f0
    exact ⟨c0, f0⟩
  · rw [hm]
    rw [show t / 2 * 2 + 1 = t by omega] at c1 f1
    exact ⟨c1, f1⟩
theorem sorted_world {w : World} {base G c n m : Nat} {d d' : Array Rm} {os : Array Obj} (h : SW w base G c n d) (hs : d'.size = d.size) :
    SW (sortWorldK encR 2 w G 0 m d' os) base G c n d' ∧ w.grownBy (sortWorldK encR 2 w G 0 m d' os) (some G) := by
  have hA : SW (w.drewN m) base G c n d := h
  have e : Sort.putRowK encR 2 (Sort.ahead w m) G 0 d' = (w.drewN m).setCells G 0 (c2 d'.toList) := by
    have e1 := Sort.setCells_putRow (w.drewN m) G 0 (c2 d'.toList) 0 (Sort.flatK encR 2 d) (by rw [c2_len, Sort.size_flatK]; simp [hs])
    rw [setMany_all _ _ (by rw [c2_len, Sort.size_flatK]; simp [hs])] at e1
    have e2 : Sort.putRow id (w.drewN m) G 0 (Sort.flatK encR 2 d) = w.drewN m := Sort.putRow_self id _ _ _ _ (holds_of hA)
    rw [e2] at e1
    rw [Nat.add_zero] at e1
    unfold Sort.putRowK
    show Sort.putRow id (w.drewN m) G 0 _ = _
    rw [e1, ← flatK_c2]
  obtain ⟨o, g⟩ := own_setCells (c2 d'.toList) 0 (w.drewN m) _ hA.2
  have e3 := setL_all (c2 d'.toList) [] (c2 d.toList) (by rw [c2_len, c2_len]; simp [hs])
  simp only [List.nil_append, List.length_nil] at e3
  rw [e3] at o
  unfold sortWorldK
  rw [e]
  have bg : ∀ (W : World), Below W.heap.size W (Sort.grow W os) := fun W => ⟨rfl, rfl, rfl, by simp [Sort.grow], fun j hj => by simp [Sort.grow, Array.getElem?_append, hj]⟩
  have s1 : SW ((w.drewN m).setCells G 0 (c2 d'.toList)) base G c n d' := ⟨by rw [hs]; exact h.1, o⟩
  exact ⟨s1.later (bg _), grown_belowR ((show w.grownBy (w.drewN m) (some G) from ⟨rfl, rfl, rfl, Nat.le_refl _, fun _ _ _ => rfl⟩).trans g) (bg _)⟩

def SortPost (base G c n : Nat) (d : Array Rm) (w : World) (e : Ending) (w' : World) : Prop := e = .returned (.tuple #[]) ∧ ∃ d' : Array Rm, (∀ r, r ∈ d'.toList ↔ r ∈ d.toList) ∧ Rising d'.toList ∧ SW w' base G c n d' ∧ w.grownBy w' (some G)
theorem sortF_any (base G c n : Nat) (d : Array Rm) (w : World) (own : SW w base G c n d) (hn : n ≤ 4096) :
    Calls Try.prog 29 #[.slice (some ⟨G, 0, none⟩) n c, .func (.func 30) #[] #[]] w (SortPost base G c n d w) := by
  have eg : ∀ args w, (callFunc 30 args).run Try.prog w = .ok (.enter 30 args) w := enters_of Try.func30 (by kernel_rfl) rfl
  have hsz := own.1
  have hG := (own.2.lt G rfl).2
  have hcon := AnyQ.slices_SortFunc sortRm 2 Try.isAgg43 Try.sizeOf43 encR (fun _ => rfl) (fun x v hv => by simp [encR] at hv; rcases hv with rfl | rfl <;> rfl) fR (by rw [ltOf_fR]; exact swoR) 30 #[] G 0 c d w eg (cmpLaysR G 0 d.size w) (holds_of own) hG (by omega)
  change Calls Try.prog 29 _ _ _ at hcon
  rw [hsz] at hcon
  refine hcon.mono ?_
  rintro e w' ⟨rfl, d', m, os, hp, hs, rfl⟩
  have hs' : d'.size = d.size := hp.1
  obtain ⟨s1, g1⟩ := sorted_world (m := m) (os := os) own hs'
  refine ⟨rfl, d', ?_, ?_, s1, g1⟩
  · intro r
    have h := hp.2.2
    have e1 : (d'.extract 0 n).toList = d'.toList := by simp [← hsz, ← hs']
    have e2 : (d.extract 0 n).toList = d.toList := by simp [← hsz]
    rw [e1, e2] at h
    exact h.mem_iff
  · rw [ltOf_fR] at hs
    unfold Rising
    rw [List.pairwise_iff_getElem]
    intro i j hi hj hij
    have hi' : i < d'.size := by simpa using hi
    have hj' : j < d'.size := by simpa using hj
    have := hs i j (Nat.zero_le _) hij (by omega)
    rw [getElem!_pos d' i hi', getElem!_pos d' j hj'] at this
    simp [ltR] at this
    simpa using this
end Go.Proofs.Ytmmhoemddfncmaa
