/- Slices of numbers: those of the call's own, those that lie somewhere, and their comparison. -/
import Derived.Test.YtmmhoemddfncmaaProg
import Derived.Test.YtmmhoemddfncmaaBk
import Derived.OwnWalk
import Derived.Deep.OwnRows
import Derived.WalkSpells
import Derived.WalkSmall
import Derived.BigQuiet
import Derived.Deep.QuietTactic
import Derived.Deep.RegionHeld3
import Derived.Lib.Hide
import Derived.Great.Walk
namespace Go.Proofs.Ytmmhoemddfncmaa
open Go Go.RowKit
set_option linter.unusedVariables false

theorem info_int : (Try.prog.info? 3).map (fun i => (i.zero, i.size, i.bytes)) = some (some (.int .i64 0), 1, 8) := by kernel_rfl
def iv (x : Int) : Value := .int .i64 x
/-- numbers that the call itself owns -/
def OwnI (w : World) (base : Nat) (v : Value) (l : List Int) : Prop := w.ownsRow base 3 1 v l.length (l.map iv)
theorem iv_one (l : List Int) : ∀ u ∈ l.map iv, u.oneCell' = true := by
  intro u hu
  simp only [List.mem_map] at hu
  obtain ⟨x, _, rfl⟩ := hu
  rfl
theorem news_one (w : World) (x : Int) (H : Nat) (hH : w.heap.size = H) : ∀ j u, [iv x][j]? = some u → (w.alloc (.cells #[.int .i64 x] 3)).cell? ((⟨H, 0, none⟩ : Addr).add j) = some u := by
  subst hH
  intro j u h
  rw [add_at, Nat.zero_add, World.cell?_alloc_new]
  simpa [iv] using h
theorem below_grown' {w w1 w' : World} {v : Value} (h : Below w.heap.size w w1) (hg : w1.grownBy w' v.ownBlock) (hv : ∀ k, v.ownBlock = some k → w.heap.size ≤ k) : Below w.heap.size w w' :=
  h.grown hg h.size hv
theorem cell_two {w1 : World} {cs ds : Array Value} {t u : TypeId} {j : Nat} {v : Value} (h : cs[j]? = some v) : ((w1.alloc (.cells cs t)).alloc (.cells ds u)).cell? ⟨w1.heap.size, j, none⟩ = some v := by
  rw [World.cell?_alloc_past _ _ _ (by simp), World.cell?_alloc_new]; exact h
theorem cell_old {w1 : World} {o o' : Obj} {b j : Nat} {v : Value} (h : w1.cell? ⟨b, j, none⟩ = some v) (hb : b < w1.heap.size) : ((w1.alloc o).alloc o').cell? ⟨b, j, none⟩ = some v := by
  rw [World.cell?_alloc_past _ _ _ (by simp; omega), World.cell?_alloc_past _ _ _ hb]; exact h
def ReadsPost (w : World) (l : List Int) (e : Ending) (w' : World) : Prop := ∃ v, e = .returned v ∧ OwnI w' w.heap.size v l ∧ Below w.heap.size w w'

theorem own_nilI (w : World) (base : Nat) : OwnI w base (.slice none 0 0) [] := World.ownsRow_nil _ _ _ _
theorem own_made (w : World) (base : Nat) (hb : base ≤ w.heap.size) (H : Nat) (hH : w.heap.size = H) : OwnI (w.alloc (.cells #[] 3)) base (.slice (some ⟨H, 0, none⟩) 0 0) [] := by
  subst hH
  exact World.ownsRow_lit w #[] 0 hb (by decide) rfl


theorem grown_of_below {a w : World} (h : Below a.heap.size a w) (row : Option Nat) : a.grownBy w row := ⟨h.os, h.tape, h.output, h.size, fun i hi _ => h.block i hi⟩
theorem own_later {w w1 : World} {base n size : Nat} {e : TypeId} {v : Value} {xs : List Value} (h : w.ownsRow base e size v n xs) (hb : Below w.heap.size w w1) : w1.ownsRow base e size v n xs :=
  h.kept (grown_of_below hb none) (by cases v.ownBlock <;> simp)


theorem below_draw {w w' : World} (h : ∃ n, w' = w.drewN n) : Below w.heap.size w w' := by
  obtain ⟨n, rfl⟩ := h
  exact ⟨rfl, rfl, rfl, Nat.le_refl _, fun _ _ => rfl⟩


/-- a slice of numbers: where they lie -/
def IAt (w : World) (a : Option Addr) (l : List Int) : Prop := l.length ≤ 1000000000000 ∧ (l = [] ∨ ∃ b off, a = some ⟨b, off, none⟩ ∧ b < w.heap.size ∧ ∀ k x, l[k]? = some x → w.cell? ⟨b, off + k, none⟩ = some (.int .i64 x))
theorem IAt.later {w w' : World} {a : Option Addr} {l : List Int} (h : IAt w a l) (hb : Below w.heap.size w w') : IAt w' a l := by
  obtain ⟨h1, h | ⟨b, off, rfl, hlt, hc⟩⟩ := h
  · exact ⟨h1, Or.inl h⟩
  · exact ⟨h1, Or.inr ⟨b, off, rfl, Nat.lt_of_lt_of_le hlt hb.size, fun k x hx => (hb.cell hlt).trans (hc k x hx)⟩⟩
theorem own_i {w : World} {base : Nat} {v : Value} {l : List Int} (h : OwnI w base v l) (hl : l.length ≤ 1000000000000) : ∃ a c, v = .slice a l.length c ∧ IAt w a l := by
  have hlt := h.lt
  have h' := h
  obtain ⟨_, ⟨hv, hn⟩ | ⟨g, cap, cur, hv, hg, hh, hc, hcm, _⟩⟩ := h
  · have : l = [] := List.eq_nil_of_length_eq_zero hn
    subst this
    exact ⟨none, 0, hv, by simp, Or.inl rfl⟩
  · refine ⟨some ⟨g, 0, none⟩, cap, hv, hl, Or.inr ⟨g, 0, rfl, (hlt g (by rw [hv]; rfl)).2, fun k x hx => ?_⟩⟩
    have := h'.cells (g := g) (by rw [hv]; rfl) k (iv x) (by rw [List.getElem?_map, hx]; rfl)
    rw [add_at] at this
    exact this
theorem ints_lit (w : World) (l : List Int) (H : Nat) (hH : w.heap.size = H) (hl : l.length ≤ 1000000000000) : IAt (w.alloc (.cells (l.map iv).toArray 3)) (some ⟨H, 0, none⟩) l := by
  subst hH
  refine ⟨hl, Or.inr ⟨w.heap.size, 0, rfl, by simp, fun k x hx => ?_⟩⟩
  rw [Nat.zero_add, World.cell?_alloc_new]
  simp [hx, iv]

set_option maxHeartbeats 400000 in
theorem ints_eq (a1 a2 : Option Addr) (c1 c2 : Nat) (l : List Int) (w : World) (h1 : IAt w a1 l) (h2 : IAt w a2 l) :
    Calls Try.prog 12 #[.slice a1 l.length c1, .slice a2 l.length c2] w fun e w' => e = .returned (.bool true) ∧ ∃ n, w' = w.drewN n := by
  obtain ⟨hl, h1⟩ := h1
  obtain ⟨_, h2⟩ := h2
  have e0 : ((l.length : Int) != (l.length : Int)) = false := by simp
  by_cases hn : l = []
  · subst hn
    go_enter Try.func12, Try.ntmps12
    go_wp2_with fail
    go_rounds 1
    go_ret
    exact ⟨rfl, 0, rfl⟩
  · obtain ⟨b1, o1, rfl, hb1, hc1⟩ := h1.resolve_left hn
    obtain ⟨b2, o2, rfl, hb2, hc2⟩ := h2.resolve_left hn
    have HC1 := Lib.hid hc1
    have HC2 := Lib.hid hc2
    clear hc1 hc2 h1 h2 hn
    go_enter Try.func12, Try.ntmps12
    go_wp2_with fail
    go_loopw [5] (fun i wr => ∃ k n : Nat, k ≤ l.length ∧ i = .int .i64 k ∧ wr = w.drewN n) (fun i _ => l.length - (intOf i).toNat)
    case atStart => exact ⟨0, 0, Nat.zero_le _, rfl, rfl⟩
    case round =>
      obtain ⟨k, n, hk, rfl, rfl⟩ := hrel
      by_cases hlt : k < l.length
      · obtain ⟨x, hx⟩ : ∃ x, l[k]? = some x := ⟨_, List.getElem?_eq_getElem hlt⟩
        have p0 := HC1.out k x hx
        have q0 := HC2.out k x hx
        clear hx
        go_wp2_with fail
        go_quiet (fail)
        go_wp2_with fail
        go_roundw
        case measure => simp [intOf]; omega
        case rel => exact ⟨k + 1, _, by omega, by go_num, rfl⟩
      · obtain rfl : k = l.length := by omega
        go_wp2_with fail
        go_ret
        exact ⟨rfl, n, rfl⟩
end Go.Proofs.Ytmmhoemddfncmaa
