/- Contracts of lir.Writes, lir.Reads and of lists of numbers: what each call answers. -/
import Derived.Test.YtlieapapmkbbgaaLir
namespace Go.Proofs.Ytlieapapmkbbgaa
open Go Go.RowKit
set_option linter.unusedVariables false

theorem ret_bool' {a b : Bool} (h : a = b) : Ending.returned (.bool a) = .returned (.bool b) := by rw [h]
theorem ret_i64' {a b : Int} (h : a = b) : Ending.returned (.int .i64 a) = .returned (.int .i64 b) := by rw [h]
theorem bt' {w a b : World} (h : Below w.heap.size w a) (k : Below a.heap.size a b) : Below w.heap.size w b := h.trans (k.mono h.size)

theorem can_yes (o d a b i : Int) (w : World) (h : canS ⟨o, d, a, b, i⟩ = true) : Calls Try.prog 26 #[.agg #[.int .i64 o, .int .i64 d, .int .i64 a, .int .i64 b, .int .i32 i]] w fun e w' =>
    e = .returned (.tuple #[.agg #[.bool (hasD o), .bool (hasA o), .bool (hasB o), .int .i32 (leastS o), .int .i32 (mostS o)], .bool true]) ∧ Below w.heap.size w w' :=
  (can_any o d a b i w).mono fun e w' hh => by
    obtain ⟨he, hb⟩ := hh
    rw [h] at he
    exact ⟨he, hb⟩
theorem can_not (o d a b i : Int) (w : World) (h : canS ⟨o, d, a, b, i⟩ = false) : Calls Try.prog 26 #[.agg #[.int .i64 o, .int .i64 d, .int .i64 a, .int .i64 b, .int .i32 i]] w fun e w' =>
    e = .returned (.tuple #[.agg #[.bool false, .bool false, .bool false, .int .i32 0, .int .i32 0], .bool false]) ∧ Below w.heap.size w w' :=
  (can_any o d a b i w).mono fun e w' hh => by
    obtain ⟨he, hb⟩ := hh
    rw [h] at he
    exact ⟨he, hb⟩

/-- the cells of a struct that was boxed first, behind a call -/
theorem boxed {w w1 : World} {cs : Array Value} {t : TypeId} (hb : Below (w.alloc (.cells cs t)).heap.size (w.alloc (.cells cs t)) w1) :
    (∀ j v, cs[j]? = some v → w1.cell? ⟨w.heap.size, j, none⟩ = some v) ∧ w.heap.size < w1.heap.size ∧ w.heap.size ≤ w1.heap.size := by
  have hs := hb.size
  simp at hs
  refine ⟨fun j v hv => (hb.cell (p := ⟨w.heap.size, j, none⟩) (by simp)).trans ?_, by omega, by omega⟩
  rw [World.cell?_alloc_new]
  exact hv

set_option maxHeartbeats 400000 in
theorem writes_any (o d a b i : Int) (w : World) :
    Calls Try.prog 41 #[.agg #[.int .i64 o, .int .i64 d, .int .i64 a, .int .i64 b, .int .i32 i]] w fun e w' => e = .returned (.int .i64 (writesS ⟨o, d, a, b, i⟩)) ∧ Below w.heap.size w w' := by
  cases hc : canS ⟨o, d, a, b, i⟩
  · have E := Lib.hid (show writesS ⟨o, d, a, b, i⟩ = -1 by unfold writesS; rw [hc]; rfl)
    have C := Lib.hid hc
    clear hc
    go_enter Try.func41, Try.ntmps41
    go_wp2_with fail
    refine (can_not o d a b i _ C.out).mono ?_
    rintro e w1 ⟨rfl, hb⟩
    obtain ⟨hc, hz, hz'⟩ := boxed hb
    have HB := Lib.hid hb
    clear hb hc
    go_wp2_with fail
    go_ret
    exact ⟨ret_i64' E.out.symm, bt' (by go_grown) (bt' HB.out (by go_grown))⟩
  · cases hd : hasD o
    · have E := Lib.hid (show writesS ⟨o, d, a, b, i⟩ = -1 by unfold writesS; simp [hd])
      have C := Lib.hid hc
      have HD := Lib.hid hd
      clear hc hd
      go_enter Try.func41, Try.ntmps41
      go_wp2_with fail
      refine (can_yes o d a b i _ C.out).mono ?_
      rw [HD.out]
      rintro e w1 ⟨rfl, hb⟩
      obtain ⟨hc, hz, hz'⟩ := boxed hb
      have HB := Lib.hid hb
      clear hb hc
      go_wp2_with fail
      go_ret
      exact ⟨ret_i64' E.out.symm, bt' (by go_grown) (bt' HB.out (by go_grown))⟩
    · have E := Lib.hid (show writesS ⟨o, d, a, b, i⟩ = d by unfold writesS; simp [hc, hd])
      have C := Lib.hid hc
      have HD := Lib.hid hd
      clear hc hd
      go_enter Try.func41, Try.ntmps41
      go_wp2_with fail
      refine (can_yes o d a b i _ C.out).mono ?_
      rw [HD.out]
      rintro e w1 ⟨rfl, hb⟩
      obtain ⟨hc, hz, hz'⟩ := boxed hb
      have c1 := hc 1 _ rfl
      have HB := Lib.hid hb
      clear hb hc
      go_wp2_with fail
      go_ret
      exact ⟨ret_i64' E.out.symm, bt' (by go_grown) (bt' HB.out (by go_grown))⟩

theorem info_int : (Try.prog.info? 3).map (fun i => (i.zero, i.size, i.bytes)) = some (some (.int .i64 0), 1, 8) := by kernel_rfl
def iv (x : Int) : Value := .int .i64 x
/-- numbers that the call itself owns -/
def OwnI (w : World) (base : Nat) (v : Value) (l : List Int) : Prop := w.ownsRow base 3 1 v l.length (l.map iv)
theorem iv_one (l : List Int) : ∀ u ∈ l.map iv, u.oneCell' = true := by
  intro u hu
  simp only [List.mem_map] at hu
  obtain ⟨x, _, rfl⟩ := hu
  rfl
theorem news_one (w : World) (x : Int) (H : Nat) (hH : w.heap.size = H) : ∀ j u, [iv x][j]? = some u → (w.alloc (.cells #[.int .i64 x] 3)).cell? ((⟨H, 0, none⟩ : Addr).add j) = some u := by
  subst hH
  intro j u h
  rw [add_at, Nat.zero_add, World.cell?_alloc_new]
  simpa [iv] using h
theorem below_grown' {w w1 w' : World} {v : Value} (h : Below w.heap.size w w1) (hg : w1.grownBy w' v.ownBlock) (hv : ∀ k, v.ownBlock = some k → w.heap.size ≤ k) : Below w.heap.size w w' :=
  h.grown hg h.size hv
theorem cell_two {w1 : World} {cs ds : Array Value} {t u : TypeId} {j : Nat} {v : Value} (h : cs[j]? = some v) : ((w1.alloc (.cells cs t)).alloc (.cells ds u)).cell? ⟨w1.heap.size, j, none⟩ = some v := by
  rw [World.cell?_alloc_past _ _ _ (by simp), World.cell?_alloc_new]; exact h
theorem cell_old {w1 : World} {o o' : Obj} {b j : Nat} {v : Value} (h : w1.cell? ⟨b, j, none⟩ = some v) (hb : b < w1.heap.size) : ((w1.alloc o).alloc o').cell? ⟨b, j, none⟩ = some v := by
  rw [World.cell?_alloc_past _ _ _ (by simp; omega), World.cell?_alloc_past _ _ _ hb]; exact h
def ReadsPost (w : World) (l : List Int) (e : Ending) (w' : World) : Prop := ∃ v, e = .returned v ∧ OwnI w' w.heap.size v l ∧ Below w.heap.size w w'
theorem reads_none {x : Q5} (h : canS x = false) : readsS x = [] := by unfold readsS; rw [h]; rfl
theorem reads_ab {x : Q5} (h : canS x = true) (ha : hasA x.o = true) (hb : hasB x.o = true) : readsS x = [x.a, x.b] := by unfold readsS; simp [h, ha, hb]
theorem reads_a {x : Q5} (h : canS x = true) (ha : hasA x.o = true) (hb : hasB x.o = false) : readsS x = [x.a] := by unfold readsS; simp [h, ha, hb]
theorem reads_0 {x : Q5} (h : canS x = true) (ha : hasA x.o = false) (hb : hasB x.o = false) : readsS x = [] := by unfold readsS; simp [h, ha, hb]
theorem hasB_A {o : Int} (h : hasB o = true) : hasA o = true := by unfold hasB at h; unfold hasA; simp at *; omega
theorem own_nilI (w : World) (base : Nat) : OwnI w base (.slice none 0 0) [] := World.ownsRow_nil _ _ _ _

end Go.Proofs.Ytlieapapmkbbgaa
