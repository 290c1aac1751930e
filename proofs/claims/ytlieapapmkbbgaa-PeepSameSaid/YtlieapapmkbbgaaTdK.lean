/- Contract of the tidier's put: what becomes of the steps. -/
import Derived.Test.YtlieapapmkbbgaaTdJ
namespace Go.Proofs.Ytlieapapmkbbgaa
open Go Go.RowKit
set_option linter.unusedVariables false

def TdSt (T B : Nat) (w : World) (r : List Q5) : Prop := ∃ (a : Option Addr) (c : Nat), w.cell? ⟨T, 0, none⟩ = some (.slice a r.length c) ∧ w.frozen? ⟨T, 0, none⟩ = false ∧ w.ownsRow B 46 5 (.slice a r.length c) r.length (flat r.reverse) ∧ (Value.slice a r.length c).ownBlock ≠ some T ∧ T < w.heap.size ∧ B ≤ w.heap.size
def TdPost (T B b0 : Nat) (w : World) (r : List Q5) (e : Ending) (w' : World) : Prop := e = .returned (.tuple #[]) ∧ TdSt T B w' r ∧ Below b0 w w'
theorem TdSt.later {T B : Nat} {w w' : World} {r : List Q5} (h : TdSt T B w r) (hb : Below w.heap.size w w') : TdSt T B w' r := by
  obtain ⟨a, c, h1, h2, h3, h4, h5, h6⟩ := h
  exact ⟨a, c, (hb.cell (p := ⟨T, 0, none⟩) h5).trans h1, (hb.frozen (p := ⟨T, 0, none⟩) h5).trans h2, own_later h3 hb, h4, Nat.lt_of_lt_of_le h5 hb.size, Nat.le_trans h6 hb.size⟩
theorem own_back5 {w : World} {B g n cap : Nat} {e : TypeId} {xs ys : List Value} (own : w.ownsRow B e 5 (.slice (some ⟨g, 0, none⟩) (n + 1) cap) (n + 1) (xs ++ ys)) (hx : xs.length = n * 5) : w.ownsRow B e 5 (.slice (some ⟨g, 0, none⟩) n cap) n xs := by
  obtain ⟨hl, ⟨h', _⟩ | ⟨g', cap', cur, h', hb, hg, hnc, hcm, hcs, htake⟩⟩ := own
  · cases h'
  · simp only [Value.slice.injEq, Option.some.injEq, Addr.mk.injEq, and_true, true_and] at h'
    obtain ⟨rfl, rfl⟩ := h'
    refine ⟨hx, .inr ⟨g, cap, cur, rfl, hb, hg, by omega, hcm, hcs, ?_⟩⟩
    have h1 : (xs ++ ys).take (n * 5) = xs := by rw [← hx, List.take_left]
    rw [← h1, ← htake, List.take_take, Nat.min_eq_left (by omega)]
theorem box_drew {w1 w2 : World} {cs : Array Value} {t : TypeId} (hbl : Below ((w1.alloc (.cells cs t)).drew).heap.size ((w1.alloc (.cells cs t)).drew) w2) : (∀ j v, cs[j]? = some v → w2.cell? ⟨w1.heap.size, j, none⟩ = some v) ∧ (∀ j, w2.frozen? ⟨w1.heap.size, j, none⟩ = false) ∧ w1.heap.size < w2.heap.size := by
  have hs : w1.heap.size < ((w1.alloc (.cells cs t)).drew).heap.size := by show w1.heap.size < (w1.alloc (.cells cs t)).heap.size; simp
  refine ⟨fun j v h => (hbl.cell (p := ⟨w1.heap.size, j, none⟩) hs).trans ?_, fun j => (hbl.frozen (p := ⟨w1.heap.size, j, none⟩) hs).trans ?_, Nat.lt_of_lt_of_le hs hbl.size⟩
  · show (w1.alloc (.cells cs t)).cell? ⟨w1.heap.size, j, none⟩ = some v
    rw [World.cell?_alloc_new]; exact h
  · show (w1.alloc (.cells cs t)).frozen? ⟨w1.heap.size, j, none⟩ = false
    simp
set_option maxRecDepth 100000 in
set_option maxHeartbeats 2000000 in
theorem put_idleN (T : Nat) (a0 : Option Addr) (c0 : Nat) (o d a b i : Int) (w : World) (hT : T < w.heap.size)
    (cT : w.cell? ⟨T, 0, none⟩ = some (.slice a0 0 c0)) (hi : idleS ⟨o, d, a, b, i⟩ = true) :
    Calls Try.prog 16 #[.pointer (some ⟨T, 0, none⟩), .agg #[.int .i64 o, .int .i64 d, .int .i64 a, .int .i64 b, .int .i32 i]] w fun e w' => e = .returned (.tuple #[]) ∧ Below w.heap.size w w' := by
  have IA := Lib.hid (idle_any o d a b i)
  have IS := Lib.hid hi
  clear hi
  go_enter Try.func16, Try.ntmps16
  go_wp2_with fail
  refine (IA.out _).mono ?_
  rw [IS.out]
  rintro e w1 ⟨rfl, hb⟩
  have HB1 := Lib.hid (show Below w.heap.size w w1 from ((Below.refl w.heap.size w).alloc (Nat.le_refl _) _).trans (hb.mono (by simp)))
  clear hb
  go_wp2_with fail
  exact Go.Great.bodyPost_end0 (by rfl) (by rfl) ⟨rfl, HB1.out⟩
/-- an idle step is left out; another one is the first -/
theorem put_0 (T B b0 : Nat) (x : Q5) (w : World) (h : TdSt T B w []) (hb0 : b0 ≤ T) (hbB : b0 ≤ B) :
    Calls Try.prog 16 #[.pointer (some ⟨T, 0, none⟩), .agg #[.int .i64 x.o, .int .i64 x.d, .int .i64 x.a, .int .i64 x.b, .int .i32 x.i]] w (TdPost T B b0 w (putR [] x)) := by
  have h' := h
  obtain ⟨a, c, h1, h2, h3, h4, h5, h6⟩ := h
  unfold putR
  by_cases hi : idleP x = true
  · rw [if_pos hi]
    refine (put_idleN T a c x.o x.d x.a x.b x.i w h5 h1 hi).mono ?_
    rintro e w' ⟨rfl, hb⟩
    exact ⟨rfl, h'.later hb, hb.mono (by omega)⟩
  · rw [if_neg hi]
    refine (put_append T B b0 a c x.o x.d x.a x.b x.i w h5 hb0 hbB h6 h1 h2 h3 h4 (show idleP x = false by simpa using hi)).mono ?_
    rintro e w' ⟨rfl, g, cap, g1, g2, g3, g4, g5⟩
    have hlt := (g3.lt g rfl).2
    exact ⟨rfl, ⟨_, cap, g1, g2, g3, by simp [Value.ownBlock]; exact g4, by have := g5.size; omega, by have := g5.size; omega⟩, g5⟩

theorem arm_alloc {w1 w2 : World} {a b c d e : Value} {t : TypeId} (hbl : Below ((w1.alloc (.cells #[a, b, c, d, e] t)).drew).heap.size ((w1.alloc (.cells #[a, b, c, d, e] t)).drew) w2) :
    Below w1.heap.size w1 w2 ∧ w2.cell? ⟨w1.heap.size, 0, none⟩ = some a ∧ w2.cell? ⟨w1.heap.size, 1, none⟩ = some b ∧ w2.cell? ⟨w1.heap.size, 2, none⟩ = some c ∧ w2.cell? ⟨w1.heap.size, 3, none⟩ = some d ∧ w2.cell? ⟨w1.heap.size, 4, none⟩ = some e ∧
    w2.frozen? ⟨w1.heap.size, 0, none⟩ = false ∧ w2.frozen? ⟨w1.heap.size, 1, none⟩ = false ∧ w2.frozen? ⟨w1.heap.size, 2, none⟩ = false ∧ w2.frozen? ⟨w1.heap.size, 3, none⟩ = false ∧ w2.frozen? ⟨w1.heap.size, 4, none⟩ = false ∧ w1.heap.size < w2.heap.size := by
  obtain ⟨qc, qf, ql⟩ := box_drew hbl
  exact ⟨Below.trans (((Below.refl _ _).alloc (Nat.le_refl _) _).drew) (hbl.mono (by show w1.heap.size ≤ (w1.alloc _).heap.size; simp)), qc 0 _ rfl, qc 1 _ rfl, qc 2 _ rfl, qc 3 _ rfl, qc 4 _ rfl, qf 0, qf 1, qf 2, qf 3, qf 4, ql⟩
theorem below_5 {B N : Nat} {w W : World} (h : Below B w W) (hN : B ≤ N) (v0 v1 v2 v3 v4 : Value) : Below B w (((((W.setCell ⟨N, 0, none⟩ v0).setCell ⟨N, 1, none⟩ v1).setCell ⟨N, 2, none⟩ v2).setCell ⟨N, 3, none⟩ v3).setCell ⟨N, 4, none⟩ v4) :=
  ((((h.setCell hN _).setCell hN _).setCell hN _).setCell hN _).setCell hN _
set_option maxRecDepth 100000 in
set_option maxHeartbeats 3000000 in
theorem put_none_i (T B b0 m g cap : Nat) (yo yd ya yb yi xo xd xa xb xi : Int) (r : List Q5) (w : World) (hm : m = r.length) (hm2 : m ≤ 20000) (hT : T < w.heap.size) (hb0 : b0 ≤ T) (hbB : b0 ≤ B) (hB : B ≤ w.heap.size) (hg : g < w.heap.size) (hgT : g ≠ T) (hc1 : m + 1 ≤ cap) (hcap : cap ≤ 9223372036854775807)
    (cT : w.cell? ⟨T, 0, none⟩ = some (.slice (some ⟨g, 0, none⟩) (m + 1) cap)) (fT : w.frozen? ⟨T, 0, none⟩ = false) (own : w.ownsRow B 46 5 (.slice (some ⟨g, 0, none⟩) (m + 1) cap) (m + 1) (flat r.reverse ++ Q5.cells ⟨yo, yd, ya, yb, yi⟩))
    (hst : TdSt T B w (⟨yo, yd, ya, yb, yi⟩ :: r)) (hBg : B ≤ g) (hj : joinP ⟨yo, yd, ya, yb, yi⟩ ⟨xo, xd, xa, xb, xi⟩ = none) (hi : idleS ⟨xo, xd, xa, xb, xi⟩ = true) :
    Calls Try.prog 16 #[.pointer (some ⟨T, 0, none⟩), .agg #[.int .i64 xo, .int .i64 xd, .int .i64 xa, .int .i64 xb, .int .i32 xi]] w (TdPost T B b0 w (⟨yo, yd, ya, yb, yi⟩ :: r)) := by
  have hfl : (flat r.reverse).length = m * 5 := by rw [flat_len, List.length_reverse, hm]
  have hget : ∀ j, j < 5 → (flat r.reverse ++ Q5.cells ⟨yo, yd, ya, yb, yi⟩)[m * 5 + j]? = (Q5.cells ⟨yo, yd, ya, yb, yi⟩)[j]? := fun j hj => by
    rw [List.getElem?_append_right (by omega), hfl, show m * 5 + j - m * 5 = j by omega]
  have c0 : w.cell? ⟨g, m * 5, none⟩ = some (.int .i64 yo) := (own.cellAt (m * 5) (by omega)).trans (hget 0 (by omega))
  have c1 : w.cell? ⟨g, m * 5 + 1, none⟩ = some (.int .i64 yd) := (own.cellAt (m * 5 + 1) (by omega)).trans (hget 1 (by omega))
  have c2 : w.cell? ⟨g, m * 5 + 2, none⟩ = some (.int .i64 ya) := (own.cellAt (m * 5 + 2) (by omega)).trans (hget 2 (by omega))
  have c3 : w.cell? ⟨g, m * 5 + 3, none⟩ = some (.int .i64 yb) := (own.cellAt (m * 5 + 3) (by omega)).trans (hget 3 (by omega))
  have c4 : w.cell? ⟨g, m * 5 + 4, none⟩ = some (.int .i32 yi) := (own.cellAt (m * 5 + 4) (by omega)).trans (hget 4 (by omega))
  have OB := Lib.hid (own_back5 own hfl)
  have OW := Lib.hid own
  have J := Lib.hid (show ∀ W, Calls Try.prog 28 #[.agg #[.int .i64 yo, .int .i64 yd, .int .i64 ya, .int .i64 yb, .int .i32 yi], .agg #[.int .i64 xo, .int .i64 xd, .int .i64 xa, .int .i64 xb, .int .i32 xi]] W (fun e w' => e = .returned (.tuple #[.agg #[.int .i64 0, .int .i64 0, .int .i64 0, .int .i64 0, .int .i32 0], .bool false]) ∧ Below W.heap.size W w') from fun W => by
    have h := join_any yo yd ya yb yi xo xd xa xb xi W
    unfold JoinPost at h
    rw [hj] at h
    exact h)
  have tm0 : decide (0 ≤ (m : Int)) = true := by simp
  have IA := Lib.hid (idle_any xo xd xa xb xi)
  have IS := Lib.hid hi
  have HST := Lib.hid hst
  clear hj hi hst
  have HM := Lib.hid hm
  clear own hget hfl hm
  go_enter Try.func16, Try.ntmps16
  go_wp2_with fail
  obtain ⟨w1, hw1⟩ : ∃ w1, w1 = w.alloc (.cells #[.int .i64 xo, .int .i64 xd, .int .i64 xa, .int .i64 xb, .int .i32 xi] 46) := ⟨_, rfl⟩
  have hS : w1.cell? ⟨T, 0, none⟩ = some (.slice (some ⟨g, 0, none⟩) (m + 1) cap) ∧ w1.cell? ⟨g, m * 5, none⟩ = some (.int .i64 yo) ∧ w1.cell? ⟨g, m * 5 + 1, none⟩ = some (.int .i64 yd) ∧ w1.cell? ⟨g, m * 5 + 2, none⟩ = some (.int .i64 ya) ∧ w1.cell? ⟨g, m * 5 + 3, none⟩ = some (.int .i64 yb) ∧ w1.cell? ⟨g, m * 5 + 4, none⟩ = some (.int .i32 yi) ∧ w1.cell? ⟨w.heap.size, 0, none⟩ = some (.int .i64 xo) ∧ w1.cell? ⟨w.heap.size, 1, none⟩ = some (.int .i64 xd) ∧ w1.cell? ⟨w.heap.size, 2, none⟩ = some (.int .i64 xa) ∧ w1.cell? ⟨w.heap.size, 3, none⟩ = some (.int .i64 xb) ∧ w1.cell? ⟨w.heap.size, 4, none⟩ = some (.int .i32 xi) ∧ w.heap.size < w1.heap.size ∧ Below w.heap.size w w1 := by
    subst hw1
    exact ⟨(World.cell?_alloc_past _ _ _ hT).trans cT, (World.cell?_alloc_past _ _ _ hg).trans c0, (World.cell?_alloc_past _ _ _ hg).trans c1, (World.cell?_alloc_past _ _ _ hg).trans c2, (World.cell?_alloc_past _ _ _ hg).trans c3, (World.cell?_alloc_past _ _ _ hg).trans c4, by simp, by simp, by simp, by simp, by simp, by simp, (Below.refl _ _).alloc (Nat.le_refl _) _⟩
  rw [← hw1]
  clear hw1
  obtain ⟨k0, k1, k2, k3, k4, k5, k6, k7, k8, k9, k10, hz, hB1⟩ := id hS
  have HB := Lib.hid hB1
  clear hB1 c0 c1 c2 c3 c4 hS
  have hT1 : T < w1.heap.size := by omega
  have hg1 : g < w1.heap.size := by omega
  have hf1 : w1.frozen? ⟨T, 0, none⟩ = false := (HB.out.frozen (p := ⟨T, 0, none⟩) (by show T < w.heap.size; omega)).trans fT
  clear cT fT
  have PS : ∀ w', Below w1.heap.size w1 w' → w'.cell? ⟨T, 0, none⟩ = some (.slice (some ⟨g, 0, none⟩) (m + 1) cap) ∧ w'.cell? ⟨g, m * 5, none⟩ = some (.int .i64 yo) ∧ w'.cell? ⟨g, m * 5 + 1, none⟩ = some (.int .i64 yd) ∧ w'.cell? ⟨g, m * 5 + 2, none⟩ = some (.int .i64 ya) ∧ w'.cell? ⟨g, m * 5 + 3, none⟩ = some (.int .i64 yb) ∧ w'.cell? ⟨g, m * 5 + 4, none⟩ = some (.int .i32 yi) ∧ w'.cell? ⟨w.heap.size, 0, none⟩ = some (.int .i64 xo) ∧ w'.cell? ⟨w.heap.size, 1, none⟩ = some (.int .i64 xd) ∧ w'.cell? ⟨w.heap.size, 2, none⟩ = some (.int .i64 xa) ∧ w'.cell? ⟨w.heap.size, 3, none⟩ = some (.int .i64 xb) ∧ w'.cell? ⟨w.heap.size, 4, none⟩ = some (.int .i32 xi) ∧ Below w1.heap.size w1 w' := fun w' hb => ⟨(hb.cell (p := ⟨T, 0, none⟩) hT1).trans k0, (hb.cell (p := ⟨g, m * 5, none⟩) hg1).trans k1, (hb.cell (p := ⟨g, m * 5 + 1, none⟩) hg1).trans k2, (hb.cell (p := ⟨g, m * 5 + 2, none⟩) hg1).trans k3, (hb.cell (p := ⟨g, m * 5 + 3, none⟩) hg1).trans k4, (hb.cell (p := ⟨g, m * 5 + 4, none⟩) hg1).trans k5, (hb.cell (p := ⟨w.heap.size, 0, none⟩) hz).trans k6, (hb.cell (p := ⟨w.heap.size, 1, none⟩) hz).trans k7, (hb.cell (p := ⟨w.heap.size, 2, none⟩) hz).trans k8, (hb.cell (p := ⟨w.heap.size, 3, none⟩) hz).trans k9, (hb.cell (p := ⟨w.heap.size, 4, none⟩) hz).trans k10, hb⟩
  have PS := Lib.hid PS
  have ib0 : (0 : Int) ≤ (m : Int) := by omega
  have ib1 : (m : Int) < (m : Int) + 1 := by omega
  have ib2 : m < m + 1 := by omega
  have ib3 : ∀ W : World, Below w1.heap.size w1 W → w1.heap.size ≤ W.heap.size := fun W h => h.size
  have IB3 := Lib.hid ib3
  clear ib3
  go_region_held3 (fun w' => w'.cell? ⟨T, 0, none⟩ = some (.slice (some ⟨g, 0, none⟩) (m + 1) cap) ∧ w'.cell? ⟨g, m * 5, none⟩ = some (.int .i64 yo) ∧ w'.cell? ⟨g, m * 5 + 1, none⟩ = some (.int .i64 yd) ∧ w'.cell? ⟨g, m * 5 + 2, none⟩ = some (.int .i64 ya) ∧ w'.cell? ⟨g, m * 5 + 3, none⟩ = some (.int .i64 yb) ∧ w'.cell? ⟨g, m * 5 + 4, none⟩ = some (.int .i32 yi) ∧ w'.cell? ⟨w.heap.size, 0, none⟩ = some (.int .i64 xo) ∧ w'.cell? ⟨w.heap.size, 1, none⟩ = some (.int .i64 xd) ∧ w'.cell? ⟨w.heap.size, 2, none⟩ = some (.int .i64 xa) ∧ w'.cell? ⟨w.heap.size, 3, none⟩ = some (.int .i64 xb) ∧ w'.cell? ⟨w.heap.size, 4, none⟩ = some (.int .i32 xi) ∧ Below w1.heap.size w1 w')
    (first
    | (with_reducible assumption)
    | (refine PS.out _ ?_; first
      | (with_reducible exact Below.refl _ _)
      | (with_reducible exact (Below.refl _ _).drew)
      | (with_reducible exact ((Below.refl _ _).alloc (Nat.le_refl _) _).drew)
      | (with_reducible exact (Below.refl _ _).alloc (Nat.le_refl _) _)
      | (with_reducible exact hB2)
      | (with_reducible exact hB2.drew)
      | (with_reducible exact hB2.alloc hB2.size _)
      | (with_reducible exact (hB2.alloc hB2.size _).drew)
      | (with_reducible exact below_5 hB2 (Nat.le_refl _) _ _ _ _ _)
      | (with_reducible exact below_5 (hB2.alloc hB2.size _) hB2.size _ _ _ _ _)
      | (trace_state; fail)))
    (first
    | (go_at_call 28; with_reducible refine (J.out _).mono ?_; rintro e w2 ⟨rfl, hbl⟩; first
      | (have hh := arm_alloc hbl; obtain ⟨hB2, q0, q1, q2, q3, q4, f0, f1, f2, f3, f4, ql⟩ := hh)
      | (have hB2 : Below w1.heap.size w1 w2 := Below.trans (Below.refl _ _).drew (hbl.mono (Nat.le_refl _)))
      | (have hB2 : Below w1.heap.size w1 w2 := hbl)))
  · have hWb : Below w1.heap.size w1 (w2.alloc (.cells #[.int .i64 0, .int .i64 0, .int .i64 0, .int .i64 0, .int .i32 0] 46)) := hB2.alloc hB2.size (.cells #[.int .i64 0, .int .i64 0, .int .i64 0, .int .i64 0, .int .i32 0] 46)
    generalize hW3 : w2.alloc (.cells #[.int .i64 0, .int .i64 0, .int .i64 0, .int .i64 0, .int .i32 0] 46) = w3 at *
    clear hW3
    clear hB2
    obtain ⟨p0, p1, p2, p3, p4, p5, p6, p7, p8, p9, p10, _⟩ := PS.out w3 hWb
    have fT3 := (hWb.frozen (p := ⟨T, 0, none⟩) hT1).trans hf1
    have HW3 := Lib.hid (HB.out.trans (hWb.mono (Nat.le_of_lt hz)))
    have hs3 := hWb.size
    have hz3 : w.heap.size < w3.heap.size := by omega
    clear hWb p1 p2 p3 p4 p5
    
    go_wp2_with fail
    refine (IA.out _).mono ?_
    rw [IS.out]
    rintro e w4 ⟨rfl, hb4⟩
    have HB4 := Lib.hid (HW3.out.trans (hb4.mono HW3.out.size))
    clear hb4
    go_wp2_with fail
    exact Go.Great.bodyPost_end0 (by rfl) (by rfl) ⟨rfl, HST.out.later HB4.out, HB4.out.mono (by omega)⟩
  · have hWb : Below w1.heap.size w1 (((((w2.setCell ⟨w1.heap.size, 0, none⟩ (.int .i64 0)).setCell ⟨w1.heap.size, 1, none⟩ (.int .i64 0)).setCell ⟨w1.heap.size, 2, none⟩ (.int .i64 0)).setCell ⟨w1.heap.size, 3, none⟩ (.int .i64 0)).setCell ⟨w1.heap.size, 4, none⟩ (.int .i32 0)) := below_5 hB2 (Nat.le_refl _) (.int .i64 0) (.int .i64 0) (.int .i64 0) (.int .i64 0) (.int .i32 0)
    generalize hW3 : ((((w2.setCell ⟨w1.heap.size, 0, none⟩ (.int .i64 0)).setCell ⟨w1.heap.size, 1, none⟩ (.int .i64 0)).setCell ⟨w1.heap.size, 2, none⟩ (.int .i64 0)).setCell ⟨w1.heap.size, 3, none⟩ (.int .i64 0)).setCell ⟨w1.heap.size, 4, none⟩ (.int .i32 0) = w3 at *
    clear hW3
    clear hB2
    obtain ⟨p0, p1, p2, p3, p4, p5, p6, p7, p8, p9, p10, _⟩ := PS.out w3 hWb
    have fT3 := (hWb.frozen (p := ⟨T, 0, none⟩) hT1).trans hf1
    have HW3 := Lib.hid (HB.out.trans (hWb.mono (Nat.le_of_lt hz)))
    have hs3 := hWb.size
    have hz3 : w.heap.size < w3.heap.size := by omega
    clear hWb p1 p2 p3 p4 p5
    
    go_wp2_with fail
    refine (IA.out _).mono ?_
    rw [IS.out]
    rintro e w4 ⟨rfl, hb4⟩
    have HB4 := Lib.hid (HW3.out.trans (hb4.mono HW3.out.size))
    clear hb4
    go_wp2_with fail
    exact Go.Great.bodyPost_end0 (by rfl) (by rfl) ⟨rfl, HST.out.later HB4.out, HB4.out.mono (by omega)⟩
theorem put_fin {T B b0 m : Nat} {r : List Q5} {y x : Q5} {w w' : World} {e : Ending} (hm : m = r.length) (hb0 : b0 ≤ T) (hT : T < w'.heap.size) (hB : B ≤ w'.heap.size) (h : PutPost T B b0 (m + 1) (flat r.reverse ++ y.cells) x w e w') : TdPost T B b0 w (x :: y :: r) e w' := by
  obtain ⟨he, g, cap, c, f, o, hg, hb⟩ := h
  refine ⟨he, ⟨some ⟨g, 0, none⟩, cap, ?_, f, ?_, by simp [Value.ownBlock]; exact hg, hT, hB⟩, hb⟩
  · rw [c]; simp only [List.length_cons, hm]
  · have e1 : flat (x :: y :: r).reverse = flat r.reverse ++ y.cells ++ x.cells := by simp [flat]
    rw [e1]
    simp only [List.length_cons, ← hm]
    exact o
set_option maxRecDepth 100000 in
set_option maxHeartbeats 3000000 in
theorem put_none_a (T B b0 m g cap : Nat) (yo yd ya yb yi xo xd xa xb xi : Int) (r : List Q5) (w : World) (hm : m = r.length) (hm2 : m ≤ 20000) (hT : T < w.heap.size) (hb0 : b0 ≤ T) (hbB : b0 ≤ B) (hB : B ≤ w.heap.size) (hg : g < w.heap.size) (hgT : g ≠ T) (hc1 : m + 1 ≤ cap) (hcap : cap ≤ 9223372036854775807)
    (cT : w.cell? ⟨T, 0, none⟩ = some (.slice (some ⟨g, 0, none⟩) (m + 1) cap)) (fT : w.frozen? ⟨T, 0, none⟩ = false) (own : w.ownsRow B 46 5 (.slice (some ⟨g, 0, none⟩) (m + 1) cap) (m + 1) (flat r.reverse ++ Q5.cells ⟨yo, yd, ya, yb, yi⟩))
    (hst : TdSt T B w (⟨yo, yd, ya, yb, yi⟩ :: r)) (hBg : B ≤ g) (hj : joinP ⟨yo, yd, ya, yb, yi⟩ ⟨xo, xd, xa, xb, xi⟩ = none) (hi : idleS ⟨xo, xd, xa, xb, xi⟩ = false) :
    Calls Try.prog 16 #[.pointer (some ⟨T, 0, none⟩), .agg #[.int .i64 xo, .int .i64 xd, .int .i64 xa, .int .i64 xb, .int .i32 xi]] w (TdPost T B b0 w (⟨xo, xd, xa, xb, xi⟩ :: ⟨yo, yd, ya, yb, yi⟩ :: r)) := by
  have hfl : (flat r.reverse).length = m * 5 := by rw [flat_len, List.length_reverse, hm]
  have hget : ∀ j, j < 5 → (flat r.reverse ++ Q5.cells ⟨yo, yd, ya, yb, yi⟩)[m * 5 + j]? = (Q5.cells ⟨yo, yd, ya, yb, yi⟩)[j]? := fun j hj => by
    rw [List.getElem?_append_right (by omega), hfl, show m * 5 + j - m * 5 = j by omega]
  have c0 : w.cell? ⟨g, m * 5, none⟩ = some (.int .i64 yo) := (own.cellAt (m * 5) (by omega)).trans (hget 0 (by omega))
  have c1 : w.cell? ⟨g, m * 5 + 1, none⟩ = some (.int .i64 yd) := (own.cellAt (m * 5 + 1) (by omega)).trans (hget 1 (by omega))
  have c2 : w.cell? ⟨g, m * 5 + 2, none⟩ = some (.int .i64 ya) := (own.cellAt (m * 5 + 2) (by omega)).trans (hget 2 (by omega))
  have c3 : w.cell? ⟨g, m * 5 + 3, none⟩ = some (.int .i64 yb) := (own.cellAt (m * 5 + 3) (by omega)).trans (hget 3 (by omega))
  have c4 : w.cell? ⟨g, m * 5 + 4, none⟩ = some (.int .i32 yi) := (own.cellAt (m * 5 + 4) (by omega)).trans (hget 4 (by omega))
  have OB := Lib.hid (own_back5 own hfl)
  have OW := Lib.hid own
  have J := Lib.hid (show ∀ W, Calls Try.prog 28 #[.agg #[.int .i64 yo, .int .i64 yd, .int .i64 ya, .int .i64 yb, .int .i32 yi], .agg #[.int .i64 xo, .int .i64 xd, .int .i64 xa, .int .i64 xb, .int .i32 xi]] W (fun e w' => e = .returned (.tuple #[.agg #[.int .i64 0, .int .i64 0, .int .i64 0, .int .i64 0, .int .i32 0], .bool false]) ∧ Below W.heap.size W w') from fun W => by
    have h := join_any yo yd ya yb yi xo xd xa xb xi W
    unfold JoinPost at h
    rw [hj] at h
    exact h)
  have tm0 : decide (0 ≤ (m : Int)) = true := by simp
  have IA := Lib.hid (idle_any xo xd xa xb xi)
  have IS := Lib.hid hi
  have hm3 := Lib.hid hm
  obtain ⟨i0, hi0, hz0, hz1, hz2⟩ := info_parts info_lopP
  have NOB := Lib.hid (show some T ≠ (Value.slice (some ⟨g, 0, none⟩) (m + 1) cap).ownBlock by simp [Value.ownBlock]; omega)
  have MX := Lib.hid (show m + 1 + 1 ≤ maxLen by unfold maxLen; omega)
  have MXB := Lib.hid (show (m + 1 + 1) * 40 ≤ 140737488355328 by omega)
  clear hj hi hst
  have HM := Lib.hid hm
  clear own hget hfl hm
  go_enter Try.func16, Try.ntmps16
  go_wp2_with fail
  obtain ⟨w1, hw1⟩ : ∃ w1, w1 = w.alloc (.cells #[.int .i64 xo, .int .i64 xd, .int .i64 xa, .int .i64 xb, .int .i32 xi] 46) := ⟨_, rfl⟩
  have hS : w1.cell? ⟨T, 0, none⟩ = some (.slice (some ⟨g, 0, none⟩) (m + 1) cap) ∧ w1.cell? ⟨g, m * 5, none⟩ = some (.int .i64 yo) ∧ w1.cell? ⟨g, m * 5 + 1, none⟩ = some (.int .i64 yd) ∧ w1.cell? ⟨g, m * 5 + 2, none⟩ = some (.int .i64 ya) ∧ w1.cell? ⟨g, m * 5 + 3, none⟩ = some (.int .i64 yb) ∧ w1.cell? ⟨g, m * 5 + 4, none⟩ = some (.int .i32 yi) ∧ w1.cell? ⟨w.heap.size, 0, none⟩ = some (.int .i64 xo) ∧ w1.cell? ⟨w.heap.size, 1, none⟩ = some (.int .i64 xd) ∧ w1.cell? ⟨w.heap.size, 2, none⟩ = some (.int .i64 xa) ∧ w1.cell? ⟨w.heap.size, 3, none⟩ = some (.int .i64 xb) ∧ w1.cell? ⟨w.heap.size, 4, none⟩ = some (.int .i32 xi) ∧ w.heap.size < w1.heap.size ∧ Below w.heap.size w w1 := by
    subst hw1
    exact ⟨(World.cell?_alloc_past _ _ _ hT).trans cT, (World.cell?_alloc_past _ _ _ hg).trans c0, (World.cell?_alloc_past _ _ _ hg).trans c1, (World.cell?_alloc_past _ _ _ hg).trans c2, (World.cell?_alloc_past _ _ _ hg).trans c3, (World.cell?_alloc_past _ _ _ hg).trans c4, by simp, by simp, by simp, by simp, by simp, by simp, (Below.refl _ _).alloc (Nat.le_refl _) _⟩
  rw [← hw1]
  clear hw1
  obtain ⟨k0, k1, k2, k3, k4, k5, k6, k7, k8, k9, k10, hz, hB1⟩ := id hS
  have HB := Lib.hid hB1
  clear hB1 c0 c1 c2 c3 c4 hS
  have hT1 : T < w1.heap.size := by omega
  have hg1 : g < w1.heap.size := by omega
  have hf1 : w1.frozen? ⟨T, 0, none⟩ = false := (HB.out.frozen (p := ⟨T, 0, none⟩) (by show T < w.heap.size; omega)).trans fT
  clear cT fT
  have PS : ∀ w', Below w1.heap.size w1 w' → w'.cell? ⟨T, 0, none⟩ = some (.slice (some ⟨g, 0, none⟩) (m + 1) cap) ∧ w'.cell? ⟨g, m * 5, none⟩ = some (.int .i64 yo) ∧ w'.cell? ⟨g, m * 5 + 1, none⟩ = some (.int .i64 yd) ∧ w'.cell? ⟨g, m * 5 + 2, none⟩ = some (.int .i64 ya) ∧ w'.cell? ⟨g, m * 5 + 3, none⟩ = some (.int .i64 yb) ∧ w'.cell? ⟨g, m * 5 + 4, none⟩ = some (.int .i32 yi) ∧ w'.cell? ⟨w.heap.size, 0, none⟩ = some (.int .i64 xo) ∧ w'.cell? ⟨w.heap.size, 1, none⟩ = some (.int .i64 xd) ∧ w'.cell? ⟨w.heap.size, 2, none⟩ = some (.int .i64 xa) ∧ w'.cell? ⟨w.heap.size, 3, none⟩ = some (.int .i64 xb) ∧ w'.cell? ⟨w.heap.size, 4, none⟩ = some (.int .i32 xi) ∧ Below w1.heap.size w1 w' := fun w' hb => ⟨(hb.cell (p := ⟨T, 0, none⟩) hT1).trans k0, (hb.cell (p := ⟨g, m * 5, none⟩) hg1).trans k1, (hb.cell (p := ⟨g, m * 5 + 1, none⟩) hg1).trans k2, (hb.cell (p := ⟨g, m * 5 + 2, none⟩) hg1).trans k3, (hb.cell (p := ⟨g, m * 5 + 3, none⟩) hg1).trans k4, (hb.cell (p := ⟨g, m * 5 + 4, none⟩) hg1).trans k5, (hb.cell (p := ⟨w.heap.size, 0, none⟩) hz).trans k6, (hb.cell (p := ⟨w.heap.size, 1, none⟩) hz).trans k7, (hb.cell (p := ⟨w.heap.size, 2, none⟩) hz).trans k8, (hb.cell (p := ⟨w.heap.size, 3, none⟩) hz).trans k9, (hb.cell (p := ⟨w.heap.size, 4, none⟩) hz).trans k10, hb⟩
  have PS := Lib.hid PS
  have ib0 : (0 : Int) ≤ (m : Int) := by omega
  have ib1 : (m : Int) < (m : Int) + 1 := by omega
  have ib2 : m < m + 1 := by omega
  have ib3 : ∀ W : World, Below w1.heap.size w1 W → w1.heap.size ≤ W.heap.size := fun W h => h.size
  have IB3 := Lib.hid ib3
  clear ib3
  go_region_held3 (fun w' => w'.cell? ⟨T, 0, none⟩ = some (.slice (some ⟨g, 0, none⟩) (m + 1) cap) ∧ w'.cell? ⟨g, m * 5, none⟩ = some (.int .i64 yo) ∧ w'.cell? ⟨g, m * 5 + 1, none⟩ = some (.int .i64 yd) ∧ w'.cell? ⟨g, m * 5 + 2, none⟩ = some (.int .i64 ya) ∧ w'.cell? ⟨g, m * 5 + 3, none⟩ = some (.int .i64 yb) ∧ w'.cell? ⟨g, m * 5 + 4, none⟩ = some (.int .i32 yi) ∧ w'.cell? ⟨w.heap.size, 0, none⟩ = some (.int .i64 xo) ∧ w'.cell? ⟨w.heap.size, 1, none⟩ = some (.int .i64 xd) ∧ w'.cell? ⟨w.heap.size, 2, none⟩ = some (.int .i64 xa) ∧ w'.cell? ⟨w.heap.size, 3, none⟩ = some (.int .i64 xb) ∧ w'.cell? ⟨w.heap.size, 4, none⟩ = some (.int .i32 xi) ∧ Below w1.heap.size w1 w')
    (first
    | (with_reducible assumption)
    | (refine PS.out _ ?_; first
      | (with_reducible exact Below.refl _ _)
      | (with_reducible exact (Below.refl _ _).drew)
      | (with_reducible exact ((Below.refl _ _).alloc (Nat.le_refl _) _).drew)
      | (with_reducible exact (Below.refl _ _).alloc (Nat.le_refl _) _)
      | (with_reducible exact hB2)
      | (with_reducible exact hB2.drew)
      | (with_reducible exact hB2.alloc hB2.size _)
      | (with_reducible exact (hB2.alloc hB2.size _).drew)
      | (with_reducible exact below_5 hB2 (Nat.le_refl _) _ _ _ _ _)
      | (with_reducible exact below_5 (hB2.alloc hB2.size _) hB2.size _ _ _ _ _)
      | (trace_state; fail)))
    (first
    | (go_at_call 28; with_reducible refine (J.out _).mono ?_; rintro e w2 ⟨rfl, hbl⟩; first
      | (have hh := arm_alloc hbl; obtain ⟨hB2, q0, q1, q2, q3, q4, f0, f1, f2, f3, f4, ql⟩ := hh)
      | (have hB2 : Below w1.heap.size w1 w2 := Below.trans (Below.refl _ _).drew (hbl.mono (Nat.le_refl _)))
      | (have hB2 : Below w1.heap.size w1 w2 := hbl)))
  · have hWb : Below w1.heap.size w1 (w2.alloc (.cells #[.int .i64 0, .int .i64 0, .int .i64 0, .int .i64 0, .int .i32 0] 46)) := hB2.alloc hB2.size (.cells #[.int .i64 0, .int .i64 0, .int .i64 0, .int .i64 0, .int .i32 0] 46)
    generalize hW3 : w2.alloc (.cells #[.int .i64 0, .int .i64 0, .int .i64 0, .int .i64 0, .int .i32 0] 46) = w3 at *
    clear hW3
    clear hB2
    obtain ⟨p0, p1, p2, p3, p4, p5, p6, p7, p8, p9, p10, _⟩ := PS.out w3 hWb
    have fT3 := (hWb.frozen (p := ⟨T, 0, none⟩) hT1).trans hf1
    have HW3 := Lib.hid (HB.out.trans (hWb.mono (Nat.le_of_lt hz)))
    have hs3 := hWb.size
    have hz3 : w.heap.size < w3.heap.size := by omega
    clear hWb p1 p2 p3 p4 p5
    
    go_wp2_with fail
    refine (IA.out _).mono ?_
    rw [IS.out]
    rintro e w4 ⟨rfl, hb4⟩
    have HB4 := Lib.hid (HW3.out.trans (hb4.mono HW3.out.size))
    have hs4 := hb4.size
    have z0 := (hb4.cell (p := ⟨T, 0, none⟩) (by show T < _; omega)).trans p0
    have zf := (hb4.frozen (p := ⟨T, 0, none⟩) (by show T < _; omega)).trans fT3
    have z1 := (hb4.cell (p := ⟨w.heap.size, 0, none⟩) hz3).trans p6
    have z2 := (hb4.cell (p := ⟨w.heap.size, 1, none⟩) hz3).trans p7
    have z3 := (hb4.cell (p := ⟨w.heap.size, 2, none⟩) hz3).trans p8
    have z4 := (hb4.cell (p := ⟨w.heap.size, 3, none⟩) hz3).trans p9
    have z5 := (hb4.cell (p := ⟨w.heap.size, 4, none⟩) hz3).trans p10
    have O4 := Lib.hid (own_later OW.out HB4.out)
    have hB4 : B ≤ w4.heap.size := by omega
    have hT4 : T < w4.heap.size := by omega
    have hT5 : T ≤ w4.heap.size := by omega
    have hz4 : w.heap.size ≤ w4.heap.size := by omega
    have hz5 : w.heap.size < w4.heap.size := by omega
    clear hb4 p0 p6 p7 p8 p9 p10 fT3 hs3 hs4 hz3
    go_wp2_with fail
    go_region_law ((first | (refine step_append_lies _ (by rfl) _ _ _ (by rfl) B 46 i0 _ 5 40 Try.underlying22 hi0 hz0 hz1 hz2 rfl (by omega) (.slice (some ⟨g, 0, none⟩) (m + 1) cap) (m + 1) (flat r.reverse ++ Q5.cells ⟨yo, yd, ya, yb, yi⟩) (by rfl) ((O4.out.alloc _).drew) ⟨w4.heap.size, 0, none⟩ 1 1 (Q5.cells ⟨xo, xd, xa, xb, xi⟩) (by rfl) (by rfl) (World.news_of_block (cs := Q5.arr ⟨xo, xd, xa, xb, xi⟩) (t := 46) (fr := (0, 0)) (heap_alloc_new w4 _)) (by simp [Q5.cells, Value.oneCell']) (by omega) MX.out MXB.out (by simp; omega) (w4.heap.size + 1) (by simp) ?_; intro gg cap2 w5 hown hgrow hat hlt; have t0 := hgrow.cell ((World.cell?_alloc_past _ _ _ (by omega)).trans z0) NOB.out; have t1 := (World.frozen?_of_block (hgrow.block T (by simp; omega) NOB.out)).trans ((((Below.refl w4.heap.size w4).alloc (Nat.le_refl _) _).frozen (p := ⟨T, 0, none⟩) (by show T < _; omega)).trans zf)) | (refine step_append_lies _ (by rfl) _ _ _ (by rfl) B 46 i0 _ 5 40 Try.underlying22 hi0 hz0 hz1 hz2 rfl (by omega) (.slice (some ⟨g, 0, none⟩) (m + 1) cap) (m + 1) (flat r.reverse ++ Q5.cells ⟨yo, yd, ya, yb, yi⟩) (by rfl) (O4.out.alloc _) ⟨w4.heap.size, 0, none⟩ 1 1 (Q5.cells ⟨xo, xd, xa, xb, xi⟩) (by rfl) (by rfl) (World.news_of_block (cs := Q5.arr ⟨xo, xd, xa, xb, xi⟩) (t := 46) (fr := (0, 0)) (heap_alloc_new w4 _)) (by simp [Q5.cells, Value.oneCell']) (by omega) MX.out MXB.out (by simp; omega) (w4.heap.size + 1) (by simp) ?_; intro gg cap2 w5 hown hgrow hat hlt; have t0 := hgrow.cell ((World.cell?_alloc_past _ _ _ (by omega)).trans z0) NOB.out; have t1 := (World.frozen?_of_block (hgrow.block T (by simp; omega) NOB.out)).trans ((((Below.refl w4.heap.size w4).alloc (Nat.le_refl _) _).frozen (p := ⟨T, 0, none⟩) (by show T < _; omega)).trans zf))))
    all_goals
      refine Go.Great.bodyPost_end0 (by rfl) (by rfl) ?_
      have PD := put_done (b0 := b0) (w := w) (x := ⟨xo, xd, xa, xb, xi⟩) (rv := .slice (some ⟨g, 0, none⟩) (m + 1) cap) (N := w4.heap.size + 1) hb0 hbB (by first | (simp; omega) | omega) (by first | exact ((HB4.out.mono (by omega)).alloc (by omega) _).drew | exact (HB4.out.mono (by omega)).alloc (by omega) _) hown hgrow (fun k hk => by cases hk; exact hBg) hat (Ne.symm NOB.out) (by omega) t0 t1
      exact put_fin hm3.out hb0 (by have := hgrow.size; simp at this ⊢; omega) (by have := hgrow.size; simp at this ⊢; omega) PD
  · have hWb : Below w1.heap.size w1 (((((w2.setCell ⟨w1.heap.size, 0, none⟩ (.int .i64 0)).setCell ⟨w1.heap.size, 1, none⟩ (.int .i64 0)).setCell ⟨w1.heap.size, 2, none⟩ (.int .i64 0)).setCell ⟨w1.heap.size, 3, none⟩ (.int .i64 0)).setCell ⟨w1.heap.size, 4, none⟩ (.int .i32 0)) := below_5 hB2 (Nat.le_refl _) (.int .i64 0) (.int .i64 0) (.int .i64 0) (.int .i64 0) (.int .i32 0)
    generalize hW3 : ((((w2.setCell ⟨w1.heap.size, 0, none⟩ (.int .i64 0)).setCell ⟨w1.heap.size, 1, none⟩ (.int .i64 0)).setCell ⟨w1.heap.size, 2, none⟩ (.int .i64 0)).setCell ⟨w1.heap.size, 3, none⟩ (.int .i64 0)).setCell ⟨w1.heap.size, 4, none⟩ (.int .i32 0) = w3 at *
    clear hW3
    clear hB2
    obtain ⟨p0, p1, p2, p3, p4, p5, p6, p7, p8, p9, p10, _⟩ := PS.out w3 hWb
    have fT3 := (hWb.frozen (p := ⟨T, 0, none⟩) hT1).trans hf1
    have HW3 := Lib.hid (HB.out.trans (hWb.mono (Nat.le_of_lt hz)))
    have hs3 := hWb.size
    have hz3 : w.heap.size < w3.heap.size := by omega
    clear hWb p1 p2 p3 p4 p5
    
    go_wp2_with fail
    refine (IA.out _).mono ?_
    rw [IS.out]
    rintro e w4 ⟨rfl, hb4⟩
    have HB4 := Lib.hid (HW3.out.trans (hb4.mono HW3.out.size))
    have hs4 := hb4.size
    have z0 := (hb4.cell (p := ⟨T, 0, none⟩) (by show T < _; omega)).trans p0
    have zf := (hb4.frozen (p := ⟨T, 0, none⟩) (by show T < _; omega)).trans fT3
    have z1 := (hb4.cell (p := ⟨w.heap.size, 0, none⟩) hz3).trans p6
    have z2 := (hb4.cell (p := ⟨w.heap.size, 1, none⟩) hz3).trans p7
    have z3 := (hb4.cell (p := ⟨w.heap.size, 2, none⟩) hz3).trans p8
    have z4 := (hb4.cell (p := ⟨w.heap.size, 3, none⟩) hz3).trans p9
    have z5 := (hb4.cell (p := ⟨w.heap.size, 4, none⟩) hz3).trans p10
    have O4 := Lib.hid (own_later OW.out HB4.out)
    have hB4 : B ≤ w4.heap.size := by omega
    have hT4 : T < w4.heap.size := by omega
    have hT5 : T ≤ w4.heap.size := by omega
    have hz4 : w.heap.size ≤ w4.heap.size := by omega
    have hz5 : w.heap.size < w4.heap.size := by omega
    clear hb4 p0 p6 p7 p8 p9 p10 fT3 hs3 hs4 hz3
    go_wp2_with fail
    go_region_law ((first | (refine step_append_lies _ (by rfl) _ _ _ (by rfl) B 46 i0 _ 5 40 Try.underlying22 hi0 hz0 hz1 hz2 rfl (by omega) (.slice (some ⟨g, 0, none⟩) (m + 1) cap) (m + 1) (flat r.reverse ++ Q5.cells ⟨yo, yd, ya, yb, yi⟩) (by rfl) ((O4.out.alloc _).drew) ⟨w4.heap.size, 0, none⟩ 1 1 (Q5.cells ⟨xo, xd, xa, xb, xi⟩) (by rfl) (by rfl) (World.news_of_block (cs := Q5.arr ⟨xo, xd, xa, xb, xi⟩) (t := 46) (fr := (0, 0)) (heap_alloc_new w4 _)) (by simp [Q5.cells, Value.oneCell']) (by omega) MX.out MXB.out (by simp; omega) (w4.heap.size + 1) (by simp) ?_; intro gg cap2 w5 hown hgrow hat hlt; have t0 := hgrow.cell ((World.cell?_alloc_past _ _ _ (by omega)).trans z0) NOB.out; have t1 := (World.frozen?_of_block (hgrow.block T (by simp; omega) NOB.out)).trans ((((Below.refl w4.heap.size w4).alloc (Nat.le_refl _) _).frozen (p := ⟨T, 0, none⟩) (by show T < _; omega)).trans zf)) | (refine step_append_lies _ (by rfl) _ _ _ (by rfl) B 46 i0 _ 5 40 Try.underlying22 hi0 hz0 hz1 hz2 rfl (by omega) (.slice (some ⟨g, 0, none⟩) (m + 1) cap) (m + 1) (flat r.reverse ++ Q5.cells ⟨yo, yd, ya, yb, yi⟩) (by rfl) (O4.out.alloc _) ⟨w4.heap.size, 0, none⟩ 1 1 (Q5.cells ⟨xo, xd, xa, xb, xi⟩) (by rfl) (by rfl) (World.news_of_block (cs := Q5.arr ⟨xo, xd, xa, xb, xi⟩) (t := 46) (fr := (0, 0)) (heap_alloc_new w4 _)) (by simp [Q5.cells, Value.oneCell']) (by omega) MX.out MXB.out (by simp; omega) (w4.heap.size + 1) (by simp) ?_; intro gg cap2 w5 hown hgrow hat hlt; have t0 := hgrow.cell ((World.cell?_alloc_past _ _ _ (by omega)).trans z0) NOB.out; have t1 := (World.frozen?_of_block (hgrow.block T (by simp; omega) NOB.out)).trans ((((Below.refl w4.heap.size w4).alloc (Nat.le_refl _) _).frozen (p := ⟨T, 0, none⟩) (by show T < _; omega)).trans zf))))
    all_goals
      refine Go.Great.bodyPost_end0 (by rfl) (by rfl) ?_
      have PD := put_done (b0 := b0) (w := w) (x := ⟨xo, xd, xa, xb, xi⟩) (rv := .slice (some ⟨g, 0, none⟩) (m + 1) cap) (N := w4.heap.size + 1) hb0 hbB (by first | (simp; omega) | omega) (by first | exact ((HB4.out.mono (by omega)).alloc (by omega) _).drew | exact (HB4.out.mono (by omega)).alloc (by omega) _) hown hgrow (fun k hk => by cases hk; exact hBg) hat (Ne.symm NOB.out) (by omega) t0 t1
      exact put_fin hm3.out hb0 (by have := hgrow.size; simp at this ⊢; omega) (by have := hgrow.size; simp at this ⊢; omega) PD
theorem set5_cells {w : World} {N : Nat} {a b c d e : Value} (q0 : w.cell? ⟨N, 0, none⟩ = some a) (q1 : w.cell? ⟨N, 1, none⟩ = some b) (q2 : w.cell? ⟨N, 2, none⟩ = some c) (q3 : w.cell? ⟨N, 3, none⟩ = some d) (q4 : w.cell? ⟨N, 4, none⟩ = some e) (v0 v1 v2 v3 v4 : Value) :
    let W := ((((w.setCell ⟨N, 0, none⟩ v0).setCell ⟨N, 1, none⟩ v1).setCell ⟨N, 2, none⟩ v2).setCell ⟨N, 3, none⟩ v3).setCell ⟨N, 4, none⟩ v4
    W.cell? ⟨N, 0, none⟩ = some v0 ∧ W.cell? ⟨N, 1, none⟩ = some v1 ∧ W.cell? ⟨N, 2, none⟩ = some v2 ∧ W.cell? ⟨N, 3, none⟩ = some v3 ∧ W.cell? ⟨N, 4, none⟩ = some v4 := by
  have o : ∀ (w : World) (i j : Nat) (v : Value), i ≠ j → (w.setCell ⟨N, i, none⟩ v).cell? ⟨N, j, none⟩ = w.cell? ⟨N, j, none⟩ := fun w i j v h => World.cell?_setCell_other _ _ _ _ (fun e => h (by injection e))
  have s : ∀ (w : World) (i : Nat) (v u : Value), w.cell? ⟨N, i, none⟩ = some u → (w.setCell ⟨N, i, none⟩ v).cell? ⟨N, i, none⟩ = some v := fun w i v u h => World.cell?_setCell_same _ _ _ h
  refine ⟨?_, ?_, ?_, ?_, ?_⟩
  · rw [o _ 4 0 _ (by omega), o _ 3 0 _ (by omega), o _ 2 0 _ (by omega), o _ 1 0 _ (by omega)]; exact s _ _ _ _ q0
  · rw [o _ 4 1 _ (by omega), o _ 3 1 _ (by omega), o _ 2 1 _ (by omega)]; exact s _ _ _ b (by rw [o _ 0 1 _ (by omega)]; exact q1)
  · rw [o _ 4 2 _ (by omega), o _ 3 2 _ (by omega)]; exact s _ _ _ c (by rw [o _ 1 2 _ (by omega), o _ 0 2 _ (by omega)]; exact q2)
  · rw [o _ 4 3 _ (by omega)]; exact s _ _ _ d (by rw [o _ 2 3 _ (by omega), o _ 1 3 _ (by omega), o _ 0 3 _ (by omega)]; exact q3)
  · exact s _ _ _ e (by rw [o _ 3 4 _ (by omega), o _ 2 4 _ (by omega), o _ 1 4 _ (by omega), o _ 0 4 _ (by omega)]; exact q4)
set_option maxRecDepth 100000 in
set_option maxHeartbeats 3000000 in
theorem put_some (T B b0 m g cap : Nat) (yo yd ya yb yi xo xd xa xb xi : Int) (r : List Q5) (w : World) (hm : m = r.length) (hm2 : m ≤ 20000) (hT : T < w.heap.size) (hb0 : b0 ≤ T) (hbB : b0 ≤ B) (hB : B ≤ w.heap.size) (hg : g < w.heap.size) (hgT : g ≠ T) (hc1 : m + 1 ≤ cap) (hcap : cap ≤ 9223372036854775807)
    (cT : w.cell? ⟨T, 0, none⟩ = some (.slice (some ⟨g, 0, none⟩) (m + 1) cap)) (fT : w.frozen? ⟨T, 0, none⟩ = false) (own : w.ownsRow B 46 5 (.slice (some ⟨g, 0, none⟩) (m + 1) cap) (m + 1) (flat r.reverse ++ Q5.cells ⟨yo, yd, ya, yb, yi⟩))
    (zo zd za zb zi : Int) (hBg : B ≤ g) (hj : joinP ⟨yo, yd, ya, yb, yi⟩ ⟨xo, xd, xa, xb, xi⟩ = some ⟨zo, zd, za, zb, zi⟩) (ih : ∀ (z : Q5) (W : World), TdSt T B W r → Calls Try.prog 16 #[.pointer (some ⟨T, 0, none⟩), .agg #[.int .i64 z.o, .int .i64 z.d, .int .i64 z.a, .int .i64 z.b, .int .i32 z.i]] W (TdPost T B b0 W (putR r z))) :
    Calls Try.prog 16 #[.pointer (some ⟨T, 0, none⟩), .agg #[.int .i64 xo, .int .i64 xd, .int .i64 xa, .int .i64 xb, .int .i32 xi]] w (TdPost T B b0 w (putR r ⟨zo, zd, za, zb, zi⟩)) := by
  have hfl : (flat r.reverse).length = m * 5 := by rw [flat_len, List.length_reverse, hm]
  have hget : ∀ j, j < 5 → (flat r.reverse ++ Q5.cells ⟨yo, yd, ya, yb, yi⟩)[m * 5 + j]? = (Q5.cells ⟨yo, yd, ya, yb, yi⟩)[j]? := fun j hj => by
    rw [List.getElem?_append_right (by omega), hfl, show m * 5 + j - m * 5 = j by omega]
  have c0 : w.cell? ⟨g, m * 5, none⟩ = some (.int .i64 yo) := (own.cellAt (m * 5) (by omega)).trans (hget 0 (by omega))
  have c1 : w.cell? ⟨g, m * 5 + 1, none⟩ = some (.int .i64 yd) := (own.cellAt (m * 5 + 1) (by omega)).trans (hget 1 (by omega))
  have c2 : w.cell? ⟨g, m * 5 + 2, none⟩ = some (.int .i64 ya) := (own.cellAt (m * 5 + 2) (by omega)).trans (hget 2 (by omega))
  have c3 : w.cell? ⟨g, m * 5 + 3, none⟩ = some (.int .i64 yb) := (own.cellAt (m * 5 + 3) (by omega)).trans (hget 3 (by omega))
  have c4 : w.cell? ⟨g, m * 5 + 4, none⟩ = some (.int .i32 yi) := (own.cellAt (m * 5 + 4) (by omega)).trans (hget 4 (by omega))
  have OB := Lib.hid (own_back5 own hfl)
  have OW := Lib.hid own
  have J := Lib.hid (show ∀ W, Calls Try.prog 28 #[.agg #[.int .i64 yo, .int .i64 yd, .int .i64 ya, .int .i64 yb, .int .i32 yi], .agg #[.int .i64 xo, .int .i64 xd, .int .i64 xa, .int .i64 xb, .int .i32 xi]] W (fun e w' => e = .returned (.tuple #[.agg #[.int .i64 zo, .int .i64 zd, .int .i64 za, .int .i64 zb, .int .i32 zi], .bool true]) ∧ Below W.heap.size W w') from fun W => by
    have h := join_any yo yd ya yb yi xo xd xa xb xi W
    unfold JoinPost at h
    rw [hj] at h
    exact h)
  have tm0 : decide (0 ≤ (m : Int)) = true := by simp
  have IH := Lib.hid ih
  have hm3 := Lib.hid hm
  clear hj ih
  have HM := Lib.hid hm
  clear own hget hfl hm
  go_enter Try.func16, Try.ntmps16
  go_wp2_with fail
  obtain ⟨w1, hw1⟩ : ∃ w1, w1 = w.alloc (.cells #[.int .i64 xo, .int .i64 xd, .int .i64 xa, .int .i64 xb, .int .i32 xi] 46) := ⟨_, rfl⟩
  have hS : w1.cell? ⟨T, 0, none⟩ = some (.slice (some ⟨g, 0, none⟩) (m + 1) cap) ∧ w1.cell? ⟨g, m * 5, none⟩ = some (.int .i64 yo) ∧ w1.cell? ⟨g, m * 5 + 1, none⟩ = some (.int .i64 yd) ∧ w1.cell? ⟨g, m * 5 + 2, none⟩ = some (.int .i64 ya) ∧ w1.cell? ⟨g, m * 5 + 3, none⟩ = some (.int .i64 yb) ∧ w1.cell? ⟨g, m * 5 + 4, none⟩ = some (.int .i32 yi) ∧ w1.cell? ⟨w.heap.size, 0, none⟩ = some (.int .i64 xo) ∧ w1.cell? ⟨w.heap.size, 1, none⟩ = some (.int .i64 xd) ∧ w1.cell? ⟨w.heap.size, 2, none⟩ = some (.int .i64 xa) ∧ w1.cell? ⟨w.heap.size, 3, none⟩ = some (.int .i64 xb) ∧ w1.cell? ⟨w.heap.size, 4, none⟩ = some (.int .i32 xi) ∧ w.heap.size < w1.heap.size ∧ Below w.heap.size w w1 := by
    subst hw1
    exact ⟨(World.cell?_alloc_past _ _ _ hT).trans cT, (World.cell?_alloc_past _ _ _ hg).trans c0, (World.cell?_alloc_past _ _ _ hg).trans c1, (World.cell?_alloc_past _ _ _ hg).trans c2, (World.cell?_alloc_past _ _ _ hg).trans c3, (World.cell?_alloc_past _ _ _ hg).trans c4, by simp, by simp, by simp, by simp, by simp, by simp, (Below.refl _ _).alloc (Nat.le_refl _) _⟩
  rw [← hw1]
  clear hw1
  obtain ⟨k0, k1, k2, k3, k4, k5, k6, k7, k8, k9, k10, hz, hB1⟩ := id hS
  have HB := Lib.hid hB1
  clear hB1 c0 c1 c2 c3 c4 hS
  have hT1 : T < w1.heap.size := by omega
  have hg1 : g < w1.heap.size := by omega
  have hf1 : w1.frozen? ⟨T, 0, none⟩ = false := (HB.out.frozen (p := ⟨T, 0, none⟩) (by show T < w.heap.size; omega)).trans fT
  clear cT fT
  have PS : ∀ w', Below w1.heap.size w1 w' → w'.cell? ⟨T, 0, none⟩ = some (.slice (some ⟨g, 0, none⟩) (m + 1) cap) ∧ w'.cell? ⟨g, m * 5, none⟩ = some (.int .i64 yo) ∧ w'.cell? ⟨g, m * 5 + 1, none⟩ = some (.int .i64 yd) ∧ w'.cell? ⟨g, m * 5 + 2, none⟩ = some (.int .i64 ya) ∧ w'.cell? ⟨g, m * 5 + 3, none⟩ = some (.int .i64 yb) ∧ w'.cell? ⟨g, m * 5 + 4, none⟩ = some (.int .i32 yi) ∧ w'.cell? ⟨w.heap.size, 0, none⟩ = some (.int .i64 xo) ∧ w'.cell? ⟨w.heap.size, 1, none⟩ = some (.int .i64 xd) ∧ w'.cell? ⟨w.heap.size, 2, none⟩ = some (.int .i64 xa) ∧ w'.cell? ⟨w.heap.size, 3, none⟩ = some (.int .i64 xb) ∧ w'.cell? ⟨w.heap.size, 4, none⟩ = some (.int .i32 xi) ∧ Below w1.heap.size w1 w' := fun w' hb => ⟨(hb.cell (p := ⟨T, 0, none⟩) hT1).trans k0, (hb.cell (p := ⟨g, m * 5, none⟩) hg1).trans k1, (hb.cell (p := ⟨g, m * 5 + 1, none⟩) hg1).trans k2, (hb.cell (p := ⟨g, m * 5 + 2, none⟩) hg1).trans k3, (hb.cell (p := ⟨g, m * 5 + 3, none⟩) hg1).trans k4, (hb.cell (p := ⟨g, m * 5 + 4, none⟩) hg1).trans k5, (hb.cell (p := ⟨w.heap.size, 0, none⟩) hz).trans k6, (hb.cell (p := ⟨w.heap.size, 1, none⟩) hz).trans k7, (hb.cell (p := ⟨w.heap.size, 2, none⟩) hz).trans k8, (hb.cell (p := ⟨w.heap.size, 3, none⟩) hz).trans k9, (hb.cell (p := ⟨w.heap.size, 4, none⟩) hz).trans k10, hb⟩
  have PS := Lib.hid PS
  have ib0 : (0 : Int) ≤ (m : Int) := by omega
  have ib1 : (m : Int) < (m : Int) + 1 := by omega
  have ib2 : m < m + 1 := by omega
  have ib3 : ∀ W : World, Below w1.heap.size w1 W → w1.heap.size ≤ W.heap.size := fun W h => h.size
  have IB3 := Lib.hid ib3
  clear ib3
  go_region_held3 (fun w' => w'.cell? ⟨T, 0, none⟩ = some (.slice (some ⟨g, 0, none⟩) (m + 1) cap) ∧ w'.cell? ⟨g, m * 5, none⟩ = some (.int .i64 yo) ∧ w'.cell? ⟨g, m * 5 + 1, none⟩ = some (.int .i64 yd) ∧ w'.cell? ⟨g, m * 5 + 2, none⟩ = some (.int .i64 ya) ∧ w'.cell? ⟨g, m * 5 + 3, none⟩ = some (.int .i64 yb) ∧ w'.cell? ⟨g, m * 5 + 4, none⟩ = some (.int .i32 yi) ∧ w'.cell? ⟨w.heap.size, 0, none⟩ = some (.int .i64 xo) ∧ w'.cell? ⟨w.heap.size, 1, none⟩ = some (.int .i64 xd) ∧ w'.cell? ⟨w.heap.size, 2, none⟩ = some (.int .i64 xa) ∧ w'.cell? ⟨w.heap.size, 3, none⟩ = some (.int .i64 xb) ∧ w'.cell? ⟨w.heap.size, 4, none⟩ = some (.int .i32 xi) ∧ Below w1.heap.size w1 w')
    (first
    | (with_reducible assumption)
    | (refine PS.out _ ?_; first
      | (with_reducible exact Below.refl _ _)
      | (with_reducible exact (Below.refl _ _).drew)
      | (with_reducible exact ((Below.refl _ _).alloc (Nat.le_refl _) _).drew)
      | (with_reducible exact (Below.refl _ _).alloc (Nat.le_refl _) _)
      | (with_reducible exact hB2)
      | (with_reducible exact hB2.drew)
      | (with_reducible exact hB2.alloc hB2.size _)
      | (with_reducible exact (hB2.alloc hB2.size _).drew)
      | (with_reducible exact below_5 hB2 (Nat.le_refl _) _ _ _ _ _)
      | (with_reducible exact below_5 (hB2.alloc hB2.size _) hB2.size _ _ _ _ _)
      | (trace_state; fail)))
    (first
    | (go_at_call 28; with_reducible refine (J.out _).mono ?_; rintro e w2 ⟨rfl, hbl⟩; first
      | (have hh := arm_alloc hbl; obtain ⟨hB2, q0, q1, q2, q3, q4, f0, f1, f2, f3, f4, ql⟩ := hh)
      | (have hB2 : Below w1.heap.size w1 w2 := Below.trans (Below.refl _ _).drew (hbl.mono (Nat.le_refl _)))
      | (have hB2 : Below w1.heap.size w1 w2 := hbl)))
  · have hWb : Below w1.heap.size w1 (w2.alloc (.cells #[.int .i64 zo, .int .i64 zd, .int .i64 za, .int .i64 zb, .int .i32 zi] 46)) := hB2.alloc hB2.size (.cells #[.int .i64 zo, .int .i64 zd, .int .i64 za, .int .i64 zb, .int .i32 zi] 46)
    have hN : w1.heap.size ≤ w2.heap.size := hB2.size
    have n0 : (w2.alloc (.cells #[.int .i64 zo, .int .i64 zd, .int .i64 za, .int .i64 zb, .int .i32 zi] 46)).cell? ⟨w2.heap.size, 0, none⟩ = some (.int .i64 zo) := by simp
    have n1 : (w2.alloc (.cells #[.int .i64 zo, .int .i64 zd, .int .i64 za, .int .i64 zb, .int .i32 zi] 46)).cell? ⟨w2.heap.size, 1, none⟩ = some (.int .i64 zd) := by simp
    have n2 : (w2.alloc (.cells #[.int .i64 zo, .int .i64 zd, .int .i64 za, .int .i64 zb, .int .i32 zi] 46)).cell? ⟨w2.heap.size, 2, none⟩ = some (.int .i64 za) := by simp
    have n3 : (w2.alloc (.cells #[.int .i64 zo, .int .i64 zd, .int .i64 za, .int .i64 zb, .int .i32 zi] 46)).cell? ⟨w2.heap.size, 3, none⟩ = some (.int .i64 zb) := by simp
    have n4 : (w2.alloc (.cells #[.int .i64 zo, .int .i64 zd, .int .i64 za, .int .i64 zb, .int .i32 zi] 46)).cell? ⟨w2.heap.size, 4, none⟩ = some (.int .i32 zi) := by simp
    have hNs : w2.heap.size < (w2.alloc (.cells #[.int .i64 zo, .int .i64 zd, .int .i64 za, .int .i64 zb, .int .i32 zi] 46)).heap.size := by simp
    obtain ⟨N, hNN⟩ : ∃ N, N = w2.heap.size := ⟨_, rfl⟩
    rw [← hNN] at n0 n1 n2 n3 n4 hNs hN ⊢
    generalize hW3 : w2.alloc (.cells #[.int .i64 zo, .int .i64 zd, .int .i64 za, .int .i64 zb, .int .i32 zi] 46) = w3 at *
    clear hW3 hNN
    clear hB2
    obtain ⟨p0, p1, p2, p3, p4, p5, p6, p7, p8, p9, p10, _⟩ := PS.out w3 hWb
    have fT3 := (hWb.frozen (p := ⟨T, 0, none⟩) hT1).trans hf1
    have HW3 := Lib.hid (HB.out.trans (hWb.mono (Nat.le_of_lt hz)))
    have hs3 := hWb.size
    have hz3 : w.heap.size < w3.heap.size := by omega
    clear hWb p1 p2 p3 p4 p5
    
    have O3 := own_later OB.out HW3.out
    have hT3 : T < w3.heap.size := by omega
    have ST := Lib.hid (show TdSt T B (w3.setCell ⟨T, 0, none⟩ (.slice (some ⟨g, 0, none⟩) m cap)) r from ⟨some ⟨g, 0, none⟩, cap, by rw [← hm3.out]; exact World.cell?_setCell_same _ _ _ p0, by rw [World.frozen?_setCell]; exact fT3, by rw [← hm3.out]; exact ownsRow_setCell_other O3 (by simp [Value.ownBlock]; exact hgT) _, by simp [Value.ownBlock]; exact hgT, by simp; omega, by simp; omega⟩)
    have BS := Lib.hid ((HW3.out.mono (by omega : b0 ≤ w.heap.size)).setCell (p := ⟨T, 0, none⟩) hb0 (.slice (some ⟨g, 0, none⟩) m cap))
    have nn0 : (w3.setCell ⟨T, 0, none⟩ (.slice (some ⟨g, 0, none⟩) m cap)).cell? ⟨N, 0, none⟩ = some (.int .i64 zo) := (World.cell?_setCell_far _ _ _ _ (by show T ≠ N; omega)).trans n0
    have nn1 : (w3.setCell ⟨T, 0, none⟩ (.slice (some ⟨g, 0, none⟩) m cap)).cell? ⟨N, 1, none⟩ = some (.int .i64 zd) := (World.cell?_setCell_far _ _ _ _ (by show T ≠ N; omega)).trans n1
    have nn2 : (w3.setCell ⟨T, 0, none⟩ (.slice (some ⟨g, 0, none⟩) m cap)).cell? ⟨N, 2, none⟩ = some (.int .i64 za) := (World.cell?_setCell_far _ _ _ _ (by show T ≠ N; omega)).trans n2
    have nn3 : (w3.setCell ⟨T, 0, none⟩ (.slice (some ⟨g, 0, none⟩) m cap)).cell? ⟨N, 3, none⟩ = some (.int .i64 zb) := (World.cell?_setCell_far _ _ _ _ (by show T ≠ N; omega)).trans n3
    have nn4 : (w3.setCell ⟨T, 0, none⟩ (.slice (some ⟨g, 0, none⟩) m cap)).cell? ⟨N, 4, none⟩ = some (.int .i32 zi) := (World.cell?_setCell_far _ _ _ _ (by show T ≠ N; omega)).trans n4
    have hmc : (m : Int) ≤ (cap : Int) := by omega
    have hmm : (m : Int) ≤ (m : Int) + 1 := by omega
    clear O3
    go_wp2_with fail
    refine (IH.out ⟨zo, zd, za, zb, zi⟩ _ ST.out).mono ?_
    rintro e w4 ⟨rfl, st4, hb4⟩
    have ST4 := Lib.hid st4
    have HB4 := Lib.hid (BS.out.trans hb4)
    clear st4 hb4
    go_wp2_with fail
    exact ⟨rfl, .tuple #[], results_none rfl _ _ _, rfl, ST4.out, HB4.out⟩
  · have hWb : Below w1.heap.size w1 (((((w2.setCell ⟨w1.heap.size, 0, none⟩ (.int .i64 zo)).setCell ⟨w1.heap.size, 1, none⟩ (.int .i64 zd)).setCell ⟨w1.heap.size, 2, none⟩ (.int .i64 za)).setCell ⟨w1.heap.size, 3, none⟩ (.int .i64 zb)).setCell ⟨w1.heap.size, 4, none⟩ (.int .i32 zi)) := below_5 hB2 (Nat.le_refl _) (.int .i64 zo) (.int .i64 zd) (.int .i64 za) (.int .i64 zb) (.int .i32 zi)
    obtain ⟨n0, n1, n2, n3, n4⟩ := set5_cells (N := w1.heap.size) q0 q1 q2 q3 q4 (.int .i64 zo) (.int .i64 zd) (.int .i64 za) (.int .i64 zb) (.int .i32 zi)
    have hNs : w1.heap.size < (((((w2.setCell ⟨w1.heap.size, 0, none⟩ (.int .i64 zo)).setCell ⟨w1.heap.size, 1, none⟩ (.int .i64 zd)).setCell ⟨w1.heap.size, 2, none⟩ (.int .i64 za)).setCell ⟨w1.heap.size, 3, none⟩ (.int .i64 zb)).setCell ⟨w1.heap.size, 4, none⟩ (.int .i32 zi)).heap.size := by simpa using ql
    obtain ⟨N, hNN⟩ : ∃ N, N = w1.heap.size := ⟨_, rfl⟩
    rw [← hNN] at n0 n1 n2 n3 n4 hNs ⊢
    have hN : w1.heap.size ≤ N := by omega
    replace hWb : Below w1.heap.size w1 (((((w2.setCell ⟨N, 0, none⟩ (.int .i64 zo)).setCell ⟨N, 1, none⟩ (.int .i64 zd)).setCell ⟨N, 2, none⟩ (.int .i64 za)).setCell ⟨N, 3, none⟩ (.int .i64 zb)).setCell ⟨N, 4, none⟩ (.int .i32 zi)) := by rw [hNN]; exact hWb
    generalize hW3 : ((((w2.setCell ⟨N, 0, none⟩ (.int .i64 zo)).setCell ⟨N, 1, none⟩ (.int .i64 zd)).setCell ⟨N, 2, none⟩ (.int .i64 za)).setCell ⟨N, 3, none⟩ (.int .i64 zb)).setCell ⟨N, 4, none⟩ (.int .i32 zi) = w3 at *
    clear hW3 hNN
    clear hB2
    obtain ⟨p0, p1, p2, p3, p4, p5, p6, p7, p8, p9, p10, _⟩ := PS.out w3 hWb
    have fT3 := (hWb.frozen (p := ⟨T, 0, none⟩) hT1).trans hf1
    have HW3 := Lib.hid (HB.out.trans (hWb.mono (Nat.le_of_lt hz)))
    have hs3 := hWb.size
    have hz3 : w.heap.size < w3.heap.size := by omega
    clear hWb p1 p2 p3 p4 p5
    
    have O3 := own_later OB.out HW3.out
    have hT3 : T < w3.heap.size := by omega
    have ST := Lib.hid (show TdSt T B (w3.setCell ⟨T, 0, none⟩ (.slice (some ⟨g, 0, none⟩) m cap)) r from ⟨some ⟨g, 0, none⟩, cap, by rw [← hm3.out]; exact World.cell?_setCell_same _ _ _ p0, by rw [World.frozen?_setCell]; exact fT3, by rw [← hm3.out]; exact ownsRow_setCell_other O3 (by simp [Value.ownBlock]; exact hgT) _, by simp [Value.ownBlock]; exact hgT, by simp; omega, by simp; omega⟩)
    have BS := Lib.hid ((HW3.out.mono (by omega : b0 ≤ w.heap.size)).setCell (p := ⟨T, 0, none⟩) hb0 (.slice (some ⟨g, 0, none⟩) m cap))
    have nn0 : (w3.setCell ⟨T, 0, none⟩ (.slice (some ⟨g, 0, none⟩) m cap)).cell? ⟨N, 0, none⟩ = some (.int .i64 zo) := (World.cell?_setCell_far _ _ _ _ (by show T ≠ N; omega)).trans n0
    have nn1 : (w3.setCell ⟨T, 0, none⟩ (.slice (some ⟨g, 0, none⟩) m cap)).cell? ⟨N, 1, none⟩ = some (.int .i64 zd) := (World.cell?_setCell_far _ _ _ _ (by show T ≠ N; omega)).trans n1
    have nn2 : (w3.setCell ⟨T, 0, none⟩ (.slice (some ⟨g, 0, none⟩) m cap)).cell? ⟨N, 2, none⟩ = some (.int .i64 za) := (World.cell?_setCell_far _ _ _ _ (by show T ≠ N; omega)).trans n2
    have nn3 : (w3.setCell ⟨T, 0, none⟩ (.slice (some ⟨g, 0, none⟩) m cap)).cell? ⟨N, 3, none⟩ = some (.int .i64 zb) := (World.cell?_setCell_far _ _ _ _ (by show T ≠ N; omega)).trans n3
    have nn4 : (w3.setCell ⟨T, 0, none⟩ (.slice (some ⟨g, 0, none⟩) m cap)).cell? ⟨N, 4, none⟩ = some (.int .i32 zi) := (World.cell?_setCell_far _ _ _ _ (by show T ≠ N; omega)).trans n4
    have hmc : (m : Int) ≤ (cap : Int) := by omega
    have hmm : (m : Int) ≤ (m : Int) + 1 := by omega
    clear O3
    go_wp2_with fail
    refine (IH.out ⟨zo, zd, za, zb, zi⟩ _ ST.out).mono ?_
    rintro e w4 ⟨rfl, st4, hb4⟩
    have ST4 := Lib.hid st4
    have HB4 := Lib.hid (BS.out.trans hb4)
    clear st4 hb4
    go_wp2_with fail
    exact ⟨rfl, .tuple #[], results_none rfl _ _ _, rfl, ST4.out, HB4.out⟩

/-- what becomes of the tidier's steps when a step is put -/
theorem put_any (T B b0 : Nat) (hb0 : b0 ≤ T) (hbB : b0 ≤ B) : ∀ (r : List Q5) (x : Q5) (w : World), r.length ≤ 20000 → TdSt T B w r →
    Calls Try.prog 16 #[.pointer (some ⟨T, 0, none⟩), .agg #[.int .i64 x.o, .int .i64 x.d, .int .i64 x.a, .int .i64 x.b, .int .i32 x.i]] w (TdPost T B b0 w (putR r x))
  | [], x, w, _, h => put_0 T B b0 x w h hb0 hbB
  | y :: r, x, w, hl, h => by
    have h0 := h
    obtain ⟨a, c, h1, h2, h3, h4, h5, h6⟩ := h
    have hln : (y :: r).length = r.length + 1 := rfl
    have e1 : flat (y :: r).reverse = flat r.reverse ++ y.cells := by simp [flat]
    rw [hln] at h1 h3 h4 hl
    rw [e1] at h3
    have h3' := h3
    obtain ⟨_, ⟨hv, _⟩ | ⟨g, cap, cur, hv, hg, hh, hc, hcm, _⟩⟩ := h3
    · cases hv
    · obtain ⟨rfl, rfl⟩ : a = some ⟨g, 0, none⟩ ∧ c = cap := by injection hv with e1 e2 e3; exact ⟨e1, e3⟩
      have hgl := (h3'.lt g rfl).2
      have hgT : g ≠ T := by simpa [Value.ownBlock] using h4
      obtain ⟨yo, yd, ya, yb, yi⟩ := y
      obtain ⟨xo, xd, xa, xb, xi⟩ := x
      cases hj : joinP ⟨yo, yd, ya, yb, yi⟩ ⟨xo, xd, xa, xb, xi⟩ with
      | some z =>
        obtain ⟨zo, zd, za, zb, zi⟩ := z
        have ep : putR (⟨yo, yd, ya, yb, yi⟩ :: r) ⟨xo, xd, xa, xb, xi⟩ = putR r ⟨zo, zd, za, zb, zi⟩ := by rw [putR, hj]
        rw [ep]
        exact put_some T B b0 r.length g c yo yd ya yb yi xo xd xa xb xi r w rfl (by omega) h5 hb0 hbB h6 hgl hgT hc (by simpa [maxLen] using hcm) h1 h2 h3' zo zd za zb zi hg hj (fun z W hW => put_any T B b0 hb0 hbB r z W (by omega) hW)
      | none =>
        by_cases hi : idleP ⟨xo, xd, xa, xb, xi⟩ = true
        · have ep : putR (⟨yo, yd, ya, yb, yi⟩ :: r) ⟨xo, xd, xa, xb, xi⟩ = ⟨yo, yd, ya, yb, yi⟩ :: r := by rw [putR, hj]; simp [hi]
          rw [ep]
          exact put_none_i T B b0 r.length g c yo yd ya yb yi xo xd xa xb xi r w rfl (by omega) h5 hb0 hbB h6 hgl hgT hc (by simpa [maxLen] using hcm) h1 h2 h3' h0 hg hj hi
        · have ep : putR (⟨yo, yd, ya, yb, yi⟩ :: r) ⟨xo, xd, xa, xb, xi⟩ = ⟨xo, xd, xa, xb, xi⟩ :: ⟨yo, yd, ya, yb, yi⟩ :: r := by rw [putR, hj]; simp [hi]
          rw [ep]
          exact put_none_a T B b0 r.length g c yo yd ya yb yi xo xd xa xb xi r w rfl (by omega) h5 hb0 hbB h6 hgl hgT hc (by simpa [maxLen] using hcm) h1 h2 h3' h0 hg hj (show idleP _ = false by simpa using hi)
end Go.Proofs.Ytlieapapmkbbgaa
