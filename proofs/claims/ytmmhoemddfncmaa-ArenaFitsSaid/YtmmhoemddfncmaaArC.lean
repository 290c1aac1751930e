/- Contract of arena.inOrder: the places of blocks in their order. -/
import Derived.Test.YtmmhoemddfncmaaArB
namespace Go.Proofs.Ytmmhoemddfncmaa
open Go Go.RowKit
set_option linter.unusedVariables false

def fillI (n k : Nat) : List Int := rangeI k ++ List.replicate (n - k) 0
theorem fill_zero (n : Nat) : fillI n 0 = List.replicate n 0 := by simp [fillI, rangeI]
theorem fill_full (n : Nat) : fillI n n = rangeI n := by simp [fillI]
theorem fill_next {n k : Nat} (h : k < n) : (fillI n k).set k (k : Int) = fillI n (k + 1) := by
  unfold fillI
  rw [List.set_append_right _ _ (by simp [rangeI])]
  have e : (rangeI k).length = k := by simp [rangeI]
  rw [e, Nat.sub_self]
  obtain ⟨m, hm⟩ : ∃ m, n - k = m + 1 := ⟨n - k - 1, by omega⟩
  rw [hm, List.replicate_succ, List.set_cons_zero, show n - (k + 1) = m by omega]
  unfold rangeI
  rw [List.range_succ, List.map_append]
  simp
theorem fill_len (n k : Nat) (h : k ≤ n) : (fillI n k).length = n := by simp [fillI, rangeI]; omega
theorem ltF_C (l : List Q3) : ltF (fC l) = ltC l := rfl
theorem range_ok (l : List Q3) : AllOk (InL l) (rangeI l.length) := fun x hx => rangeI_mem.1 hx
def OrderPost (w : World) (l : List Q3) (e : Ending) (w' : World) : Prop := ∃ G, e = .returned (.slice (some ⟨G, 0, none⟩) l.length l.length) ∧ SRow w' w.heap.size G l.length l.length (orderC l) ∧ Below w.heap.size w w'

set_option maxRecDepth 100000 in
set_option maxHeartbeats 2000000 in
theorem order_any (a : Option Addr) (c : Nat) (l : List Q3) (w : World) (hl : B3 w a l) (hn : l.length ≤ 100) :
    Calls Try.prog 17 #[.slice a l.length c] w (OrderPost w l) := by
  obtain ⟨n, hnn⟩ : ∃ n, n = l.length := ⟨_, rfl⟩
  have hmk := make_ints n (by omega)
  have HMK := Lib.hid hmk
  have LT := Lib.hid (show ∀ b off, a = some ⟨b, off, none⟩ → l ≠ [] → b < w.heap.size from fun b off e hne => by
    obtain ⟨_, h | ⟨b', off', e', hb, _⟩⟩ := hl
    · exact absurd h hne
    · rw [e] at e'
      obtain ⟨rfl, _⟩ : b = b' ∧ off = off' := by simpa using e'
      exact hb)
  have HL := Lib.hid hl
  have HN := Lib.hid hnn
  have B0 : Below w.heap.size w (w.alloc (.cells #[.slice a n c] 22)) := (Below.refl _ _).alloc (Nat.le_refl _) _
  have MO := made_own (w.alloc (.cells #[.slice a n c] 22)) n (by omega)
  have B1 : Below w.heap.size w ((w.alloc (.cells #[.slice a n c] 22)).alloc (.cells (madeCells #[Value.int .i64 0] n) 3)) := B0.alloc (by simp) _
  have cB : ((w.alloc (.cells #[.slice a n c] 22)).alloc (.cells (madeCells #[Value.int .i64 0] n) 3)).cell? ⟨w.heap.size, 0, none⟩ = some (.slice a n c) := by
    rw [World.cell?_alloc_past _ _ _ (by simp)]; simp
  have sz : (w.alloc (.cells #[.slice a n c] 22)).heap.size = w.heap.size + 1 := by simp
  have hn2 : n ≤ 100 := by omega
  rw [← hnn]
  rw [sz] at MO
  have HB0 := Lib.hid B0
  have HMO := Lib.hid MO
  have HB1 := Lib.hid B1
  have HCB := Lib.hid cB
  clear hl hnn hmk B0 MO B1 cB sz
  go_enter Try.func17, Try.ntmps17
  have hmk := HMK.out
  go_wp2_with fail
  generalize (w.alloc (.cells #[.slice a n c] 22)).alloc (.cells (madeCells #[Value.int .i64 0] n) 3) = w1 at HMO HB1 HCB ⊢
  obtain ⟨G, hG⟩ : ∃ G, G = w.heap.size + 1 := ⟨_, rfl⟩
  rw [← hG] at HMO ⊢
  have HGG := Lib.hid hG
  clear hG hmk
  go_loopw [10] (fun i wr => ∃ k : Nat, k ≤ n ∧ i = .int .i64 k ∧ SRow wr G G n n (fillI n k) ∧ w1.grownBy wr (some G)) (fun i _ => n - (intOf i).toNat)
  case atStart => exact ⟨0, Nat.zero_le _, rfl, by rw [fill_zero]; exact HMO.out, World.grownBy.refl _ _⟩
  case round =>
    obtain ⟨k, hk, rfl, row, hg⟩ := hrel
    have RW := Lib.hid row
    have HG := Lib.hid hg
    by_cases hlt : k < n
    · obtain ⟨c1, f1, gs⟩ := row.at (k := k) hlt
      have KEY := Lib.hid (row.set k (k : Int))
      rw [fill_next hlt] at KEY
      clear row hg
      go_wp2_with fail
      go_roundw
      case measure => simp [intOf]; omega
      case rel => exact ⟨k + 1, by omega, by go_num, KEY.out.1, HG.out.trans KEY.out.2⟩
    · obtain rfl : k = n := by omega
      have hn := HN.out
      subst hn
      have cb := HG.out.cell HCB.out (by simp; have := HGG.out; omega)
      have hsz : w.heap.size < wr.heap.size := by have := HB1.out.size; have := HG.out.size; have := (row.2.lt G rfl).2; have := HGG.out; omega
      have LL := Lib.hid (HL.out.later (HB1.out.grown HG.out (by have := HGG.out; have := HB1.out.size; omega) (fun k hk => by cases hk; have := HGG.out; omega)))
      have CM := Lib.hid (show CmpAt (fC l) (InL l) G (.pointer (some ⟨w.heap.size, 0, none⟩)) wr by
        by_cases hne : l = []
        · intro W x y _ hx _
          subst hne
          obtain ⟨h1, h2⟩ := hx
          simp at h2
          omega
        · exact cmpO_any a c l w.heap.size G wr LL.out hsz cb (by have := HGG.out; omega) (fun b off e => by have := LT.out b off e hne; have := HGG.out; omega))
      rw [fill_full] at row
      have RO := Lib.hid row
      clear row hg cb hlt hk
      go_wp2_with fail
      refine (sortStable_any (fC l) (InL l) _ G G l.length l.length (rangeI l.length) wr RO.out (by omega) (by unfold maxLen; omega) (range_ok l) CM.out).mono ?_
      rintro e w5 ⟨rfl, o5, _, g5⟩
      have O5 := Lib.hid o5
      have G5 := Lib.hid g5
      clear o5 g5
      go_wp2_with fail
      go_ret
      refine ⟨G, rfl, ⟨by rw [order_len], ?_⟩, ?_⟩
      · have h := O5.out.2
        rw [ltF_C] at h
        have hg := HGG.out
        obtain ⟨h1, ⟨hv, hl⟩ | ⟨g, cap, cur, hv, hgb, rest⟩⟩ := h
        · cases hv
        · exact ⟨h1, .inr ⟨g, cap, cur, hv, by omega, rest⟩⟩
      · have := HGG.out
        exact (HB1.out.grown HG.out (by have := HB1.out.size; omega) (fun k hk => by cases hk; omega)).grown G5.out (by have := HB1.out.size; have := HG.out.size; omega) (fun k hk => by cases hk; omega)
end Go.Proofs.Ytmmhoemddfncmaa
