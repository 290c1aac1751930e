/- Where branches and jumps go back: plain. -/
import Derived.Test.YtmlhoagcppofgaaGreatDoorGC
import Derived.WideShapes
import Derived.ChangeSlices
import Derived.OpenShut
import Derived.OwnWalk
import Derived.Handy
import Derived.WalkSpells
import Derived.WalkSmall
import Derived.Test.YtmlhoagcppofgaaGreatDoorGF
import Derived.Deep.OwnRows
namespace Go.Proofs.YtmlhoagcppofgaaGreatDoor
open Go Go.RowKit Pl
set_option linter.unusedVariables false

/-- an operation that aims -/
def aimO (o : Int) : Bool := decide ((36 ≤ o ∧ o ≤ 41) ∨ o = 44)
/-- where an instruction at a place goes back to, if it does -/
def bkQ (i : Nat) (q : Q5) : Option Nat := if aimO q.o = true ∧ q.i % 4 = 0 ∧ 0 ≤ (i : Int) + q.i / 4 ∧ (i : Int) + q.i / 4 ≤ i then some ((i : Int) + q.i / 4).toNat else none
theorem bkQ_iff (i : Nat) (q : Q5) (k : Nat) (hk : k ≤ i) : bkQ i q = some k ↔ aimO q.o = true ∧ q.i = 4 * ((k : Int) - (i : Int)) := by
  unfold bkQ
  constructor
  · intro h
    split at h
    · rename_i g
      have e := Option.some.inj h
      exact ⟨g.1, by omega⟩
    · cases h
  · rintro ⟨h1, h2⟩
    rw [if_pos ⟨h1, by omega, by omega, by omega⟩]
    congr 1
    omega
theorem bkQ_le {i : Nat} {q : Q5} {k : Nat} (h : bkQ i q = some k) : k ≤ i := by
  unfold bkQ at h
  split at h
  · rename_i g
    have e := Option.some.inj h
    omega
  · cases h
def qAt (l : List Nat) (i : Nat) : Q5 := decI (l.getD i 0 : Nat)
def backsTo (l : List Nat) : Nat → List (Nat × Nat)
  | 0 => []
  | m + 1 => backsTo l m ++ (match bkQ m (qAt l m) with | some k => [(m, k)] | none => [])
theorem backsTo_some {l : List Nat} {m k : Nat} (h : bkQ m (qAt l m) = some k) : backsTo l (m + 1) = backsTo l m ++ [(m, k)] := by
  show backsTo l m ++ _ = _
  rw [h]
theorem backsTo_none {l : List Nat} {m : Nat} (h : bkQ m (qAt l m) = none) : backsTo l (m + 1) = backsTo l m := by
  show backsTo l m ++ _ = _
  rw [h, List.append_nil]
theorem backsTo_len (l : List Nat) (m : Nat) : (backsTo l m).length ≤ m := by
  induction m with
  | zero => simp [backsTo]
  | succ m ih =>
    cases h : bkQ m (qAt l m) with
    | none => rw [backsTo_none h]; omega
    | some k => rw [backsTo_some h, List.length_append]; simp; omega
theorem backsTo_pre (l : List Nat) (m n : Nat) (h : m ≤ n) : backsTo l m <+: backsTo l n := by
  induction n with
  | zero => obtain rfl : m = 0 := by omega
            exact List.prefix_refl _
  | succ n ih =>
    rcases Nat.lt_or_ge m (n + 1) with g | g
    · exact (ih (by omega)).trans ⟨_, rfl⟩
    · obtain rfl : m = n + 1 := by omega
      exact List.prefix_refl _
theorem backsTo_at {l : List Nat} {m n k : Nat} (h : bkQ m (qAt l m) = some k) (hm : m < n) : (backsTo l n)[(backsTo l m).length]? = some (m, k) := by
  obtain ⟨t, ht⟩ := backsTo_pre l (m + 1) n hm
  rw [← ht, backsTo_some h, List.append_assoc, List.getElem?_append_right (Nat.le_refl _), Nat.sub_self]
  rfl
/-- whether it has been met among the first k -/
def metQ (i : Nat) (q : Q5) (k : Nat) : Nat := match bkQ i q with | some j => if j < k then 1 else 0 | none => 0
theorem metQ_zero (i : Nat) (q : Q5) : metQ i q 0 = 0 := by
  unfold metQ
  split
  · rw [if_neg (by omega)]
  · rfl
theorem metQ_yes {i : Nat} {q : Q5} {k : Nat} (h : bkQ i q = some k) : metQ i q k = 0 ∧ metQ i q (k + 1) = 1 := by
  unfold metQ
  rw [h]
  exact ⟨if_neg (Nat.lt_irrefl k), if_pos (Nat.lt_succ_self k)⟩
theorem metQ_no {i : Nat} {q : Q5} {k : Nat} (h : bkQ i q ≠ some k) : metQ i q (k + 1) = metQ i q k := by
  unfold metQ
  cases g : bkQ i q with
  | none => rfl
  | some j =>
    have : j ≠ k := fun e => h (by rw [g, e])
    by_cases hj : j < k
    · simp only [if_pos hj, if_pos (show j < k + 1 by omega)]
    · simp only [if_neg hj, if_neg (show ¬ j < k + 1 by omega)]
theorem metQ_all (l : List Nat) (i : Nat) : (backsTo l i).length + metQ i (qAt l i) (i + 1) = (backsTo l (i + 1)).length := by
  unfold metQ
  cases g : bkQ i (qAt l i) with
  | none => rw [backsTo_none g]; rfl
  | some j =>
    have := bkQ_le g
    rw [backsTo_some g]
    simp only [if_pos (show j < i + 1 by omega), List.length_append]
    rfl
end Go.Proofs.YtmlhoagcppofgaaGreatDoor

namespace Go.Proofs.YtmlhoagcppofgaaGreatDoor
open Go Go.RowKit Go.ChangeShapes Go.WideShapes Go.ChangeAt
set_option linter.unusedVariables false

/-- a slice of words -/
def WordsC (w : World) (a : Option Addr) (l : List Nat) (c : Nat) : Prop :=
  (∀ x ∈ l, x < 4294967296) ∧ l.length ≤ c ∧ c ≤ 9223372036854775807 ∧ (l = [] ∨ ∃ b off, a = some ⟨b, off, none⟩ ∧ b < w.heap.size ∧ ∀ k, k < l.length → w.cell? ⟨b, off + k, none⟩ = some (.int .u32 (l.getD k 0 : Nat)))
theorem WordsC.later {w w' : World} {a : Option Addr} {l : List Nat} {c : Nat} (h : WordsC w a l c) (hb : Below w.heap.size w w') : WordsC w' a l c := by
  obtain ⟨h1, h2, h3, h | ⟨b, off, rfl, hlt, hc⟩⟩ := h
  · exact ⟨h1, h2, h3, .inl h⟩
  · exact ⟨h1, h2, h3, .inr ⟨b, off, rfl, Nat.lt_of_lt_of_le hlt hb.size, fun k hk => (hb.cell hlt).trans (hc k hk)⟩⟩
theorem words_in {H : Type} {enc : TypeId × Value → H} {P : Program} {w : World} {r : Reach} {b base : Nat} {spare : Nat → Bool} {held : Bool} {t e : TypeId} {v : Value} {d : DataW H} {p : List MemPlace}
    (ht : P.underlying t = some (.slice e)) (he : P.underlying e = some (.int .u32)) (hc : P.cellsOf e = 1)
    (hv : Value.okWide P w r b t v) (h : DataW.Trod enc P w base spare held t v d p) :
    ∃ (a : Option Addr) (c : Nat) (l : List Nat), v = .slice a l.length c ∧ WordsC w a l c := by
  obtain ⟨a, len, cap, rfl⟩ := okWide_slice ht hv
  obtain ⟨fuel, hf⟩ := h
  rcases open_ints ht he hc hf with ⟨hcs, _⟩ | ⟨x, n, c, zs, hcs, _, hl, hm, hz, _, hcell, hwz⟩
  · simp [Value.cells] at hcs
    obtain ⟨rfl, rfl, rfl⟩ := hcs
    exact ⟨none, 0, [], rfl, by simp, by simp, by omega, Or.inl rfl⟩
  · simp [Value.cells] at hcs
    obtain ⟨rfl, rfl, rfl⟩ := hcs
    have hlen : len ≤ zs.length := by rw [hz]; split <;> omega
    have l1 : ((zs.take len).map Int.toNat).length = len := by simp; omega
    have pos : ∀ z ∈ zs, 0 ≤ z ∧ z < 4294967296 := by
      intro z hz
      have : 0 ≤ z ∧ z ≤ 4294967295 := by simpa [Lit.wf, IntKind.min, IntKind.max, IntKind.signed, IntKind.bits] using hwz z hz
      omega
    refine ⟨some x, cap, (zs.take len).map Int.toNat, by rw [l1], ?_, by rw [l1]; exact hl, by simpa [maxLen] using hm, ?_⟩
    · intro n hn
      simp only [List.mem_map] at hn
      obtain ⟨z, hz, rfl⟩ := hn
      have := pos z (List.mem_of_mem_take hz)
      omega
    · by_cases h0 : len = 0
      · subst h0
        exact Or.inl (by simp)
      · obtain ⟨bl, off, spot⟩ := x
        have c0 := hcell 0 (by omega)
        have hspot : spot = none := by simpa [Addr.add] using World.cell?_spot c0
        subst hspot
        have hb := block_lt_of_cell c0
        refine Or.inr ⟨bl, off, rfl, by simpa [Addr.add] using hb, ?_⟩
        intro k hk
        rw [l1] at hk
        have ck := hcell k (by omega)
        have e1 : (⟨bl, off, none⟩ : Addr).add k = ⟨bl, off + k, none⟩ := by unfold Addr.add; split <;> simp_all
        rw [e1] at ck
        rw [ck]
        have hm : zs.getD k 0 ∈ zs := by
          simp only [List.getD, List.getElem?_eq_getElem (show k < zs.length by omega), Option.getD_some]
          exact List.getElem_mem _
        have hp := pos _ hm
        have e2 : ((zs.take len).map Int.toNat).getD k 0 = (zs.getD k 0).toNat := by
          simp [List.getD, hk, List.getElem?_eq_getElem (show k < zs.length by omega)]
        rw [e2]
        congr 2
        omega

end Go.Proofs.YtmlhoagcppofgaaGreatDoor

namespace Go.Proofs.YtmlhoagcppofgaaGreatDoor
open Go Go.RowKit Pl
set_option linter.unusedVariables false

set_option maxHeartbeats 2000000 in
theorem target_no (i : Nat) (o d u v im : Int) (W : World) (i0 : -2147483648 ≤ im) (i1 : im ≤ 2147483647) (h : ¬ (aimO o = true ∧ im % 4 = 0)) :
    Calls Tryz.prog 31 #[.int .i64 (i : Nat), .agg #[.int .i64 o, .int .i64 d, .int .i64 u, .int .i64 v, .int .i32 im]] W fun e w' => e = .returned (.tuple #[.int .i64 0, .bool false]) ∧ Below W.heap.size W w' := by
  have hm : im.tmod 4 = 0 ↔ im % 4 = 0 := by
    constructor
    · intro g; exact Int.emod_eq_zero_of_dvd (Int.dvd_of_tmod_eq_zero g)
    · intro g; exact Int.tmod_eq_zero_of_dvd (Int.dvd_of_emod_eq_zero g)
  by_cases ha : aimO o = true
  · have hb : im.tmod 4 ≠ 0 := fun g => h ⟨ha, hm.1 g⟩
    have t5 : (im.tmod 4 == 0) = false := by simp; exact hb
    have t6 : (im.tmod 4 != 0) = true := by simp; exact hb
    have ho := of_decide_eq_true ha
    clear h hb hm ha
    by_cases h44 : o = 44
    · subst h44
      go_enter Tryz.func31, Tryz.ntmps31
      go_wp2
      go_ret2
      exact ⟨rfl, by go_grown⟩
    · have t1 : decide (36 ≤ o) = true := by simp; omega
      have t1' : decide (o ≥ 36) = true := by simp; omega
      have t2 : decide (o ≤ 41) = true := by simp; omega
      clear ho h44
      go_enter Tryz.func31, Tryz.ntmps31
      go_wp2
      go_ret2
      exact ⟨rfl, by go_grown⟩
  · have ho : ¬ ((36 ≤ o ∧ o ≤ 41) ∨ o = 44) := fun g => ha (decide_eq_true g)
    have t3 : (o == 44) = false := by simp; omega
    have t4 : (o != 44) = true := by simp; omega
    clear h hm ha
    by_cases h36 : 36 ≤ o
    · have t1 : decide (36 ≤ o) = true := by simp; omega
      have t2 : decide (o ≤ 41) = false := by simp; omega
      clear ho
      go_enter Tryz.func31, Tryz.ntmps31
      go_wp2
      go_ret2
      exact ⟨rfl, by go_grown⟩
    · have t1 : decide (36 ≤ o) = false := by simp; omega
      clear ho
      go_enter Tryz.func31, Tryz.ntmps31
      go_wp2
      go_ret2
      exact ⟨rfl, by go_grown⟩
set_option maxHeartbeats 2000000 in
theorem target_yes (i : Nat) (o d u v im : Int) (k : Int) (W : World) (hi : i ≤ 1000) (i0 : -2147483648 ≤ im) (i1 : im ≤ 2147483647) (h : aimO o = true) (h4 : im % 4 = 0) (hk : (i : Int) + im / 4 = k) :
    Calls Tryz.prog 31 #[.int .i64 (i : Nat), .agg #[.int .i64 o, .int .i64 d, .int .i64 u, .int .i64 v, .int .i32 im]] W fun e w' => e = .returned (.tuple #[.int .i64 k, .bool true]) ∧ Below W.heap.size W w' := by
  have hm : im.tmod 4 = 0 := Int.tmod_eq_zero_of_dvd (Int.dvd_of_emod_eq_zero h4)
  have hq : im.tdiv 4 = im / 4 := Int.tdiv_eq_ediv_of_dvd (Int.dvd_of_emod_eq_zero h4)
  have t5 : (im.tmod 4 == 0) = true := by simp; exact hm
  have t6 : (im.tmod 4 != 0) = false := by simp; exact hm
  have t7 : IntKind.i64.wrap (im.tdiv 4) = im.tdiv 4 := IntWalk.i64_in _ (by omega)
  have t8 : (i : Int) + im.tdiv 4 = k := by rw [hq]; exact hk
  have t9 : IntKind.i64.wrap k = k := IntWalk.i64_in _ (by omega)
  have T8 := Lib.hid (show wrap64 ((i : Int) + im.tdiv 4) = k by rw [t8]; exact IntWalk.wrap64_in _ (by omega))
  have ho := of_decide_eq_true h
  clear hm hq h4 hk h t8
  by_cases h44 : o = 44
  · subst h44
    go_enter Tryz.func31, Tryz.ntmps31
    go_wp2
    go_ret2
    exact ⟨T8.out ▸ rfl, by go_grown⟩
  · have t1 : decide (36 ≤ o) = true := by simp; omega
    have t2 : decide (o ≤ 41) = true := by simp; omega
    clear ho h44
    go_enter Tryz.func31, Tryz.ntmps31
    go_wp2
    go_ret2
    exact ⟨T8.out ▸ rfl, by go_grown⟩
end Go.Proofs.YtmlhoagcppofgaaGreatDoor

namespace Go.Proofs.YtmlhoagcppofgaaGreatDoor
open Go Go.RowKit Pl
set_option linter.unusedVariables false

theorem info_u32w : (Tryz.prog.info? 37).map (fun i => (i.zero, i.size, i.bytes)) = some (some (.int .u32 0), 1, 4) := by kernel_rfl
def u32v (x : Nat) : Value := .int .u32 (x : Int)
theorem news_w {w : World} {b off : Nat} {l : List Nat} (hc : ∀ k, k < l.length → w.cell? ⟨b, off + k, none⟩ = some (.int .u32 (l.getD k 0 : Nat))) (m : Nat) (w' : World)
    (hw : ∀ k, w'.cell? ⟨b, k, none⟩ = w.cell? ⟨b, k, none⟩) : ∀ j u, ((l.take m).map u32v)[j]? = some u → w'.cell? ((⟨b, off, none⟩ : Addr).add j) = some u := by
  intro j u h
  have e : (⟨b, off, none⟩ : Addr).add j = ⟨b, off + j, none⟩ := by unfold Addr.add; split <;> simp_all
  rw [e, hw]
  simp only [List.getElem?_map, Option.map_eq_some_iff] at h
  obtain ⟨x, hx, rfl⟩ := h
  have hj : j < l.length := by
    rcases Nat.lt_or_ge j l.length with g | g
    · exact g
    · rw [List.getElem?_eq_none (by simp; omega)] at hx; cases hx
  rw [hc j hj]
  have : l[j]? = some x := by
    rw [List.getElem?_take] at hx
    split at hx
    · exact hx
    · cases hx
  simp [u32v, List.getD, this]
theorem one_cell_w (l : List Nat) : ∀ u ∈ l.map u32v, u.oneCell' = true := by
  intro u hu
  simp only [List.mem_map] at hu
  obtain ⟨x, _, rfl⟩ := hu
  rfl
theorem own_empty_w (w : World) (base : Nat) (hb : base ≤ w.heap.size) : (w.alloc (.cells #[] 37)).ownsRow base 37 1 (.slice (some ⟨w.heap.size, 0, none⟩) 0 0) 0 [] :=
  ⟨rfl, Or.inr ⟨w.heap.size, 0, #[], rfl, hb, by show (w.heap.push _)[w.heap.size]? = _; simp, Nat.le_refl _, by simp [maxLen], rfl, rfl⟩⟩
theorem own_words {w : World} {base : Nat} {v : Value} {l : List Nat} (h : w.ownsRow base 37 1 v l.length (l.map u32v)) (h32 : ∀ x ∈ l, x < 4294967296) :
    ∃ a c, v = .slice a l.length c ∧ WordsC w a l c := by
  have hlt := h.lt
  have h' := h
  obtain ⟨_, ⟨hv, hn⟩ | ⟨g, cap, cur, hv, hg, hh, hc, hcm, _⟩⟩ := h
  · have : l = [] := by cases l with | nil => rfl | cons _ _ => simp at hn
    subst this
    exact ⟨none, 0, hv, h32, by simp, by omega, Or.inl rfl⟩
  · refine ⟨some ⟨g, 0, none⟩, cap, hv, h32, hc, by unfold maxLen at hcm; omega, Or.inr ⟨g, 0, rfl, ?_, ?_⟩⟩
    · exact (hlt g (by rw [hv]; rfl)).2
    · intro k hk
      have := h'.cells (g := g) (by rw [hv]; rfl) k (u32v (l.getD k 0)) (by simp [u32v, List.getD, hk])
      have e : (⟨g, 0, none⟩ : Addr).add k = ⟨g, 0 + k, none⟩ := by unfold Addr.add; split <;> simp_all
      rw [e] at this
      exact this
theorem grown_below_w {w w1 : World} (hg : (w.alloc (.cells #[] 37)).grownBy w1 (Value.slice (some ⟨w.heap.size, 0, none⟩) 0 0).ownBlock) : Below w.heap.size w w1 :=
  ((Below.refl _ _).alloc (Nat.le_refl _) _).grown hg (by simp) (fun k hk => by cases hk; exact Nat.le_refl _)
/-- what few leaves -/
def FewW (w : World) (l : List Nat) (e : Ending) (w' : World) : Prop := ∃ a c, e = .returned (.slice a (l.take 30).length c) ∧ WordsC w' a (l.take 30) c ∧ Below w.heap.size w w'

set_option maxRecDepth 100000 in
set_option maxHeartbeats 400000 in
theorem wfew_any (a : Option Addr) (c : Nat) (l : List Nat) (w : World) (hl : WordsC w a l c) :
    Calls Tryz.prog 4 #[.slice a l.length c] w (FewW w l) := by
  obtain ⟨i0, hi, hz0, hz1, hz2⟩ := info_parts info_u32w
  obtain ⟨h32, hc, hcm, hcell⟩ := hl
  have OWN0 := Lib.hid (own_empty_w w w.heap.size (Nat.le_refl _))
  have H32 := Lib.hid (show ∀ x ∈ l.take 30, x < 4294967296 from fun x hx => h32 x (List.mem_of_mem_take hx))
  have len1 : ((l.take 30).map u32v).length = (l.take 30).length * 1 := by simp
  clear h32
  rcases hcell with rfl | ⟨b, off, rfl, hb, hcs⟩
  · clear len1
    cases a with
    | none =>
      go_enter Tryz.func4, Tryz.ntmps4
      go_wp2_with fail
      go_ret
      exact ⟨_, 0, rfl, ⟨by simp, by simp, by omega, Or.inl rfl⟩, by go_grown⟩
    | some x =>
      go_enter Tryz.func4, Tryz.ntmps4
      go_wp2_with fail
      go_ret
      exact ⟨_, 0, rfl, ⟨by simp, by simp, by omega, Or.inl rfl⟩, by go_grown⟩
  · have NW := Lib.hid (fun m => news_w hcs m (w.alloc (.cells #[] 37)) (fun k => World.cell?_alloc_past (w := w) _ _ _ hb))
    clear hcs
    by_cases h : 30 < l.length
    · have hlen : (l.take 30).length = 30 := by simp; omega
      have HLEN := Lib.hid hlen
      have LN := Lib.hid (show ((l.take 30).map u32v).length = 30 * 1 by rw [len1, hlen])
      have E1 := Lib.hid (show 0 + 30 ≤ maxLen by simp [maxLen])
      have E2 := Lib.hid (show (0 + 30) * 4 ≤ 140737488355328 by omega)
      have E3 := Lib.hid (show w.heap.size ≤ (w.alloc (.cells #[] 37)).heap.size by simp)
      clear len1 hlen
      go_enter Tryz.func4, Tryz.ntmps4
      go_wp2_with (at_builtin; refine wpList_append_own (w.alloc (.cells #[] 37)) rfl (.tmp 8) (.tmp 9) 22 rfl w.heap.size 37 i0 (.int .u32 0) 1 4 Tryz.underlying22 hi hz0 hz1 hz2 rfl Nat.one_pos (.slice (some ⟨w.heap.size, 0, none⟩) 0 0) 0 [] rfl OWN0.out ⟨b, off, none⟩ 30 c ((l.take 30).map u32v) rfl LN.out (NW.out 30) (one_cell_w _) E1.out E2.out E3.out ?_; intro v' w1 hown hg hn)
      go_ret
      obtain ⟨a', c', rfl, hW⟩ := own_words (l := l.take 30) (by rw [HLEN.out]; simpa using hown) H32.out
      refine ⟨a', c', ?_, hW, grown_below_w hg⟩
      rw [HLEN.out]; rfl
    · have hlen : (l.take 30).length = l.length := by rw [List.take_of_length_le (by omega)]
      have HLEN := Lib.hid hlen
      have LN := Lib.hid (show ((l.take 30).map u32v).length = l.length * 1 by rw [len1, hlen])
      have E1 := Lib.hid (show 0 + l.length ≤ maxLen by simp [maxLen]; omega)
      have E2 := Lib.hid (show (0 + l.length) * 4 ≤ 140737488355328 by omega)
      have E3 := Lib.hid (show w.heap.size ≤ (w.alloc (.cells #[] 37)).heap.size by simp)
      have h3 : l.length ≤ 30 := by omega
      clear len1 hlen h
      go_enter Tryz.func4, Tryz.ntmps4
      go_wp2_with (at_builtin; refine wpList_append_own (w.alloc (.cells #[] 37)) rfl (.tmp 8) (.tmp 9) 22 rfl w.heap.size 37 i0 (.int .u32 0) 1 4 Tryz.underlying22 hi hz0 hz1 hz2 rfl Nat.one_pos (.slice (some ⟨w.heap.size, 0, none⟩) 0 0) 0 [] rfl OWN0.out ⟨b, off, none⟩ l.length c ((l.take 30).map u32v) rfl LN.out (NW.out 30) (one_cell_w _) E1.out E2.out E3.out ?_; intro v' w1 hown hg hn)
      go_ret
      obtain ⟨a', c', rfl, hW⟩ := own_words (l := l.take 30) (by rw [HLEN.out]; simpa using hown) H32.out
      exact ⟨a', c', rfl, hW, grown_below_w hg⟩

theorem isPlace_yes (a : Option Addr) (n c : Nat) (k : Nat) (W : World) (h : k < n) (hn : n ≤ 1000) :
    Calls Tryz.prog 17 #[.slice a n c, .int .i64 (k : Nat)] W fun e w' => e = .returned (.bool true) ∧ W = w' := by
  go_enter Tryz.func17, Tryz.ntmps17
  go_wp2
  go_ret
  exact ⟨by simp, rfl⟩
theorem isPlace_any (a : Option Addr) (n c : Nat) (k : Int) (W : World) (hn : n ≤ 1000) :
    Calls Tryz.prog 17 #[.slice a n c, .int .i64 k] W fun e w' => e = .returned (.bool (decide (0 ≤ k ∧ k < n))) ∧ W = w' := by
  by_cases h : 0 ≤ k
  · have t : decide (0 ≤ k) = true := by simp [h]
    have t' : decide (k ≥ 0) = true := by simp [h]
    have T := Lib.hid h
    clear h
    go_enter Tryz.func17, Tryz.ntmps17
    go_wp2
    go_ret
    exact ⟨by simp [T.out], rfl⟩
  · have t : decide (0 ≤ k) = false := by simp; omega
    have t' : decide (k ≥ 0) = false := by simp; omega
    have T := Lib.hid (show decide (0 ≤ k ∧ k < (n : Int)) = false by simp; omega)
    clear h
    go_enter Tryz.func17, Tryz.ntmps17
    go_wp2
    go_ret
    rw [T.out]
    exact ⟨rfl, rfl⟩
/-- an operation behind which the next word is done -/
def onO (o : Int) : Bool := decide (o ≠ 44 ∧ o ≠ 47 ∧ o ≠ 48)
theorem goesOn_any (o : Int) (W : World) : Calls Tryz.prog 32 #[.int .i64 o] W fun e w' => e = .returned (.bool (onO o)) ∧ W = w' := by
  by_cases h1 : o = 44
  · subst h1
    go_enter Tryz.func32, Tryz.ntmps32
    go_wp2
    go_ret
    exact ⟨rfl, rfl⟩
  · by_cases h2 : o = 47
    · subst h2
      go_enter Tryz.func32, Tryz.ntmps32
      go_wp2
      go_ret
      exact ⟨rfl, rfl⟩
    · have t1 : (o == 44) = false := by simp [h1]
      have t2 : (o != 44) = true := by simp [h1]
      have t3 : (o == 47) = false := by simp [h2]
      have t4 : (o != 47) = true := by simp [h2]
      have H := Lib.hid (show onO o = (o != 48) by unfold onO; by_cases h : o = 48 <;> simp [h, h1, h2])
      clear h1 h2
      go_enter Tryz.func32, Tryz.ntmps32
      go_wp2
      go_ret
      rw [H.out]
      exact ⟨rfl, rfl⟩
end Go.Proofs.YtmlhoagcppofgaaGreatDoor

namespace Go.Proofs.YtmlhoagcppofgaaGreatDoor
open Go Go.RowKit Pl
set_option linter.unusedVariables false

/-- whether one aims from a place at another one, comes on to it, goes to it -/
def aimQ (q : Q5) (i k : Nat) : Bool := aimO q.o && decide (q.i = 4 * ((k : Int) - (i : Int)))
def comeQ (q : Q5) (i k : Nat) : Bool := decide (q.o ≠ 0) && decide (k = i + 1) && onO q.o
def goesQ (q : Q5) (i k : Nat) : Bool := aimQ q i k || comeQ q i k
def GoesP (q : Q5) (i k : Nat) (W : World) (e : Ending) (W' : World) : Prop := e = .returned (.tuple #[.bool (goesQ q i k), .bool (aimQ q i k)]) ∧ Below W.heap.size W W'
theorem goes_mk {q : Q5} {i k : Nat} {W W' : World} {g a : Bool} (h1 : goesQ q i k = g) (h2 : aimQ q i k = a) (hb : Below W.heap.size W W') : GoesP q i k W (.returned (.tuple #[.bool g, .bool a])) W' := by
  rw [← h1, ← h2]; exact ⟨rfl, hb⟩
theorem words_cell {w : World} {a : Option Addr} {l : List Nat} {c i : Nat} (h : WordsC w a l c) (hi : i < l.length) : ∃ b off, a = some ⟨b, off, none⟩ ∧ b < w.heap.size ∧ w.cell? ⟨b, off + i, none⟩ = some (.int .u32 (l.getD i 0 : Nat)) ∧ l.getD i 0 < 4294967296 := by
  obtain ⟨h1, h2, h3, rfl | ⟨b, off, rfl, hlt, hc⟩⟩ := h
  · simp at hi
  · refine ⟨b, off, rfl, hlt, hc i hi, ?_⟩
    have : l.getD i 0 = l[i] := by simp [List.getD, hi]
    rw [this]; exact h1 _ (List.getElem_mem _)

theorem okI_iff {w : Int} {o d u v im : Int} (h : decI w = ⟨o, d, u, v, im⟩) (h0 : 0 ≤ w) (h1 : w < 4294967296) : okI w = decide (o ≠ 0) := by
  unfold decI at h
  unfold okI
  by_cases g : opI w = 0
  · rw [if_pos g] at h
    have : o = 0 := by injection h with a; exact a.symm
    simp [g, this]
  · rw [if_neg g] at h
    have : o = opI w := by
      have := congrArg Q5.o h
      exact this.symm
    simp [g, this]
theorem dec_imm (w : Int) (h0 : 0 ≤ w) (h1 : w < 4294967296) : -2147483648 ≤ (decI w).i ∧ (decI w).i ≤ 2147483647 := by
  unfold decI
  by_cases h : opI w = 0
  · rw [if_pos h]; exact ⟨by decide, by decide⟩
  · rw [if_neg h]
    unfold recI
    have g := get_bd (formI (opI w)) h0 h1
    refine ⟨?_, ?_⟩ <;> simp only <;> (repeat' split) <;> omega
end Go.Proofs.YtmlhoagcppofgaaGreatDoor

namespace Go.Proofs.YtmlhoagcppofgaaGreatDoor
open Go Go.RowKit Pl
set_option linter.unusedVariables false

theorem own_formF {w : World} {base n size : Nat} {e : TypeId} {v : Value} {xs : List Value} (h : w.ownsRow base e size v n xs) : ∃ a c, v = .slice a n c := by
  obtain ⟨_, ⟨hv, hn⟩ | ⟨g, cap, cur, hv, hg, hh, hc, hcm, _⟩⟩ := h
  · subst hn; exact ⟨none, 0, hv⟩
  · exact ⟨_, cap, hv⟩
theorem own_laterF {w w1 : World} {base n size : Nat} {e : TypeId} {v : Value} {xs : List Value} (h : w.ownsRow base e size v n xs) (hb : Below w.heap.size w w1) : w1.ownsRow base e size v n xs :=
  h.kept (show w.grownBy w1 none from ⟨hb.os, hb.tape, hb.output, hb.size, fun i hi _ => hb.block i hi⟩) (by cases v.ownBlock <;> simp)
theorem below_grownF {m : Nat} {w w1 w' : World} {v : Value} (h : Below m w w1) (hg : w1.grownBy w' v.ownBlock) (hm : m ≤ w1.heap.size) (hv : ∀ k, v.ownBlock = some k → m ≤ k) : Below m w w' :=
  h.grown hg hm hv
theorem two_oneF (x y : Int) : ∀ u ∈ [Value.int .i64 x, Value.int .i64 y], u.oneCell' = true := by
  intro u hu
  rcases List.mem_cons.1 hu with rfl | hu
  · rfl
  · rcases List.mem_cons.1 hu with rfl | hu
    · rfl
    · cases hu
def pairsV (l : List (Nat × Nat)) : List Value := l.flatMap fun p => [.int .i64 (p.1 : Int), .int .i64 (p.2 : Int)]
theorem pairs_len (l : List (Nat × Nat)) : (pairsV l).length = 2 * l.length := by
  induction l with
  | nil => rfl
  | cons p l ih => rw [show pairsV (p :: l) = [.int .i64 (p.1 : Int), .int .i64 (p.2 : Int)] ++ pairsV l from rfl, List.length_append, ih]; simp; omega
theorem pairs_put (l : List (Nat × Nat)) (p : Nat × Nat) : pairsV (l ++ [p]) = pairsV l ++ [.int .i64 (p.1 : Int), .int .i64 (p.2 : Int)] := by
  unfold pairsV; rw [List.flatMap_append]; rfl
theorem dec_gen (x : Int) (h0 : 0 ≤ x) (h1 : x < 4294967296) : ∃ o d u v im : Int, decI x = ⟨o, d, u, v, im⟩ ∧ okI x = decide (o ≠ 0) ∧ (-2147483648 ≤ im ∧ im ≤ 2147483647) := by
  have hm := dec_imm x h0 h1
  cases h : decI x with
  | mk o d u v im =>
    rw [h] at hm
    exact ⟨o, d, u, v, im, rfl, okI_iff h h0 h1, hm⟩
/-- how a branch or a jump goes back, if it does -/
theorem bk_cases (i n : Nat) (q : Q5) (hi : i < n) : (∃ k : Nat, bkQ i q = some k ∧ aimO q.o = true ∧ q.i % 4 = 0 ∧ (i : Int) + q.i / 4 = k ∧ k ≤ i) ∨ (bkQ i q = none ∧ (¬ (aimO q.o = true ∧ q.i % 4 = 0) ∨ ∃ k : Int, aimO q.o = true ∧ q.i % 4 = 0 ∧ (i : Int) + q.i / 4 = k ∧ (¬ (0 ≤ k ∧ k < n) ∨ (i : Int) < k))) := by
  by_cases h : aimO q.o = true ∧ q.i % 4 = 0
  · by_cases g : 0 ≤ (i : Int) + q.i / 4 ∧ (i : Int) + q.i / 4 ≤ i
    · refine .inl ⟨((i : Int) + q.i / 4).toNat, ?_, h.1, h.2, by omega, by omega⟩
      unfold bkQ; rw [if_pos ⟨h.1, h.2, g.1, g.2⟩]
    · refine .inr ⟨?_, .inr ⟨(i : Int) + q.i / 4, h.1, h.2, rfl, by omega⟩⟩
      unfold bkQ; rw [if_neg (fun e => g e.2.2)]
  · refine .inr ⟨?_, .inl h⟩
    unfold bkQ; rw [if_neg (fun e => h ⟨e.1, e.2.1⟩)]

end Go.Proofs.YtmlhoagcppofgaaGreatDoor

namespace Go.Proofs.YtmlhoagcppofgaaGreatDoor
open Go Go.RowKit Pl
set_option linter.unusedVariables false

theorem info_int : (Tryz.prog.info? 3).map (fun i => (i.zero, i.size, i.bytes)) = some (some (.int .i64 0), 1, 8) := by kernel_rfl
def iv (x : Int) : Value := .int .i64 x
/-- numbers that the call itself owns -/
def OwnI (w : World) (base : Nat) (v : Value) (l : List Int) : Prop := w.ownsRow base 3 1 v l.length (l.map iv)
theorem iv_one (l : List Int) : ∀ u ∈ l.map iv, u.oneCell' = true := by
  intro u hu
  simp only [List.mem_map] at hu
  obtain ⟨x, _, rfl⟩ := hu
  rfl
theorem news_one (w : World) (x : Int) (H : Nat) (hH : w.heap.size = H) : ∀ j u, [iv x][j]? = some u → (w.alloc (.cells #[.int .i64 x] 3)).cell? ((⟨H, 0, none⟩ : Addr).add j) = some u := by
  subst hH
  intro j u h
  rw [add_at, Nat.zero_add, World.cell?_alloc_new]
  simpa [iv] using h
theorem below_grown' {w w1 w' : World} {v : Value} (h : Below w.heap.size w w1) (hg : w1.grownBy w' v.ownBlock) (hv : ∀ k, v.ownBlock = some k → w.heap.size ≤ k) : Below w.heap.size w w' :=
  h.grown hg h.size hv
theorem cell_two {w1 : World} {cs ds : Array Value} {t u : TypeId} {j : Nat} {v : Value} (h : cs[j]? = some v) : ((w1.alloc (.cells cs t)).alloc (.cells ds u)).cell? ⟨w1.heap.size, j, none⟩ = some v := by
  rw [World.cell?_alloc_past _ _ _ (by simp), World.cell?_alloc_new]; exact h
theorem cell_old {w1 : World} {o o' : Obj} {b j : Nat} {v : Value} (h : w1.cell? ⟨b, j, none⟩ = some v) (hb : b < w1.heap.size) : ((w1.alloc o).alloc o').cell? ⟨b, j, none⟩ = some v := by
  rw [World.cell?_alloc_past _ _ _ (by simp; omega), World.cell?_alloc_past _ _ _ hb]; exact h
def ReadsPost (w : World) (l : List Int) (e : Ending) (w' : World) : Prop := ∃ v, e = .returned v ∧ OwnI w' w.heap.size v l ∧ Below w.heap.size w w'

theorem own_nilI (w : World) (base : Nat) : OwnI w base (.slice none 0 0) [] := World.ownsRow_nil _ _ _ _
theorem own_made (w : World) (base : Nat) (hb : base ≤ w.heap.size) (H : Nat) (hH : w.heap.size = H) : OwnI (w.alloc (.cells #[] 3)) base (.slice (some ⟨H, 0, none⟩) 0 0) [] := by
  subst hH
  exact World.ownsRow_lit w #[] 0 hb (by decide) rfl


theorem grown_of_below {a w : World} (h : Below a.heap.size a w) (row : Option Nat) : a.grownBy w row := ⟨h.os, h.tape, h.output, h.size, fun i hi _ => h.block i hi⟩
theorem own_later {w w1 : World} {base n size : Nat} {e : TypeId} {v : Value} {xs : List Value} (h : w.ownsRow base e size v n xs) (hb : Below w.heap.size w w1) : w1.ownsRow base e size v n xs :=
  h.kept (grown_of_below hb none) (by cases v.ownBlock <;> simp)


theorem below_draw {w w' : World} (h : ∃ n, w' = w.drewN n) : Below w.heap.size w w' := by
  obtain ⟨n, rfl⟩ := h
  exact below_drewN (Below.refl _ _) n


/-- a slice of numbers: where they lie -/
def IAt (w : World) (a : Option Addr) (l : List Int) : Prop := l.length ≤ 1000000000000 ∧ (l = [] ∨ ∃ b off, a = some ⟨b, off, none⟩ ∧ b < w.heap.size ∧ ∀ k x, l[k]? = some x → w.cell? ⟨b, off + k, none⟩ = some (.int .i64 x))
theorem IAt.later {w w' : World} {a : Option Addr} {l : List Int} (h : IAt w a l) (hb : Below w.heap.size w w') : IAt w' a l := by
  obtain ⟨h1, h | ⟨b, off, rfl, hlt, hc⟩⟩ := h
  · exact ⟨h1, Or.inl h⟩
  · exact ⟨h1, Or.inr ⟨b, off, rfl, Nat.lt_of_lt_of_le hlt hb.size, fun k x hx => (hb.cell hlt).trans (hc k x hx)⟩⟩
theorem own_i {w : World} {base : Nat} {v : Value} {l : List Int} (h : OwnI w base v l) (hl : l.length ≤ 1000000000000) : ∃ a c, v = .slice a l.length c ∧ IAt w a l := by
  have hlt := h.lt
  have h' := h
  obtain ⟨_, ⟨hv, hn⟩ | ⟨g, cap, cur, hv, hg, hh, hc, hcm, _⟩⟩ := h
  · have : l = [] := List.eq_nil_of_length_eq_zero hn
    subst this
    exact ⟨none, 0, hv, by simp, Or.inl rfl⟩
  · refine ⟨some ⟨g, 0, none⟩, cap, hv, hl, Or.inr ⟨g, 0, rfl, (hlt g (by rw [hv]; rfl)).2, fun k x hx => ?_⟩⟩
    have := h'.cells (g := g) (by rw [hv]; rfl) k (iv x) (by rw [List.getElem?_map, hx]; rfl)
    rw [add_at] at this
    exact this
theorem ints_lit (w : World) (l : List Int) (H : Nat) (hH : w.heap.size = H) (hl : l.length ≤ 1000000000000) : IAt (w.alloc (.cells (l.map iv).toArray 3)) (some ⟨H, 0, none⟩) l := by
  subst hH
  refine ⟨hl, Or.inr ⟨w.heap.size, 0, rfl, by simp, fun k x hx => ?_⟩⟩
  rw [Nat.zero_add, World.cell?_alloc_new]
  simp [hx, iv]

set_option maxHeartbeats 400000 in
theorem ints_eq (a1 a2 : Option Addr) (c1 c2 : Nat) (l : List Int) (w : World) (h1 : IAt w a1 l) (h2 : IAt w a2 l) :
    Calls Tryz.prog 24 #[.slice a1 l.length c1, .slice a2 l.length c2] w fun e w' => e = .returned (.bool true) ∧ ∃ n, w' = w.drewN n := by
  obtain ⟨hl, h1⟩ := h1
  obtain ⟨_, h2⟩ := h2
  have e0 : ((l.length : Int) != (l.length : Int)) = false := by simp
  by_cases hn : l = []
  · subst hn
    go_enter Tryz.func24, Tryz.ntmps24
    go_wp2_with fail
    go_rounds 1
    go_ret
    exact ⟨rfl, 0, rfl⟩
  · obtain ⟨b1, o1, rfl, hb1, hc1⟩ := h1.resolve_left hn
    obtain ⟨b2, o2, rfl, hb2, hc2⟩ := h2.resolve_left hn
    have HC1 := Lib.hid hc1
    have HC2 := Lib.hid hc2
    clear hc1 hc2 h1 h2 hn
    go_enter Tryz.func24, Tryz.ntmps24
    go_wp2_with fail
    go_loopw [5] (fun i wr => ∃ k n : Nat, k ≤ l.length ∧ i = .int .i64 k ∧ wr = w.drewN n) (fun i _ => l.length - (intOf i).toNat)
    case atStart => exact ⟨0, 0, Nat.zero_le _, rfl, rfl⟩
    case round =>
      obtain ⟨k, n, hk, rfl, rfl⟩ := hrel
      by_cases hlt : k < l.length
      · obtain ⟨x, hx⟩ : ∃ x, l[k]? = some x := ⟨_, List.getElem?_eq_getElem hlt⟩
        have p0 := HC1.out k x hx
        have q0 := HC2.out k x hx
        clear hx
        go_wp2_with fail
        go_quiet (fail)
        go_wp2_with fail
        go_roundw
        case measure => simp [intOf]; omega
        case rel => exact ⟨k + 1, _, by omega, by go_num, rfl⟩
      · obtain rfl : k = l.length := by omega
        go_wp2_with fail
        go_ret
        exact ⟨rfl, n, rfl⟩


theorem ilay_below (o : Int) (w : World) (ho : 1 ≤ o ∧ o ≤ 48) : Calls Tryz.prog 46 #[.int .i64 o] w fun e w' => e = .returned (.agg #[.int .u32 (lowC o), .bool (rD o), .bool (rA o), .bool (rB o), .int .i64 (formL o)]) ∧ Below w.heap.size w w' :=
  (ilay_any o w ho).mono fun e w' h => by
    obtain ⟨he, hw⟩ := h
    subst hw
    exact ⟨he, by go_grown⟩
theorem of_all (o : Int) (w : World) : Calls Tryz.prog 20 #[.int .i64 o] w fun e w' => (∃ (L T S G : Int) (K : Bool), e = .returned (.tuple #[.agg #[.int .u32 L, .int .u32 T, .int .u32 S, .int .i64 G, .bool (rD o), .bool (rA o), .bool (rB o)], .bool K])) ∧ Below w.heap.size w w' := by
  by_cases h : 1 ≤ o ∧ o ≤ 46
  · exact (of_any o w h).mono fun e w' h => ⟨⟨_, _, _, _, _, h.1⟩, h.2⟩
  · refine (of_none o w (by omega)).mono fun e w' h' => ⟨⟨0, 0, 0, 0, false, ?_⟩, h'.2⟩
    have r1 : rD o = false := by unfold rD; simp; omega
    have r2 : rA o = false := by unfold rA; simp; omega
    have r3 : rB o = false := by unfold rB; simp; omega
    rw [r1, r2, r3]
    exact h'.1
theorem ireads_no {x : Q5} (h : canI x = false) : readsI x = [] := by unfold readsI; rw [h]; rfl
theorem ireads_ab {x : Q5} (h : canI x = true) (ha : rA x.o = true) (hb : rB x.o = true) : readsI x = [x.a, x.b] := by unfold readsI; simp [h, ha, hb]
theorem ireads_a {x : Q5} (h : canI x = true) (ha : rA x.o = true) (hb : rB x.o = false) : readsI x = [x.a] := by unfold readsI; simp [h, ha, hb]
theorem ireads_0 {x : Q5} (h : canI x = true) (ha : rA x.o = false) (hb : rB x.o = false) : readsI x = [] := by unfold readsI; simp [h, ha, hb]
theorem rB_A {o : Int} (h : rB o = true) : rA o = true := by unfold rB at h; unfold rA; simp at *; omega
theorem ireads_len (x : Q5) : (readsI x).length ≤ 1000000000000 := by
  unfold readsI
  split
  · cases rA x.o <;> cases rB x.o <;> simp
  · simp
theorem renc_is' (o d a b i : Int) (C : Bool) (w : World) (i0 : -2147483648 ≤ i) (i1 : i ≤ 2147483647) (h2 : canI ⟨o, d, a, b, i⟩ = C) :
    Calls Tryz.prog 22 #[.agg #[.int .i64 o, .int .i64 d, .int .i64 a, .int .i64 b, .int .i32 i]] w fun e w' => e = .returned (.tuple #[.int .u32 (encI ⟨o, d, a, b, i⟩), .bool C]) ∧ Below w.heap.size w w' := by
  subst h2; exact renc_any o d a b i w i0 i1
theorem ite_own {a : Addr} {k : Nat} (h : (Value.slice (some a) 0 0).ownBlock = some k) : k = a.block := by simp [Value.ownBlock] at h; omega

end Go.Proofs.YtmlhoagcppofgaaGreatDoor

namespace Go.Proofs.YtmlhoagcppofgaaGreatDoor
open Go Go.RowKit Pl
set_option linter.unusedVariables false

/-- where one may go from a word: the places below n -/
def nextN (q : Q5) (i n : Nat) : List Nat := (List.range n).filter (goesQ q i)
def castI (l : List Nat) : List Int := l.map fun (k : Nat) => (k : Int)
theorem nextN_yes {q : Q5} {i n : Nat} (h : goesQ q i n = true) : nextN q i (n + 1) = nextN q i n ++ [n] := by
  unfold nextN; rw [List.range_succ, List.filter_append]; simp [h]
theorem nextN_no {q : Q5} {i n : Nat} (h : goesQ q i n = false) : nextN q i (n + 1) = nextN q i n := by
  unfold nextN; rw [List.range_succ, List.filter_append]; simp [h]
theorem nextN_len (q : Q5) (i n : Nat) : (nextN q i n).length ≤ n := by
  unfold nextN; exact Nat.le_trans (List.length_filter_le _ _) (by simp)
theorem castI_len (l : List Nat) : (castI l).length = l.length := by simp [castI]
theorem castI_put (l : List Nat) (n : Nat) : castI (l ++ [n]) = castI l ++ [(n : Int)] := by simp [castI]

end Go.Proofs.YtmlhoagcppofgaaGreatDoor
