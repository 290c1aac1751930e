/- Package flow: what Next puts; sorting a row of the call's own. -/
import Derived.Test.YtmlhoagcppofgaaGreatDoorHA
import Derived.Test.YtmlhoagcppofgaaGreatDoorShelf
import Derived.Sort.OwnSortedInts
import Derived.RangeFuncBox
import Derived.Deep.QuietTactic
import Derived.BigFrame
import Derived.Deep.LoopGhost
import Derived.Deep.AppendLies
namespace Go.Proofs.YtmlhoagcppofgaaGreatDoor
open Go Go.RowKit Pl
set_option linter.unusedVariables false

theorem grown_refl (W : World) (r : Option Nat) : W.grownBy W r := ⟨rfl, rfl, rfl, Nat.le_refl _, fun _ _ _ => rfl⟩
def sortI (l : List Int) : List Int := l.mergeSort fun x y => decide (x ≤ y)
theorem sort_own {W : World} {base : Nat} {v : Value} {ls : List Int} (own : OwnI W base v ls) (hl : ls.length ≤ 1000) :
    Calls Tryz.prog 33 #[v] W fun e W' => e = .returned (.tuple #[]) ∧ OwnI W' base v (sortI ls) ∧ W.grownBy W' v.ownBlock := by
  have hlt := own.lt
  have own' := own
  obtain ⟨_, ⟨hv, hn⟩ | ⟨g, cap, cur, hv, hg, hh, hc, hcm, hcur, htk⟩⟩ := own
  · have : ls = [] := List.eq_nil_of_length_eq_zero hn
    subst this
    subst hv
    refine (slices_Sort_int_none none 0 W).mono ?_
    rintro e W' ⟨rfl, rfl⟩
    have e0 : sortI [] = [] := by unfold sortI; simp
    rw [e0]
    exact ⟨rfl, own', grown_refl _ _⟩
  · subst hv
    have hls : (sortI ls).length = ls.length := by unfold sortI; exact List.length_mergeSort _
    have htk' : cur.toList.take ls.length = ls.map (Value.int .i64) := by rw [Nat.mul_one] at htk; exact htk
    refine (slices_Sort_int g 0 cap ls W (holds_of_blockI hh htk') (hlt g rfl).2 (by omega)).mono ?_
    rintro e W' ⟨rfl, n, os, rfl⟩
    refine ⟨rfl, ?_, grownBy_sortedI _⟩
    have := ownsRow_sortedI (w := W) (base := base) (g := g) (cap := cap) (n := n) (os := os) (ss := ls) (ts := sortI ls) hls hg hh hc hcm hcur
    unfold OwnI
    rw [hls]
    exact this

def putFl (n : Nat) (k : Int) (ls : List Int) : List Int := if (0 ≤ k ∧ k < n) ∧ ls.contains k = false then ls ++ [k] else ls
structure PutS (N : Nat) (W : World) (ls : List Int) (W' : World) : Prop where
  box : ∃ v, Boxed W' N 60 v ∧ OwnI W' N v ls
  bl : Below N W W'
theorem contains_own {W : World} {base : Nat} {v : Value} {ls : List Int} (own : OwnI W base v ls) (hl : ls.length ≤ 1000) (k : Int) :
    Calls Tryz.prog 30 #[v, .int .i64 k] W fun e W' => e = .returned (.bool (ls.contains k)) ∧ W = W' := by
  have own' := own
  obtain ⟨_, ⟨hv, hn⟩ | ⟨g, cap, cur, hv, hg, hh, hc, hcm, hcur, htk⟩⟩ := own
  · have : ls = [] := List.eq_nil_of_length_eq_zero hn
    subst this
    subst hv
    exact (slices_Contains_int_empty none 0 k W).mono fun _ _ h => ⟨h.1, h.2.symm⟩
  · subst hv
    have := slices_Contains_int g 0 ls.length cap ls k W (Nat.le_refl _) (by omega) (fun j hj => by
      have := own'.cells (g := g) rfl j (iv (ls.getD j 0)) (by simp [iv, List.getD, hj])
      rw [add_at] at this
      exact this)
    rw [List.take_length] at this
    exact this.mono fun _ _ h => ⟨h.1, h.2.symm⟩
theorem int_not_row : (60 : TypeId) ≠ 3 := by decide
set_option maxRecDepth 100000 in
set_option maxHeartbeats 1000000 in
theorem put_any (B N : Nat) (a : Option Addr) (n c : Nat) (k : Int) (ls : List Int) (W : World) (hB : W.cell? ⟨B, 0, none⟩ = some (.slice a n c)) (hn : n ≤ 1000) (hS : ∃ v, Boxed W N 60 v ∧ OwnI W N v ls) (hl : ls.length ≤ 10) :
    Calls Tryz.prog 29 #[.int .i64 k, .pointer (some ⟨B, 0, none⟩), .pointer (some ⟨N, 0, none⟩)] W fun e W' => e = .returned (.tuple #[]) ∧ PutS N W (putFl n k ls) W' := by
  obtain ⟨i0, hi0, hz0, hz1, hz2⟩ := info_parts info_int
  obtain ⟨v, bx, own⟩ := hS
  have cN := bx.cell
  have IP := Lib.hid (fun W => isPlace_any a n c k W hn)
  obtain ⟨av, cv, rfl⟩ := own_formF own
  have CO := Lib.hid (contains_own own (by omega) k)
  have OWN := Lib.hid own
  have BX := Lib.hid bx
  have hN := bx.lt
  clear own bx
  by_cases hp : 0 ≤ k ∧ k < (n : Int)
  · rw [decide_eq_true hp] at IP
    cases hc : ls.contains k
    · have PL := Lib.hid (show putFl n k ls = ls ++ [k] by unfold putFl; rw [if_pos ⟨hp, hc⟩])
      rw [hc] at CO
      clear hp hc
      have E1 := Lib.hid (show ls.length + 1 ≤ maxLen by simp only [maxLen]; omega)
      have E2 := Lib.hid (show (ls.length + 1) * 8 ≤ 140737488355328 by omega)
      have NW2 := news_one W k _ rfl
      have DN := Lib.hid (fun (w1 : World) (v' : Value) (hown : w1.ownsRow N 3 1 v' (ls.length + 1) (ls.map iv ++ [.int .i64 k])) hg => Boxed.appended (tmp := .cells #[.int .i64 k] 3) BX.out int_not_row OWN.out (Nat.le_of_lt hN) (Nat.le_refl N) hown hg)
      go_enter Tryz.func29, Tryz.ntmps29
      go_wp2_with (first | (go_at_call 17; refine (IP.out _).mono ?_; rintro e w3 ⟨rfl, rfl⟩) | (go_at_call 30; refine CO.out.mono ?_; rintro e w3 ⟨rfl, rfl⟩) | (at_builtin; refine wpList_append_own _ rfl (.tmp 13) (.tmp 15) 60 rfl N 3 i0 (.int .i64 0) 1 8 Tryz.underlying60 hi0 hz0 hz1 hz2 rfl (by decide) _ _ _ rfl (OWN.out.alloc _) ⟨_, 0, none⟩ 1 1 [.int .i64 k] rfl rfl NW2 (by simp [Value.oneCell']) E1.out E2.out (by simp; omega) ?_; intro v1 w4 hown hg hn; obtain ⟨g1, c1, rfl⟩ := ownsRow_succ hown; have D := DN.out _ _ hown hg; have d1 := D.1.cell; have d2 := D.1.frozen; have D3 := Lib.hid D; clear D hown hg hn))
      go_end0
      refine ⟨rfl, ⟨_, D3.out.2.1, ?_⟩, D3.out.2.2.2.2⟩
      rw [PL.out]
      unfold OwnI
      rw [List.length_append, List.map_append]
      exact D3.out.2.2.1
    · have PL := Lib.hid (show putFl n k ls = ls by unfold putFl; rw [if_neg (by rw [hc]; simp)])
      rw [hc] at CO
      clear hp hc
      go_enter Tryz.func29, Tryz.ntmps29
      go_wp2_with (first | (go_at_call 17; refine (IP.out _).mono ?_; rintro e w3 ⟨rfl, rfl⟩) | (go_at_call 30; refine CO.out.mono ?_; rintro e w3 ⟨rfl, rfl⟩))
      go_end0
      exact ⟨rfl, ⟨_, BX.out, by rw [PL.out]; exact OWN.out⟩, Below.refl _ _⟩
  · have PL := Lib.hid (show putFl n k ls = ls by unfold putFl; rw [if_neg (fun h => hp h.1)])
    rw [decide_eq_false hp] at IP
    clear hp
    go_enter Tryz.func29, Tryz.ntmps29
    go_wp2_with (first | (go_at_call 17; refine (IP.out _).mono ?_; rintro e w3 ⟨rfl, rfl⟩) | (go_at_call 30; refine CO.out.mono ?_; rintro e w3 ⟨rfl, rfl⟩))
    go_end0
    exact ⟨rfl, ⟨_, BX.out, by rw [PL.out]; exact OWN.out⟩, Below.refl _ _⟩
end Go.Proofs.YtmlhoagcppofgaaGreatDoor

namespace Go.Proofs.YtmlhoagcppofgaaGreatDoor
open Go Go.RowKit Pl
set_option linter.unusedVariables false

/-- what is put, ahead of its being sorted -/
def tgtQ (i n : Nat) (q : Q5) : List Int := if aimO q.o = true ∧ q.i % 4 = 0 then putFl n ((i : Int) + q.i / 4) [] else []
def outQ (i n : Nat) (q : Q5) : List Int := if (decide (q.o ≠ 0) && onO q.o) = true then putFl n ((i : Int) + 1) (tgtQ i n q) else tgtQ i n q
theorem putFl_mem {n : Nat} {k x : Int} {l : List Int} : x ∈ putFl n k l ↔ x ∈ l ∨ (x = k ∧ 0 ≤ k ∧ k < n) := by
  unfold putFl
  by_cases h : (0 ≤ k ∧ k < (n : Int)) ∧ l.contains k = false
  · rw [if_pos h, List.mem_append, List.mem_singleton]
    constructor
    · rintro (g | g)
      · exact .inl g
      · exact .inr ⟨g, h.1⟩
    · rintro (g | g)
      · exact .inl g
      · exact .inr g.1
  · rw [if_neg h]
    constructor
    · exact .inl
    · rintro (g | ⟨rfl, g⟩)
      · exact g
      · cases hc : l.contains x
        · exact absurd ⟨g, hc⟩ h
        · simpa using hc
theorem putFl_nodup {n : Nat} {k : Int} {l : List Int} (h : l.Nodup) : (putFl n k l).Nodup := by
  unfold putFl
  split
  · rename_i g
    rw [List.nodup_append]
    refine ⟨h, by simp, ?_⟩
    intro a ha b hb e
    simp at hb
    subst hb; subst e
    have := g.2
    simp at this
    exact this ha
  · exact h
theorem putFl_len {n : Nat} {k : Int} {l : List Int} : (putFl n k l).length ≤ l.length + 1 := by
  unfold putFl; split <;> simp
theorem outQ_mem (i n : Nat) (q : Q5) (x : Int) : x ∈ outQ i n q ↔ ∃ k : Nat, x = k ∧ k < n ∧ goesQ q i k = true := by
  have ht : x ∈ tgtQ i n q ↔ (aimO q.o = true ∧ q.i % 4 = 0) ∧ x = (i : Int) + q.i / 4 ∧ 0 ≤ (i : Int) + q.i / 4 ∧ (i : Int) + q.i / 4 < n := by
    unfold tgtQ
    by_cases h : aimO q.o = true ∧ q.i % 4 = 0
    · rw [if_pos h, putFl_mem]; simp [h]
    · rw [if_neg h]; simp [h]
  have ho : x ∈ outQ i n q ↔ x ∈ tgtQ i n q ∨ ((decide (q.o ≠ 0) && onO q.o) = true ∧ x = (i : Int) + 1 ∧ 0 ≤ (i : Int) + 1 ∧ (i : Int) + 1 < n) := by
    unfold outQ
    generalize (decide (q.o ≠ 0) && onO q.o) = b
    cases b
    · simp
    · rw [if_pos rfl, putFl_mem]; simp
  rw [ho, ht]
  unfold goesQ aimQ comeQ
  constructor
  · rintro (⟨⟨h1, h2⟩, h3, h4, h5⟩ | ⟨h1, h2, _, h4⟩)
    · refine ⟨((i : Int) + q.i / 4).toNat, by omega, by omega, ?_⟩
      rw [h1, decide_eq_true (show q.i = 4 * ((((i : Int) + q.i / 4).toNat : Int) - i) by omega)]; rfl
    · refine ⟨i + 1, by omega, by omega, ?_⟩
      simp only [Bool.and_eq_true, decide_eq_true_eq] at h1
      rw [decide_eq_true h1.1, h1.2]; simp
  · rintro ⟨k, rfl, hk, h⟩
    simp only [Bool.or_eq_true, Bool.and_eq_true, decide_eq_true_eq] at h
    rcases h with ⟨h1, h2⟩ | ⟨⟨h1, h2⟩, h3⟩
    · exact .inl ⟨⟨h1, by omega⟩, by omega, by omega, by omega⟩
    · refine .inr ⟨by simp only [Bool.and_eq_true, decide_eq_true_eq]; exact ⟨h1, h3⟩, by omega, by omega, by omega⟩
theorem tgtQ_nodup (i n : Nat) (q : Q5) : (tgtQ i n q).Nodup := by
  unfold tgtQ; split
  · exact putFl_nodup (by simp)
  · simp
theorem outQ_nodup (i n : Nat) (q : Q5) : (outQ i n q).Nodup := by
  unfold outQ; split
  · exact putFl_nodup (tgtQ_nodup i n q)
  · exact tgtQ_nodup i n q
theorem own_base {w : World} {b b' n size : Nat} {e : TypeId} {v : Value} {xs : List Value} (h : w.ownsRow b e size v n xs) (hb : b' ≤ b) : w.ownsRow b' e size v n xs := by
  obtain ⟨hl, hh⟩ := h
  refine ⟨hl, ?_⟩
  rcases hh with hn | ⟨g, cap, cur, hv, hg, rest⟩
  · exact .inl hn
  · exact .inr ⟨g, cap, cur, hv, by omega, rest⟩
theorem range_lt : ∀ n : Nat, (List.range n).Pairwise (· < ·) := fun n => List.pairwise_lt_range
theorem next_lt (q : Q5) (i n : Nat) : (castI (nextN q i n)).Pairwise (fun a b => a < b) := by
  unfold castI nextN
  rw [List.pairwise_map]
  exact (List.Pairwise.filter _ (range_lt n)).imp fun h => by omega
theorem le_sort (l : List Int) : (sortI l).Pairwise (fun a b => a ≤ b) := by
  have := List.pairwise_mergeSort (le := fun (x y : Int) => decide (x ≤ y)) (fun a b c h1 h2 => by simp at *; omega) (fun a b => by simp; omega) l
  exact this.imp fun h => by simpa using h
theorem sort_out (i n : Nat) (q : Q5) : sortI (outQ i n q) = castI (nextN q i n) := by
  have nd : (castI (nextN q i n)).Nodup := (next_lt q i n).imp fun h => by omega
  refine List.Perm.eq_of_pairwise (le := fun a b : Int => a ≤ b) (fun a b _ _ h1 h2 => by omega) (le_sort _) ((next_lt q i n).imp fun h => by omega) ?_
  refine (List.mergeSort_perm _ _).trans ?_
  refine (List.perm_ext_iff_of_nodup (outQ_nodup i n q) nd).2 fun x => ?_
  rw [outQ_mem]
  unfold castI nextN
  simp only [List.mem_map, List.mem_filter, List.mem_range]
  constructor
  · rintro ⟨k, rfl, h1, h2⟩; exact ⟨k, ⟨h1, h2⟩, rfl⟩
  · rintro ⟨k, ⟨h1, h2⟩, rfl⟩; exact ⟨k, rfl, h1, h2⟩

set_option maxRecDepth 100000 in
set_option maxHeartbeats 1000000 in
theorem inext_out (a : Option Addr) (c : Nat) (l : List Nat) (i : Int) (w : World) (hi : ¬ (0 ≤ i ∧ i < (l.length : Int))) (hl : l.length ≤ 1000) :
    Calls Tryz.prog 18 #[.slice a l.length c, .int .i64 i] w fun e w' => e = .returned (.tuple #[.slice none 0 0, .bool false]) ∧ Below w.heap.size w w' := by
  have IP := Lib.hid (fun W => isPlace_any a l.length c i W hl)
  rw [decide_eq_false hi] at IP
  clear hi
  go_enter Tryz.func18, Tryz.ntmps18
  go_wp2_with (first | (go_at_call 17; refine (IP.out _).mono ?_; rintro e w3 ⟨rfl, rfl⟩))
  go_ret2
  exact ⟨rfl, by go_grown⟩
set_option maxRecDepth 100000 in
set_option maxHeartbeats 1000000 in
theorem inext_jalr (a : Option Addr) (c : Nat) (l : List Nat) (i : Nat) (w : World) (ht : T3 w) (hw : WordsC w a l c) (hi : i < l.length) (hl : l.length ≤ 1000) (ho : (qAt l i).o = 45) :
    Calls Tryz.prog 18 #[.slice a l.length c, .int .i64 (i : Nat)] w fun e w' => e = .returned (.tuple #[.slice none 0 0, .bool false]) ∧ Below w.heap.size w w' := by
  have IP := Lib.hid (fun W => isPlace_any a l.length c i W hl)
  rw [decide_eq_true (show 0 ≤ (i : Int) ∧ (i : Int) < (l.length : Int) by omega)] at IP
  obtain ⟨b, off, rfl, hbb, hc, hx⟩ := words_cell hw hi
  have hcl := hw.2.1
  have hcm := hw.2.2.1
  have HX := Lib.hid hx
  have HT := Lib.hid ht
  have HO := show (decI ((l.getD i 0 : Nat) : Int)).o = 45 from ho
  clear ho hw hx ht
  generalize l.getD i 0 = X at *
  obtain ⟨o, d, u, v, im, hQ, hok, hm⟩ := dec_gen (X : Int) (by omega) (by have := HX.out; omega)
  rw [hQ] at HO
  have HO' : o = 45 := HO
  subst HO'
  have HQ := Lib.hid hQ
  have HK := Lib.hid hok
  have c2 : (w.alloc (.cells #[.slice (some ⟨b, off, none⟩) l.length c] 22)).cell? ⟨b, off + i, none⟩ = some (.int .u32 (X : Int)) := by rw [World.cell?_alloc_past _ _ _ hbb]; exact hc
  clear hQ hok HO hc
  go_enter Tryz.func18, Tryz.ntmps18
  go_wp2_with (first | (go_at_call 17; refine (IP.out _).mono ?_; rintro e w3 ⟨rfl, rfl⟩) | (go_at_call 28; refine (dec_any _ _ (HT.out.later (by go_grown)) (by omega) (by have := HX.out; omega)).mono ?_; unfold DecP; rw [HQ.out, HK.out]; unfold agg5; rintro e w1 ⟨rfl, hb1⟩))
  go_ret2
  exact ⟨rfl, below_trans (below_trans (by go_grown) hb1) (by go_grown)⟩

/-- Next's own blocks -/
structure NxIs (w : World) (B I N : Nat) (a : Option Addr) (n c : Nat) (o d u v im : Int) (ls : List Int) (W : World) : Prop where
  cB : W.cell? ⟨B, 0, none⟩ = some (.slice a n c)
  c0 : W.cell? ⟨I, 0, none⟩ = some (.int .i64 o)
  c1 : W.cell? ⟨I, 1, none⟩ = some (.int .i64 d)
  c2 : W.cell? ⟨I, 2, none⟩ = some (.int .i64 u)
  c3 : W.cell? ⟨I, 3, none⟩ = some (.int .i64 v)
  c4 : W.cell? ⟨I, 4, none⟩ = some (.int .i32 im)
  bx : ∃ x, Boxed W N 60 x ∧ OwnI W N x ls
  lB : B < N
  lI : I < N
  lw : w.heap.size ≤ N
  bl : Below w.heap.size w W
theorem NxIs.ltN {w W : World} {B I N n c : Nat} {a : Option Addr} {o d u v im : Int} {ls : List Int} (h : NxIs w B I N a n c o d u v im ls W) : N < W.heap.size := by
  obtain ⟨x, hx, _⟩ := h.bx
  exact hx.lt
theorem NxIs.later {w W W' : World} {B I N n c : Nat} {a : Option Addr} {o d u v im : Int} {ls : List Int} (h : NxIs w B I N a n c o d u v im ls W) (hb : Below W.heap.size W W') : NxIs w B I N a n c o d u v im ls W' := by
  have hl := h.ltN
  have hB := h.lB
  have hI := h.lI
  obtain ⟨x, hx, hy⟩ := h.bx
  exact { cB := (hb.cell (p := ⟨B, 0, none⟩) (by show B < _; omega)).trans h.cB, c0 := (hb.cell (p := ⟨I, 0, none⟩) (by show I < _; omega)).trans h.c0, c1 := (hb.cell (p := ⟨I, 1, none⟩) (by show I < _; omega)).trans h.c1, c2 := (hb.cell (p := ⟨I, 2, none⟩) (by show I < _; omega)).trans h.c2, c3 := (hb.cell (p := ⟨I, 3, none⟩) (by show I < _; omega)).trans h.c3, c4 := (hb.cell (p := ⟨I, 4, none⟩) (by show I < _; omega)).trans h.c4, bx := ⟨x, hx.kept (grown_of_below hb none) (by simp), own_later hy hb⟩, lB := hB, lI := hI, lw := h.lw, bl := below_trans h.bl hb }
theorem NxIs.put {w W W' : World} {B I N n c : Nat} {a : Option Addr} {o d u v im : Int} {ls ls' : List Int} (h : NxIs w B I N a n c o d u v im ls W) (hp : PutS N W ls' W') : NxIs w B I N a n c o d u v im ls' W' := by
  have hb := hp.bl
  have hB := h.lB
  have hI := h.lI
  have hw := h.lw
  exact { cB := (hb.cell (p := ⟨B, 0, none⟩) hB).trans h.cB, c0 := (hb.cell (p := ⟨I, 0, none⟩) hI).trans h.c0, c1 := (hb.cell (p := ⟨I, 1, none⟩) hI).trans h.c1, c2 := (hb.cell (p := ⟨I, 2, none⟩) hI).trans h.c2, c3 := (hb.cell (p := ⟨I, 3, none⟩) hI).trans h.c3, c4 := (hb.cell (p := ⟨I, 4, none⟩) hI).trans h.c4, bx := hp.box, lB := hB, lI := hI, lw := hw, bl := h.bl.trans (hb.mono hw) }
theorem NxIs.mk1 {w w1 : World} {a : Option Addr} {n c : Nat} {o d u v im : Int} (hb : Below (w.alloc (.cells #[.slice a n c] 22)).heap.size (w.alloc (.cells #[.slice a n c] 22)) w1) :
    NxIs w w.heap.size w1.heap.size (w1.heap.size + 1) a n c o d u v im [] ((w1.alloc (.cells #[.int .i64 o, .int .i64 d, .int .i64 u, .int .i64 v, .int .i32 im] 34)).alloc (.cells #[.slice none 0 0] 60)) := by
  have hs := hb.size
  simp at hs
  have h1 : w1.cell? ⟨w.heap.size, 0, none⟩ = some (.slice a n c) := (hb.cell (p := ⟨w.heap.size, 0, none⟩) (by simp)).trans (by go_simp)
  refine { cB := ?_, c0 := ?_, c1 := ?_, c2 := ?_, c3 := ?_, c4 := ?_, bx := ⟨.slice none 0 0, ?_, own_nilI _ _⟩, lB := by omega, lI := by omega, lw := by omega, bl := ?_ }
  · rw [World.cell?_alloc_past _ _ _ (by simp; omega), World.cell?_alloc_past _ _ _ (by omega)]; exact h1
  · exact cell_two rfl
  · exact cell_two rfl
  · exact cell_two rfl
  · exact cell_two rfl
  · exact cell_two rfl
  · have := Boxed.new (w1.alloc (.cells #[.int .i64 o, .int .i64 d, .int .i64 u, .int .i64 v, .int .i32 im] 34)) 60 (.slice none 0 0)
    simpa using this
  · exact below_trans (below_trans (by go_grown) hb) (by go_grown)
set_option maxRecDepth 100000 in
set_option maxHeartbeats 1000000 in
theorem inext_any (a : Option Addr) (c : Nat) (l : List Nat) (i : Nat) (w : World) (ht : T3 w) (hw : WordsC w a l c) (hi : i < l.length) (hl : l.length ≤ 1000) (ho : (qAt l i).o ≠ 45) :
    Calls Tryz.prog 18 #[.slice a l.length c, .int .i64 (i : Nat)] w fun e w' => ∃ v, e = .returned (.tuple #[v, .bool true]) ∧ OwnI w' w.heap.size v (castI (nextN (qAt l i) i l.length)) ∧ Below w.heap.size w w' := by
  have IP := Lib.hid (fun W => isPlace_any a l.length c i W hl)
  rw [decide_eq_true (show 0 ≤ (i : Int) ∧ (i : Int) < (l.length : Int) by omega)] at IP
  have SO := Lib.hid (sort_out i l.length (qAt l i))
  obtain ⟨b, off, rfl, hbb, hc, hx⟩ := words_cell hw hi
  have hcl := hw.2.1
  have hcm := hw.2.2.1
  have HX := Lib.hid hx
  have HT := Lib.hid ht
  have QA : qAt l i = decI ((l.getD i 0 : Nat) : Int) := rfl
  rw [← SO.out, QA]
  rw [QA] at ho
  clear SO QA hw hx ht
  generalize l.getD i 0 = X at *
  obtain ⟨o, d, u, v, im, hQ, hok, hm⟩ := dec_gen (X : Int) (by omega) (by have := HX.out; omega)
  rw [hQ] at ho ⊢
  have t45 : (o == 45) = false := by simp; exact ho
  have HQ := Lib.hid hQ
  have c2 : (w.alloc (.cells #[.slice (some ⟨b, off, none⟩) l.length c] 22)).cell? ⟨b, off + i, none⟩ = some (.int .u32 (X : Int)) := by rw [World.cell?_alloc_past _ _ _ hbb]; exact hc
  have u9 := IntWalk.i64_in ((i : Int) + 1) (by omega)
  have MK := Lib.hid (fun w1 => NxIs.mk1 (w := w) (w1 := w1) (a := some ⟨b, off, none⟩) (n := l.length) (c := c) (o := o) (d := d) (u := u) (v := v) (im := im))
  have TGf := Lib.hid (fun (h : ¬ (aimO o = true ∧ im % 4 = 0)) W => target_no i o d u v im W hm.1 hm.2 h)
  have TGt := Lib.hid (fun (h : aimO o = true ∧ im % 4 = 0) W => target_yes i o d u v im ((i : Int) + im / 4) W (by omega) hm.1 hm.2 h.1 h.2 rfl)
  have GO := Lib.hid (fun W => goesOn_any o W)
  have OU := Lib.hid (show outQ i l.length ⟨o, d, u, v, im⟩ = if (decide (o ≠ 0) && onO o) = true then putFl l.length ((i : Int) + 1) (tgtQ i l.length ⟨o, d, u, v, im⟩) else tgtQ i l.length ⟨o, d, u, v, im⟩ from rfl)
  have HP := Lib.hid (fun (B N : Nat) k ls W => put_any B N (some ⟨b, off, none⟩) l.length c k ls W)
  by_cases hT : aimO o = true ∧ im % 4 = 0
  · have TG := Lib.hid (TGt.out hT)
    have TQ := Lib.hid (show tgtQ i l.length ⟨o, d, u, v, im⟩ = putFl l.length ((i : Int) + im / 4) [] by unfold tgtQ; rw [if_pos hT])
    have h0 : o ≠ 0 := by
      intro e
      subst e
      cases hT.1
    have h0d : decide (o ≠ 0) = true := by simp; exact h0
    rw [h0d] at hok
    have HK := Lib.hid hok
    have LN := Lib.hid (putFl_len (n := l.length) (k := (i : Int) + im / 4) (l := []))
    generalize (i : Int) + im / 4 = K at *
    have LN2 := Lib.hid (putFl_len (n := l.length) (k := (i : Int) + 1) (l := putFl l.length K []))
    cases hO : onO o
    · have OQ := Lib.hid (show outQ i l.length ⟨o, d, u, v, im⟩ = putFl l.length K [] by rw [OU.out, h0d, hO, TQ.out]; rfl)
      have LS := Lib.hid (show (putFl l.length K []).length ≤ 1000 by have := LN.out; simp at this; omega)
      rw [OQ.out]
      rw [hO] at GO
      clear OU TQ OQ hO hT h0 hQ hok TGf TGt ho h0d hm hc LN2
      go_enter Tryz.func18, Tryz.ntmps18
      go_wp2_with (first | (go_at_call 17; refine (IP.out _).mono ?_; rintro e w3 ⟨rfl, rfl⟩) | (go_at_call 28; refine (dec_any _ _ (HT.out.later (by go_grown)) (by omega) (by have := HX.out; omega)).mono ?_; unfold DecP; rw [HQ.out, HK.out]; unfold agg5; rintro e w1 ⟨rfl, hb1⟩; have M1 := MK.out _ hb1))
      generalize World.alloc (World.alloc w1 _) _ = W1 at *
      refine (TG.out _).mono ?_
      rintro e w2 ⟨rfl, hb2⟩
      have M2 := M1.later hb2
      clear M1 hb2
      go_wp2_with fail
      refine (HP.out _ _ _ _ _ M2.cB hl M2.bx (by simp)).mono ?_
      rintro e w3 ⟨rfl, hp3⟩
      have M3 := M2.put hp3
      clear M2 hp3
      have c30 := M3.c0
      have M5 := M3
      clear M3
      have LB := M5.lw
      have BL := Lib.hid M5.bl
      obtain ⟨x, bx, own⟩ := M5.bx
      obtain ⟨ax, cx, rfl⟩ := own_formF own
      have cN := bx.cell
      have SR := Lib.hid (sort_own own (LS.out))
      have BX := Lib.hid bx
      have NR := Lib.hid (bx.not_row int_not_row own)
      have VO := Lib.hid own.lt
      clear M5 bx own
      go_wp2_with (first | (go_at_call 32; refine (GO.out _).mono ?_; rintro e w4 ⟨rfl, rfl⟩) | (go_at_call 33; refine SR.out.mono ?_; rintro e w6 ⟨rfl, ow6, hg6⟩; have c6 := (BX.out.kept hg6 NR.out).cell; have OW6 := Lib.hid ow6; have HG6 := Lib.hid hg6; clear ow6 hg6))
      go_ret2
      refine ⟨_, rfl, own_base OW6.out (by omega), below_grownF BL.out HG6.out BL.out.size (fun q hq => by have := (VO.out q hq).1; omega)⟩
    · have OQ := Lib.hid (show outQ i l.length ⟨o, d, u, v, im⟩ = putFl l.length ((i : Int) + 1) (putFl l.length K []) by rw [OU.out, h0d, hO, TQ.out]; rfl)
      have LS := Lib.hid (show (putFl l.length ((i : Int) + 1) (putFl l.length K [])).length ≤ 1000 by have := LN.out; have := LN2.out; simp at *; omega)
      rw [OQ.out]
      rw [hO] at GO
      clear OU TQ OQ hO hT h0 hQ hok TGf TGt ho h0d hm hc LN2
      go_enter Tryz.func18, Tryz.ntmps18
      go_wp2_with (first | (go_at_call 17; refine (IP.out _).mono ?_; rintro e w3 ⟨rfl, rfl⟩) | (go_at_call 28; refine (dec_any _ _ (HT.out.later (by go_grown)) (by omega) (by have := HX.out; omega)).mono ?_; unfold DecP; rw [HQ.out, HK.out]; unfold agg5; rintro e w1 ⟨rfl, hb1⟩; have M1 := MK.out _ hb1))
      generalize World.alloc (World.alloc w1 _) _ = W1 at *
      refine (TG.out _).mono ?_
      rintro e w2 ⟨rfl, hb2⟩
      have M2 := M1.later hb2
      clear M1 hb2
      go_wp2_with fail
      refine (HP.out _ _ _ _ _ M2.cB hl M2.bx (by simp)).mono ?_
      rintro e w3 ⟨rfl, hp3⟩
      have M3 := M2.put hp3
      clear M2 hp3
      have c30 := M3.c0
      go_wp2_with ((go_at_call 32; refine (GO.out _).mono ?_; rintro e w4 ⟨rfl, rfl⟩))
      refine (HP.out _ _ _ _ _ M3.cB hl M3.bx (by first | (simp; done) | (have := LN.out; simp at this ⊢; omega))).mono ?_
      rintro e w5 ⟨rfl, hp5⟩
      have M5 := M3.put hp5
      clear M3 hp5 c30
      have LB := M5.lw
      have BL := Lib.hid M5.bl
      obtain ⟨x, bx, own⟩ := M5.bx
      obtain ⟨ax, cx, rfl⟩ := own_formF own
      have cN := bx.cell
      have SR := Lib.hid (sort_own own (LS.out))
      have BX := Lib.hid bx
      have NR := Lib.hid (bx.not_row int_not_row own)
      have VO := Lib.hid own.lt
      clear M5 bx own
      go_wp2_with (first | (go_at_call 32; refine (GO.out _).mono ?_; rintro e w4 ⟨rfl, rfl⟩) | (go_at_call 33; refine SR.out.mono ?_; rintro e w6 ⟨rfl, ow6, hg6⟩; have c6 := (BX.out.kept hg6 NR.out).cell; have OW6 := Lib.hid ow6; have HG6 := Lib.hid hg6; clear ow6 hg6))
      go_ret2
      refine ⟨_, rfl, own_base OW6.out (by omega), below_grownF BL.out HG6.out BL.out.size (fun q hq => by have := (VO.out q hq).1; omega)⟩
  · have TG := Lib.hid (TGf.out hT)
    have TQ := Lib.hid (show tgtQ i l.length ⟨o, d, u, v, im⟩ = [] by unfold tgtQ; rw [if_neg hT])
    have LN := Lib.hid (show ([] : List Int).length ≤ 1 by simp)
    have LN2 := Lib.hid (putFl_len (n := l.length) (k := (i : Int) + 1) (l := []))
    by_cases h0 : o = 0
    · subst h0
      have HK := Lib.hid (show okI (X : Int) = false from hok)
      have OQ := Lib.hid (show outQ i l.length ⟨0, d, u, v, im⟩ = [] by rw [OU.out, TQ.out]; rfl)
      have LS := Lib.hid (show ([] : List Int).length ≤ 1000 by simp)
      rw [OQ.out]
      clear OU TQ OQ hT hQ hok TGf TGt ho hm hc LN2
      go_enter Tryz.func18, Tryz.ntmps18
      go_wp2_with (first | (go_at_call 17; refine (IP.out _).mono ?_; rintro e w3 ⟨rfl, rfl⟩) | (go_at_call 28; refine (dec_any _ _ (HT.out.later (by go_grown)) (by omega) (by have := HX.out; omega)).mono ?_; unfold DecP; rw [HQ.out, HK.out]; unfold agg5; rintro e w1 ⟨rfl, hb1⟩; have M1 := MK.out _ hb1))
      generalize World.alloc (World.alloc w1 _) _ = W1 at *
      refine (TG.out _).mono ?_
      rintro e w2 ⟨rfl, hb2⟩
      have M2 := M1.later hb2
      clear M1 hb2
      have M3 := M2
      clear M2
      have c30 := M3.c0
      have M5 := M3
      clear M3
      have LB := M5.lw
      have BL := Lib.hid M5.bl
      obtain ⟨x, bx, own⟩ := M5.bx
      obtain ⟨ax, cx, rfl⟩ := own_formF own
      have cN := bx.cell
      have SR := Lib.hid (sort_own own (LS.out))
      have BX := Lib.hid bx
      have NR := Lib.hid (bx.not_row int_not_row own)
      have VO := Lib.hid own.lt
      clear M5 bx own
      go_wp2_with (first | (go_at_call 32; refine (GO.out _).mono ?_; rintro e w4 ⟨rfl, rfl⟩) | (go_at_call 33; refine SR.out.mono ?_; rintro e w6 ⟨rfl, ow6, hg6⟩; have c6 := (BX.out.kept hg6 NR.out).cell; have OW6 := Lib.hid ow6; have HG6 := Lib.hid hg6; clear ow6 hg6))
      go_ret2
      refine ⟨_, rfl, own_base OW6.out (by omega), below_grownF BL.out HG6.out BL.out.size (fun q hq => by have := (VO.out q hq).1; omega)⟩
    · have h0d : decide (o ≠ 0) = true := by simp; exact h0
      rw [h0d] at hok
      have HK := Lib.hid hok
      cases hO : onO o
      · have OQ := Lib.hid (show outQ i l.length ⟨o, d, u, v, im⟩ = [] by rw [OU.out, h0d, hO, TQ.out]; rfl)
        have LS := Lib.hid (show ([] : List Int).length ≤ 1000 by simp)
        rw [OQ.out]
        rw [hO] at GO
        clear OU TQ OQ hO hT h0 hQ hok TGf TGt ho h0d hm hc LN2
        go_enter Tryz.func18, Tryz.ntmps18
        go_wp2_with (first | (go_at_call 17; refine (IP.out _).mono ?_; rintro e w3 ⟨rfl, rfl⟩) | (go_at_call 28; refine (dec_any _ _ (HT.out.later (by go_grown)) (by omega) (by have := HX.out; omega)).mono ?_; unfold DecP; rw [HQ.out, HK.out]; unfold agg5; rintro e w1 ⟨rfl, hb1⟩; have M1 := MK.out _ hb1))
        generalize World.alloc (World.alloc w1 _) _ = W1 at *
        refine (TG.out _).mono ?_
        rintro e w2 ⟨rfl, hb2⟩
        have M2 := M1.later hb2
        clear M1 hb2
        have M3 := M2
        clear M2
        have c30 := M3.c0
        have M5 := M3
        clear M3
        have LB := M5.lw
        have BL := Lib.hid M5.bl
        obtain ⟨x, bx, own⟩ := M5.bx
        obtain ⟨ax, cx, rfl⟩ := own_formF own
        have cN := bx.cell
        have SR := Lib.hid (sort_own own (LS.out))
        have BX := Lib.hid bx
        have NR := Lib.hid (bx.not_row int_not_row own)
        have VO := Lib.hid own.lt
        clear M5 bx own
        go_wp2_with (first | (go_at_call 32; refine (GO.out _).mono ?_; rintro e w4 ⟨rfl, rfl⟩) | (go_at_call 33; refine SR.out.mono ?_; rintro e w6 ⟨rfl, ow6, hg6⟩; have c6 := (BX.out.kept hg6 NR.out).cell; have OW6 := Lib.hid ow6; have HG6 := Lib.hid hg6; clear ow6 hg6))
        go_ret2
        refine ⟨_, rfl, own_base OW6.out (by omega), below_grownF BL.out HG6.out BL.out.size (fun q hq => by have := (VO.out q hq).1; omega)⟩
      · have OQ := Lib.hid (show outQ i l.length ⟨o, d, u, v, im⟩ = putFl l.length ((i : Int) + 1) [] by rw [OU.out, h0d, hO, TQ.out]; rfl)
        have LS := Lib.hid (show (putFl l.length ((i : Int) + 1) []).length ≤ 1000 by have := LN2.out; simp at *; omega)
        rw [OQ.out]
        rw [hO] at GO
        clear OU TQ OQ hO hT h0 hQ hok TGf TGt ho h0d hm hc LN2
        go_enter Tryz.func18, Tryz.ntmps18
        go_wp2_with (first | (go_at_call 17; refine (IP.out _).mono ?_; rintro e w3 ⟨rfl, rfl⟩) | (go_at_call 28; refine (dec_any _ _ (HT.out.later (by go_grown)) (by omega) (by have := HX.out; omega)).mono ?_; unfold DecP; rw [HQ.out, HK.out]; unfold agg5; rintro e w1 ⟨rfl, hb1⟩; have M1 := MK.out _ hb1))
        generalize World.alloc (World.alloc w1 _) _ = W1 at *
        refine (TG.out _).mono ?_
        rintro e w2 ⟨rfl, hb2⟩
        have M2 := M1.later hb2
        clear M1 hb2
        have M3 := M2
        clear M2
        have c30 := M3.c0
        go_wp2_with ((go_at_call 32; refine (GO.out _).mono ?_; rintro e w4 ⟨rfl, rfl⟩))
        refine (HP.out _ _ _ _ _ M3.cB hl M3.bx (by first | (simp; done) | (have := LN.out; simp at this ⊢; omega))).mono ?_
        rintro e w5 ⟨rfl, hp5⟩
        have M5 := M3.put hp5
        clear M3 hp5 c30
        have LB := M5.lw
        have BL := Lib.hid M5.bl
        obtain ⟨x, bx, own⟩ := M5.bx
        obtain ⟨ax, cx, rfl⟩ := own_formF own
        have cN := bx.cell
        have SR := Lib.hid (sort_own own (LS.out))
        have BX := Lib.hid bx
        have NR := Lib.hid (bx.not_row int_not_row own)
        have VO := Lib.hid own.lt
        clear M5 bx own
        go_wp2_with (first | (go_at_call 32; refine (GO.out _).mono ?_; rintro e w4 ⟨rfl, rfl⟩) | (go_at_call 33; refine SR.out.mono ?_; rintro e w6 ⟨rfl, ow6, hg6⟩; have c6 := (BX.out.kept hg6 NR.out).cell; have OW6 := Lib.hid ow6; have HG6 := Lib.hid hg6; clear ow6 hg6))
        go_ret2
        refine ⟨_, rfl, own_base OW6.out (by omega), below_grownF BL.out HG6.out BL.out.size (fun q hq => by have := (VO.out q hq).1; omega)⟩
end Go.Proofs.YtmlhoagcppofgaaGreatDoor

namespace Go.Proofs.YtmlhoagcppofgaaGreatDoor
set_option linter.unusedVariables false

/-- one comes from s to a place, over g, among n -/
inductive Rch (g : Nat → Nat → Bool) (n s : Nat) : Nat → Prop
  | base : s < n → Rch g n s s
  | step {a b : Nat} : Rch g n s a → g a b = true → b < n → Rch g n s b
def cntS (S : Nat → Bool) : Nat → Nat
  | 0 => 0
  | n + 1 => cntS S n + (if S n then 1 else 0)
theorem cntS_le (S : Nat → Bool) (n : Nat) : cntS S n ≤ n := by
  induction n with
  | zero => exact Nat.le_refl _
  | succ n ih =>
    show cntS S n + (if S n then 1 else 0) ≤ n + 1
    split <;> omega
theorem cntS_mono {S T : Nat → Bool} {n : Nat} (h : ∀ j, j < n → S j = true → T j = true) : cntS S n ≤ cntS T n := by
  induction n with
  | zero => exact Nat.le_refl _
  | succ n ih =>
    have a := ih fun j hj => h j (by omega)
    have b := h n (by omega)
    show cntS S n + (if S n then 1 else 0) ≤ cntS T n + (if T n then 1 else 0)
    cases hs : S n
    · simp; omega
    · rw [b hs]; simp; omega
theorem cntS_more {S T : Nat → Bool} {n j : Nat} (h : ∀ j, j < n → S j = true → T j = true) (hj : j < n) (h1 : S j = false) (h2 : T j = true) : cntS S n + 1 ≤ cntS T n := by
  induction n with
  | zero => omega
  | succ n ih =>
    show cntS S n + (if S n then 1 else 0) + 1 ≤ cntS T n + (if T n then 1 else 0)
    by_cases e : j = n
    · subst e
      have a := cntS_mono (n := j) fun k hk => h k (by omega)
      rw [h1, h2]; simp; omega
    · have a := ih (fun k hk => h k (by omega)) (by omega)
      have b := h n (by omega)
      cases hs : S n
      · simp; omega
      · rw [b hs]; simp; omega
theorem cntS_congr {S T : Nat → Bool} {n : Nat} (h : ∀ j, j < n → S j = T j) : cntS S n = cntS T n := by
  have a := cntS_mono (S := S) (T := T) (n := n) fun j hj e => by rw [← h j hj]; exact e
  have b := cntS_mono (S := T) (T := S) (n := n) fun j hj e => by rw [h j hj]; exact e
  omega
theorem cntS_one {s n : Nat} (hs : s < n) : 1 ≤ cntS (fun j => decide (j = s)) n := by
  have := cntS_more (S := fun _ => false) (T := fun j => decide (j = s)) (n := n) (j := s) (by simp) hs rfl (by simp)
  omega
/-- set one more -/
def setS (S : Nat → Bool) (k : Nat) : Nat → Bool := fun j => S j || decide (j = k)
theorem setS_ge (S : Nat → Bool) (k j : Nat) (h : S j = true) : setS S k j = true := by unfold setS; rw [h]; rfl
theorem setS_at (S : Nat → Bool) (k : Nat) : setS S k k = true := by simp [setS]
theorem cntS_set {S : Nat → Bool} {n k : Nat} (hk : k < n) (h : S k = false) : cntS S n + 1 ≤ cntS (setS S k) n :=
  cntS_more (fun j _ => setS_ge S k j) hk h (setS_at S k)
def soundS (g : Nat → Nat → Bool) (n s : Nat) (S : Nat → Bool) : Prop := ∀ j, j < n → S j = true → Rch g n s j
def closedS (g : Nat → Nat → Bool) (n : Nat) (S : Nat → Bool) : Prop := ∀ a b, a < n → b < n → S a = true → g a b = true → S b = true
theorem rch_lt {g : Nat → Nat → Bool} {n s j : Nat} (h : Rch g n s j) : j < n := by
  cases h with
  | base h => exact h
  | step _ _ h => exact h
theorem rch_in {g : Nat → Nat → Bool} {n s : Nat} {S : Nat → Bool} (hs : S s = true) (hc : closedS g n S) {j : Nat} (h : Rch g n s j) : S j = true := by
  induction h with
  | base _ => exact hs
  | step h1 h2 h3 ih => exact hc _ _ (rch_lt h1) h3 ih h2
/-- the document's rounds -/
structure RInv (g : Nat → Nat → Bool) (n s m : Nat) (S : Nat → Bool) : Prop where
  at0 : S s = true
  snd : soundS g n s S
  cls : closedS g n S ∨ m + 1 ≤ cntS S n
theorem rinv_begin {g : Nat → Nat → Bool} {n s : Nat} (hs : s < n) : RInv g n s 0 (fun j => decide (j = s)) :=
  ⟨by simp, fun j _ h => by simp at h; subst h; exact .base hs, .inr (cntS_one hs)⟩
theorem rinv_next {g : Nat → Nat → Bool} {n s m : Nat} {S T : Nat → Bool} (h : RInv g n s m S) (hge : ∀ j, j < n → S j = true → T j = true) (hs : s < n) (hT : soundS g n s T) (hstep : ∀ a b, a < n → b < n → g a b = true → S a = true → T b = true) : RInv g n s (m + 1) T := by
  refine ⟨hge s hs h.at0, hT, ?_⟩
  by_cases e : ∀ j, j < n → T j = true → S j = true
  · exact .inl fun a b ha hb hta hg => hstep a b ha hb hg (e a ha hta)
  · have ⟨j, hj⟩ := Classical.not_forall.1 e
    have ⟨hjn, hj⟩ := Classical.not_imp.1 hj
    have ⟨hjT, hjS⟩ := Classical.not_imp.1 hj
    have hjS' : S j = false := by cases hx : S j; rfl; exact absurd hx hjS
    rcases h.cls with hc | hc
    · exact absurd (rch_in h.at0 hc (hT j hjn hjT)) hjS
    · have := cntS_more hge hjn hjS' hjT
      exact .inr (by omega)
theorem rinv_end {g : Nat → Nat → Bool} {n s : Nat} {S : Nat → Bool} (h : RInv g n s n S) : closedS g n S := by
  rcases h.cls with hc | hc
  · exact hc
  · have := cntS_le S n; omega
/-- whatever is sound, closed, and has the first one is the same -/
theorem rch_same {g : Nat → Nat → Bool} {n s : Nat} {S T : Nat → Bool} (hs : S s = true) (h1 : soundS g n s S) (h2 : closedS g n S) (ht : T s = true) (h3 : soundS g n s T) (h4 : closedS g n T) {j : Nat} (hj : j < n) : S j = T j := by
  cases a : S j <;> cases b : T j
  · rfl
  · have := rch_in hs h2 (h3 j hj b); rw [a] at this; cases this
  · have := rch_in ht h4 (h1 j hj a); rw [b] at this; cases this
  · rfl
/-- the stack's rounds: what is open, and of the one that is done just now the first k of what it goes to -/
structure SInv (g : Nat → Nat → Bool) (n s : Nat) (S : Nat → Bool) (O : List Nat) : Prop where
  at0 : S s = true
  snd : soundS g n s S
  opn : ∀ a, a ∈ O → a < n ∧ S a = true
  don : ∀ a b, a < n → b < n → S a = true → a ∉ O → g a b = true → S b = true
structure SMid (g : Nat → Nat → Bool) (n s i : Nat) (L : List Nat) (S : Nat → Bool) (O : List Nat) : Prop where
  at0 : S s = true
  snd : soundS g n s S
  opn : ∀ a, a ∈ O → a < n ∧ S a = true
  ii : i < n ∧ S i = true
  got : ∀ b, b ∈ L → b < n → S b = true
  don : ∀ a b, a < n → b < n → S a = true → a ∉ O → a ≠ i → g a b = true → S b = true
theorem SInv.pop {g : Nat → Nat → Bool} {n s i : Nat} {S : Nat → Bool} {O : List Nat} (h : SInv g n s S (O ++ [i])) : SMid g n s i [] S O := by
  refine ⟨h.at0, h.snd, fun a ha => h.opn a (by simp [ha]), h.opn i (by simp), by simp, fun a b ha hb h1 h2 h3 h4 => h.don a b ha hb h1 ?_ h4⟩
  simp [h2, h3]
theorem SMid.old {g : Nat → Nat → Bool} {n s i b : Nat} {L : List Nat} {S : Nat → Bool} {O : List Nat} (h : SMid g n s i L S O) (hb : b < n → S b = true) : SMid g n s i (L ++ [b]) S O := by
  refine ⟨h.at0, h.snd, h.opn, h.ii, fun c hc hn => ?_, h.don⟩
  rw [List.mem_append, List.mem_singleton] at hc
  rcases hc with hc | rfl
  · exact h.got c hc hn
  · exact hb hn
theorem SMid.new {g : Nat → Nat → Bool} {n s i b : Nat} {L : List Nat} {S : Nat → Bool} {O : List Nat} (h : SMid g n s i L S O) (hb : b < n) (hg : g i b = true) : SMid g n s i (L ++ [b]) (setS S b) (O ++ [b]) := by
  have hR : Rch g n s b := .step (h.snd i h.ii.1 h.ii.2) hg hb
  refine ⟨setS_ge _ _ _ h.at0, fun j hj hs => ?_, fun a ha => ?_, ⟨h.ii.1, setS_ge _ _ _ h.ii.2⟩, fun c hc hn => ?_, fun a c ha hc h1 h2 h3 h4 => ?_⟩
  · unfold setS at hs
    rw [Bool.or_eq_true, decide_eq_true_eq] at hs
    rcases hs with hs | rfl
    · exact h.snd j hj hs
    · exact hR
  · rw [List.mem_append, List.mem_singleton] at ha
    rcases ha with ha | rfl
    · exact ⟨(h.opn a ha).1, setS_ge _ _ _ (h.opn a ha).2⟩
    · exact ⟨hb, setS_at _ _⟩
  · rw [List.mem_append, List.mem_singleton] at hc
    rcases hc with hc | rfl
    · exact setS_ge _ _ _ (h.got c hc hn)
    · exact setS_at _ _
  · rw [List.mem_append, List.mem_singleton, not_or] at h2
    unfold setS at h1
    rw [Bool.or_eq_true, decide_eq_true_eq] at h1
    rcases h1 with h1 | h1
    · exact setS_ge _ _ _ (h.don a c ha hc h1 h2.1 h3 h4)
    · exact absurd h1 h2.2
theorem SMid.done {g : Nat → Nat → Bool} {n s i : Nat} {L : List Nat} {S : Nat → Bool} {O : List Nat} (h : SMid g n s i L S O) (hL : ∀ b, b < n → g i b = true → b ∈ L) : SInv g n s S O := by
  refine ⟨h.at0, h.snd, h.opn, fun a b ha hb h1 h2 h3 => ?_⟩
  by_cases e : a = i
  · subst e; exact h.got b (hL b hb h3) hb
  · exact h.don a b ha hb h1 h2 e h3
theorem sinv_begin {g : Nat → Nat → Bool} {n s : Nat} (hs : s < n) : SInv g n s (setS (fun _ => false) s) [s] := by
  refine ⟨setS_at _ _, fun j _ h => ?_, fun a ha => ?_, fun a b ha hb h1 h2 _ => ?_⟩
  · simp [setS] at h; subst h; exact .base hs
  · simp at ha; subst ha; exact ⟨hs, setS_at _ _⟩
  · simp [setS] at h1; simp at h2; exact absurd h1 h2
theorem sinv_end {g : Nat → Nat → Bool} {n s : Nat} {S : Nat → Bool} (h : SInv g n s S []) : closedS g n S := fun a b ha hb h1 h2 => h.don a b ha hb h1 (by simp) h2
end Go.Proofs.YtmlhoagcppofgaaGreatDoor

namespace Go.Proofs.YtmlhoagcppofgaaGreatDoor
open Go Go.RowKit Pl
set_option linter.unusedVariables false

theorem info_boolF : (Tryz.prog.info? 4).map (fun i => (i.zero, i.size, i.bytes)) = some (some (.bool false), 1, 1) := by kernel_rfl
def rowB (S : Nat → Bool) (n : Nat) : List Value := (List.range n).map fun j => .bool (S j)
theorem rowB_len (S : Nat → Bool) (n : Nat) : (rowB S n).length = n := by simp [rowB]
theorem rowB_at {S : Nat → Bool} {n j : Nat} (h : j < n) : (rowB S n)[j]? = some (.bool (S j)) := by simp [rowB, h]
theorem rowB_set {S : Nat → Bool} {n k : Nat} : (rowB S n).set k (.bool true) = rowB (setS S k) n := by
  apply List.ext_getElem?
  intro i
  rcases Nat.lt_or_ge i n with hi | hi
  · rw [List.getElem?_set, rowB_at hi, rowB_at hi, rowB_len]
    unfold setS
    by_cases e : k = i
    · subst e; simp [hi]
    · have e' : ¬ i = k := fun h => e h.symm
      simp [e, e']
  · rw [List.getElem?_eq_none (by simp [rowB]; omega), List.getElem?_eq_none (by simp [rowB]; omega)]
theorem rowB_congr {S T : Nat → Bool} {n : Nat} (h : ∀ j, j < n → S j = T j) : rowB S n = rowB T n := by
  apply List.ext_getElem?
  intro i
  rcases Nat.lt_or_ge i n with hi | hi
  · rw [rowB_at hi, rowB_at hi, h i hi]
  · rw [List.getElem?_eq_none (by simp [rowB]; omega), List.getElem?_eq_none (by simp [rowB]; omega)]
theorem made_rowB (n : Nat) : (madeCells #[Value.bool false] n).toList = rowB (fun _ => false) n := by
  apply List.ext_getElem
  · simp [madeCells, rowB]
  · intro i h1 h2
    simp [madeCells, rowB, Nat.mod_one]
def gQ (l : List Nat) (i k : Nat) : Bool := goesQ (qAt l i) i k
/-- a row of bools: where it lies -/
def BAt (w : World) (a : Option Addr) (S : Nat → Bool) (n : Nat) : Prop := ∃ b, a = some ⟨b, 0, none⟩ ∧ b < w.heap.size ∧ ∀ j, j < n → w.cell? ⟨b, j, none⟩ = some (.bool (S j))
theorem row_at {w : World} {base g n : Nat} {S : Nat → Bool} (h : w.ownsRow base 4 1 (.slice (some ⟨g, 0, none⟩) n n) n (rowB S n)) : BAt w (some ⟨g, 0, none⟩) S n := by
  refine ⟨g, rfl, (h.lt g rfl).2, fun j hj => ?_⟩
  have := h.cells (g := g) rfl j _ (rowB_at hj)
  have e : (⟨g, 0, none⟩ : Addr).add j = ⟨g, j, none⟩ := by unfold Addr.add; split <;> simp_all
  rwa [e] at this

/-- within a round of the document's -/
structure RMid (l : List Nat) (s m p : Nat) (S0 S : Nat → Bool) : Prop where
  inv : RInv (gQ l) l.length s m S0
  ge : ∀ j, j < l.length → S0 j = true → S j = true
  snd : soundS (gQ l) l.length s S
  dn : ∀ q, q < p → gQ l (q / l.length) (q % l.length) = true → S0 (q / l.length) = true → S (q % l.length) = true
theorem RMid.no {l : List Nat} {s m p : Nat} {S0 S : Nat → Bool} (h : RMid l s m p S0 S) (hn : ¬ (gQ l (p / l.length) (p % l.length) = true ∧ S (p / l.length) = true)) (hp : p / l.length < l.length) : RMid l s m (p + 1) S0 S := by
  refine ⟨h.inv, h.ge, h.snd, fun q hq h1 h2 => ?_⟩
  by_cases e : q = p
  · subst e; exact absurd ⟨h1, h.ge _ hp h2⟩ hn
  · exact h.dn q (by omega) h1 h2
theorem RMid.yes {l : List Nat} {s m p : Nat} {S0 S : Nat → Bool} (h : RMid l s m p S0 S) (h1 : gQ l (p / l.length) (p % l.length) = true) (h2 : S (p / l.length) = true) (hp : p / l.length < l.length) (hb : p % l.length < l.length) : RMid l s m (p + 1) S0 (setS S (p % l.length)) := by
  refine ⟨h.inv, fun j hj e => setS_ge _ _ _ (h.ge j hj e), fun j hj e => ?_, fun q hq g1 g2 => ?_⟩
  · unfold setS at e
    rw [Bool.or_eq_true, decide_eq_true_eq] at e
    rcases e with e | e
    · exact h.snd j hj e
    · subst e; exact .step (h.snd _ hp h2) h1 hb
  · by_cases e : q = p
    · subst e; exact setS_at _ _
    · exact setS_ge _ _ _ (h.dn q (by omega) g1 g2)
theorem RMid.done {l : List Nat} {s m : Nat} {S0 S : Nat → Bool} (h : RMid l s m (l.length * l.length) S0 S) (hs : s < l.length) : RInv (gQ l) l.length s (m + 1) S := by
  refine rinv_next h.inv h.ge hs h.snd fun a b ha hb hg h0 => ?_
  have e1 : (a * l.length + b) / l.length = a := by
    rw [Nat.mul_comm, Nat.mul_add_div (by omega), Nat.div_eq_of_lt hb]; rfl
  have e2 : (a * l.length + b) % l.length = b := by
    rw [Nat.mul_comm, Nat.mul_add_mod, Nat.mod_eq_of_lt hb]
  have hq : a * l.length + b < l.length * l.length := by
    have : (a + 1) * l.length ≤ l.length * l.length := Nat.mul_le_mul_right _ ha
    rw [Nat.add_mul] at this
    omega
  have := h.dn _ hq
  rw [e1, e2] at this
  exact this hg h0
end Go.Proofs.YtmlhoagcppofgaaGreatDoor

namespace Go.Proofs.YtmlhoagcppofgaaGreatDoor
open Go Go.RowKit Pl
set_option linter.unusedVariables false

theorem own_under {m : Nat} {w w' : World} {base n size : Nat} {e : TypeId} {v : Value} {xs : List Value} (h : w.ownsRow base e size v n xs) (hv : ∀ k, v.ownBlock = some k → k < m) (hb : Below m w w') : w'.ownsRow base e size v n xs := by
  obtain ⟨hl, hh⟩ := h
  refine ⟨hl, ?_⟩
  rcases hh with hn | ⟨g, cap, cur, hv', hg, hheap, rest⟩
  · exact .inl hn
  · exact .inr ⟨g, cap, cur, hv', hg, (hb.block g (hv g (by rw [hv']; rfl))).trans hheap, rest⟩
/-- Reach's own blocks -/
structure RcIs (w : World) (B R A O : Nat) (a : Option Addr) (n c : Nat) (S : Nat → Bool) (L : List Nat) (W : World) : Prop where
  cB : W.cell? ⟨B, 0, none⟩ = some (.slice a n c)
  cA : W.cell? ⟨A, 0, none⟩ = some (.slice (some ⟨R, 0, none⟩) n n)
  row : W.ownsRow w.heap.size 4 1 (.slice (some ⟨R, 0, none⟩) n n) n (rowB S n)
  bx : ∃ x, Boxed W O 60 x ∧ OwnI W O x (castI L)
  lB : w.heap.size ≤ B
  lR : B < R
  lA : R < A
  lO : A < O
  bl : Below w.heap.size w W
theorem RcIs.ltO {w W : World} {B R A O n c : Nat} {a : Option Addr} {S : Nat → Bool} {L : List Nat} (h : RcIs w B R A O a n c S L W) : O < W.heap.size := by
  obtain ⟨x, hx, _⟩ := h.bx
  exact hx.lt
theorem RcIs.later {w W W' : World} {B R A O n c : Nat} {a : Option Addr} {S : Nat → Bool} {L : List Nat} (h : RcIs w B R A O a n c S L W) (hb : Below W.heap.size W W') : RcIs w B R A O a n c S L W' := by
  have hl := h.ltO
  have h1 := h.lB
  have h2 := h.lR
  have h3 := h.lA
  have h4 := h.lO
  obtain ⟨x, hx, hy⟩ := h.bx
  exact { cB := (hb.cell (p := ⟨B, 0, none⟩) (by show B < _; omega)).trans h.cB, cA := (hb.cell (p := ⟨A, 0, none⟩) (by show A < _; omega)).trans h.cA, row := own_laterF h.row hb, bx := ⟨x, hx.kept (grown_of_below hb none) (by simp), own_later hy hb⟩, lB := h1, lR := h2, lA := h3, lO := h4, bl := below_trans h.bl hb }
/-- the world turned at the open ones' box and above alone -/
theorem RcIs.opened {w W W' : World} {B R A O n c : Nat} {a : Option Addr} {S : Nat → Bool} {L L' : List Nat} (h : RcIs w B R A O a n c S L W) (hb : Below O W W') (hx : ∃ x, Boxed W' O 60 x ∧ OwnI W' O x (castI L')) : RcIs w B R A O a n c S L' W' := by
  have h1 := h.lB
  have h2 := h.lR
  have h3 := h.lA
  have h4 := h.lO
  exact { cB := (hb.cell (p := ⟨B, 0, none⟩) (by show B < _; omega)).trans h.cB, cA := (hb.cell (p := ⟨A, 0, none⟩) (by show A < _; omega)).trans h.cA, row := own_under h.row (fun k hk => by cases hk; show R < O; omega) hb, bx := hx, lB := h1, lR := h2, lA := h3, lO := h4, bl := h.bl.trans (hb.mono (by omega)) }
theorem RcIs.set {w W : World} {B R A O n c : Nat} {a : Option Addr} {S : Nat → Bool} {L : List Nat} (h : RcIs w B R A O a n c S L W) (k : Nat) : RcIs w B R A O a n c (setS S k) L (W.setCell ⟨R, k, none⟩ (.bool true)) := by
  have h1 := h.lB
  have h2 := h.lR
  have h3 := h.lA
  have h4 := h.lO
  obtain ⟨x, hx, hy⟩ := h.bx
  have st := h.row.stored k (.bool true)
  have nR : some O ≠ some R := by intro e; have := Option.some.inj e; omega
  refine { cB := ?_, cA := ?_, row := by rw [← rowB_set]; exact st.1, bx := ⟨x, hx.kept st.2 nR, ?_⟩, lB := h1, lR := h2, lA := h3, lO := h4, bl := h.bl.setCell (p := ⟨R, k, none⟩) (by show w.heap.size ≤ R; omega) _ }
  · exact st.2.cell h.cB (by intro e; have := Option.some.inj e; simp at this; omega)
  · exact st.2.cell h.cA (by intro e; have := Option.some.inj e; simp at this; omega)
  · refine hy.kept st.2 ?_
    cases hq : x.ownBlock with
    | none => exact .inl rfl
    | some q =>
      have := (hy.lt q hq).1
      exact .inr (by intro e; have := Option.some.inj e; omega)
set_option maxRecDepth 100000 in
set_option maxHeartbeats 1000000 in
theorem come_old {w W : World} {B R A O n c : Nat} {a : Option Addr} {S : Nat → Bool} {L : List Nat} (k : Int) (h : RcIs w B R A O a n c S L W) (hn : n ≤ 1000) (hk : ∀ j : Nat, k = j → j < n → S j = true) :
    Calls Tryz.prog 16 #[.int .i64 k, .pointer (some ⟨B, 0, none⟩), .pointer (some ⟨A, 0, none⟩), .pointer (some ⟨O, 0, none⟩)] W fun e W' => e = .returned (.tuple #[]) ∧ W = W' := by
  have cB := h.cB
  have cA := h.cA
  have IP := Lib.hid (fun W => isPlace_any a n c k W hn)
  by_cases hp : 0 ≤ k ∧ k < (n : Int)
  · obtain ⟨j, rfl⟩ : ∃ j : Nat, k = j := ⟨k.toNat, by omega⟩
    rw [decide_eq_true hp] at IP
    have hj : j < n := by omega
    have cJ := (h.row.cellAt j (by omega)).trans (rowB_at hj)
    rw [hk j rfl hj] at cJ
    clear hp h hk
    go_enter Tryz.func16, Tryz.ntmps16
    go_wp2_with (first | (go_at_call 17; refine (IP.out _).mono ?_; rintro e w3 ⟨rfl, rfl⟩))
    go_end0
    exact ⟨rfl, rfl⟩
  · rw [decide_eq_false hp] at IP
    clear hp h hk
    go_enter Tryz.func16, Tryz.ntmps16
    go_wp2_with (first | (go_at_call 17; refine (IP.out _).mono ?_; rintro e w3 ⟨rfl, rfl⟩))
    go_end0
    exact ⟨rfl, rfl⟩
/-- the open ones do not lie in a block -/
def FreeOf (W : World) (O G : Nat) : Prop := ∀ x, W.cell? ⟨O, 0, none⟩ = some x → x.ownBlock ≠ some G
set_option maxRecDepth 100000 in
set_option maxHeartbeats 1000000 in
theorem come_new {w W : World} {B R A O n c : Nat} {a : Option Addr} {S : Nat → Bool} {L : List Nat} (k : Nat) (h : RcIs w B R A O a n c S L W) (hn : n ≤ 1000) (hk : k < n) (hs : S k = false) (hL : L.length ≤ 1000) :
    Calls Tryz.prog 16 #[.int .i64 (k : Nat), .pointer (some ⟨B, 0, none⟩), .pointer (some ⟨A, 0, none⟩), .pointer (some ⟨O, 0, none⟩)] W fun e W' => e = .returned (.tuple #[]) ∧ RcIs w B R A O a n c (setS S k) (L ++ [k]) W' ∧ W.heap.size ≤ W'.heap.size ∧ ∀ G, G < W.heap.size → G ≠ R → G ≠ O → FreeOf W O G → W'.heap[G]? = W.heap[G]? ∧ FreeOf W' O G := by
  obtain ⟨i0, hi0, hz0, hz1, hz2⟩ := info_parts info_int
  have cB := h.cB
  have cA := h.cA
  have IP := Lib.hid (fun W => isPlace_any a n c k W hn)
  rw [decide_eq_true (show 0 ≤ (k : Int) ∧ (k : Int) < (n : Int) by omega)] at IP
  have cJ := (h.row.cellAt k (by omega)).trans (rowB_at hk)
  rw [hs] at cJ
  have fz := h.row.frozenAt k
  have h2 := h.set k
  have HS := Lib.hid h2
  obtain ⟨x, bx, own⟩ := h2.bx
  obtain ⟨ax, cx, rfl⟩ := own_formF own
  have cO := bx.cell
  have hO := bx.lt
  have EL : (castI L).length = L.length := castI_len L
  have E1 := Lib.hid (show (castI L).length + 1 ≤ maxLen by rw [EL]; simp only [maxLen]; omega)
  have E2 := Lib.hid (show ((castI L).length + 1) * 8 ≤ 140737488355328 by rw [EL]; omega)
  have NW2 := news_one (W.setCell ⟨R, k, none⟩ (.bool true)) (k : Int) W.heap.size (by simp)
  have OWN := Lib.hid own
  have hO2 : O < W.heap.size := by simpa using hO
  have hRO : R < O := Nat.lt_trans h.lA h.lO
  have DN := Lib.hid (fun (w1 : World) (v' : Value) (hown : w1.ownsRow O 3 1 v' ((castI L).length + 1) ((castI L).map iv ++ [.int .i64 (k : Int)])) hg => Boxed.appended (tmp := .cells #[.int .i64 (k : Int)] 3) bx int_not_row own (Nat.le_of_lt hO) (Nat.le_refl O) hown hg)
  have FR := Lib.hid (fun (w1 : World) (g1 c1 : Nat) (hg : ((W.setCell ⟨R, k, none⟩ (.bool true)).alloc (.cells #[.int .i64 (k : Int)] 3)).grownBy w1 (Value.slice ax (castI L).length cx).ownBlock) (hb : Boxed (w1.setCell ⟨O, 0, none⟩ (.slice (some ⟨g1, 0, none⟩) ((castI L).length + 1) c1)) O 60 (.slice (some ⟨g1, 0, none⟩) ((castI L).length + 1) c1)) (hl : (Value.slice ax (castI L).length cx).ownBlock = some g1 ∨ g1 = W.heap.size + 1) =>
    show ∀ G, G < W.heap.size → G ≠ R → G ≠ O → FreeOf W O G → (w1.setCell ⟨O, 0, none⟩ (.slice (some ⟨g1, 0, none⟩) ((castI L).length + 1) c1)).heap[G]? = W.heap[G]? ∧ FreeOf (w1.setCell ⟨O, 0, none⟩ (.slice (some ⟨g1, 0, none⟩) ((castI L).length + 1) c1)) O G from fun G hG nR nO hf => by
      have cOW : W.cell? ⟨O, 0, none⟩ = some (.slice ax (castI L).length cx) := by
        have h1 : (W.setCell ⟨R, k, none⟩ (.bool true)).heap[O]? = W.heap[O]? := Below.heap_setCell W ⟨R, k, none⟩ (.bool true) O (by show O ≠ R; omega)
        have := cO
        unfold World.cell? at this ⊢
        rw [h1] at this
        exact this
      have nf := hf _ cOW
      constructor
      · have h1 : (w1.setCell ⟨O, 0, none⟩ (.slice (some ⟨g1, 0, none⟩) ((castI L).length + 1) c1)).heap[G]? = w1.heap[G]? := Below.heap_setCell w1 ⟨O, 0, none⟩ _ G (by show G ≠ O; omega)
        have h2 := hg.block G (by simp; omega) (fun e => nf e.symm)
        have h3 : ((W.setCell ⟨R, k, none⟩ (.bool true)).alloc (.cells #[.int .i64 (k : Int)] 3)).heap[G]? = (W.setCell ⟨R, k, none⟩ (.bool true)).heap[G]? := Below.heap_alloc _ _ _ (by simp; omega)
        have h4 : (W.setCell ⟨R, k, none⟩ (.bool true)).heap[G]? = W.heap[G]? := Below.heap_setCell W ⟨R, k, none⟩ (.bool true) G (by show G ≠ R; omega)
        rw [h1, h2, h3, h4]
      · intro x hx e
        rw [hb.cell] at hx
        cases hx
        have e' : g1 = G := by simpa [Value.ownBlock] using e
        rcases hl with hl | hl
        · rw [e'] at hl; exact nf hl
        · omega)
  clear h h2 bx own hs EL hO
  go_enter Tryz.func16, Tryz.ntmps16
  go_wp2_with (first | (go_at_call 17; refine (IP.out _).mono ?_; rintro e w3 ⟨rfl, rfl⟩) | (at_builtin; refine wpList_append_lies _ rfl (.tmp 18) (.tmp 20) 60 rfl O 3 i0 (.int .i64 0) 1 8 Tryz.underlying60 hi0 hz0 hz1 hz2 rfl (by decide) _ _ _ rfl (OWN.out.alloc _) ⟨_, 0, none⟩ 1 1 [.int .i64 (k : Int)] rfl rfl NW2 (by simp [Value.oneCell']) (by decide) E1.out E2.out (by simp; omega) (W.heap.size + 1) (by simp) ?_; intro g1 c1 w4 hown hg hli hlt; have D := DN.out _ _ hown hg; have d1 := D.1.cell; have d2 := D.1.frozen; have D3 := Lib.hid (And.intro D (FR.out w4 g1 c1 hg D.2.1 hli)); clear D hown hg hli))
  go_end0
  refine ⟨rfl, HS.out.opened D3.out.1.2.2.2.2 ⟨_, D3.out.1.2.1, ?_⟩, by have := D3.out.1.2.2.2.2.size; simpa using this, D3.out.2⟩
  rw [castI_put]
  unfold OwnI
  rw [List.length_append, List.map_append]
  exact D3.out.1.2.2.1
end Go.Proofs.YtmlhoagcppofgaaGreatDoor

namespace Go.Proofs.YtmlhoagcppofgaaGreatDoor
open Go Go.RowKit Pl
set_option linter.unusedVariables false

theorem own_shrinkF {w : World} {base g n cap : Nat} {e : TypeId} {xs : List Value} (h : w.ownsRow base e 1 (.slice (some ⟨g, 0, none⟩) (n + 1) cap) (n + 1) xs) :
    w.ownsRow base e 1 (.slice (some ⟨g, 0, none⟩) n cap) n xs.dropLast := by
  obtain ⟨hl, ⟨h', _⟩ | ⟨g', cap', cur, h', hb, hg, hnc, hcm, hcs, htake⟩⟩ := h
  · cases h'
  · simp only [Value.slice.injEq, Option.some.injEq, Addr.mk.injEq, and_true, true_and] at h'
    obtain ⟨rfl, rfl⟩ := h'
    refine ⟨by simp [hl], .inr ⟨g, cap, cur, rfl, hb, hg, by omega, hcm, hcs, ?_⟩⟩
    rw [List.dropLast_eq_take, ← htake, List.take_take, List.length_take]
    congr 1
    rw [Array.length_toList, hcs]
    omega
theorem RcIs.popped {w W : World} {B R A O n c i : Nat} {a : Option Addr} {S : Nat → Bool} {L : List Nat} (h : RcIs w B R A O a n c S (L ++ [i]) W) :
    ∃ g cap, Boxed W O 60 (.slice (some ⟨g, 0, none⟩) (L.length + 1) cap) ∧ L.length + 1 ≤ cap ∧ cap ≤ 9223372036854775807 ∧ W.cell? ⟨g, L.length, none⟩ = some (.int .i64 (i : Int)) ∧
      RcIs w B R A O a n c S L (W.setCell ⟨O, 0, none⟩ (.slice (some ⟨g, 0, none⟩) L.length cap)) := by
  obtain ⟨x, bx, own⟩ := h.bx
  unfold OwnI at own
  have el : (castI (L ++ [i])).length = L.length + 1 := by rw [castI_len]; simp
  rw [el] at own
  obtain ⟨g, cap, rfl⟩ := ownsRow_succ own
  have nr := bx.not_row int_not_row own
  have hc := own.cellAt L.length (by omega)
  rw [castI_put, List.map_append, List.getElem?_append_right (by simp [castI_len]), List.length_map, castI_len, Nat.sub_self] at hc
  have hcap : L.length + 1 ≤ cap ∧ cap ≤ maxLen := by
    obtain ⟨_, ⟨h', _⟩ | ⟨g', cap', cur, h', hb, hg, hnc, hcm, hcs, htake⟩⟩ := own
    · cases h'
    · simp only [Value.slice.injEq, Option.some.injEq, Addr.mk.injEq, and_true, true_and] at h'
      obtain ⟨rfl, rfl⟩ := h'
      exact ⟨hnc, hcm⟩
  refine ⟨g, cap, bx, hcap.1, by have := hcap.2; unfold maxLen at this; exact this, hc, h.opened ((Below.refl O W).setCell (p := ⟨O, 0, none⟩) (Nat.le_refl _) _) ⟨_, bx.set _, ?_⟩⟩
  have sh := own_shrinkF own
  unfold OwnI
  rw [castI_len]
  rw [castI_put, List.map_append, List.map_cons, List.map_nil, List.dropLast_concat] at sh
  refine sh.kept (grownBy_setCell' W O _) (.inr ?_)
  intro e
  exact nr e.symm
/-- to which places one comes from a word, as Reach has them -/
def nxL (l : List Nat) (i : Nat) : List Nat := if (qAt l i).o = 45 then [i + 1] else nextN (qAt l i) i l.length
theorem goes45 {q : Q5} {i k : Nat} (h : q.o = 45) : goesQ q i k = decide (k = i + 1) := by
  unfold goesQ aimQ comeQ
  rw [h]
  simp [aimO, onO]
theorem nxL_goes {l : List Nat} {i b : Nat} (h : b ∈ nxL l i) : gQ l i b = true := by
  unfold nxL at h
  unfold gQ
  split at h
  · rename_i g
    rw [goes45 g]
    simp at h
    simp [h]
  · unfold nextN at h
    rw [List.mem_filter] at h
    exact h.2
theorem nxL_all {l : List Nat} {i b : Nat} (hb : b < l.length) (h : gQ l i b = true) : b ∈ nxL l i := by
  unfold gQ at h
  unfold nxL
  split
  · rename_i g
    rw [goes45 g] at h
    simp at h
    simp [h]
  · unfold nextN
    rw [List.mem_filter]
    exact ⟨by simp [hb], h⟩
theorem nxL_len (l : List Nat) (i : Nat) (hl : l.length ≤ 1000) : (nxL l i).length ≤ 1001 := by
  unfold nxL
  split
  · simp
  · have := nextN_len (qAt l i) i l.length; omega
/-- where the next ones lie: apart from all that is turned -/
def NxtAt (R O : Nat) (a : Option Addr) (N : List Nat) (W : World) : Prop := N = [] ∨ ∃ G, a = some ⟨G, 0, none⟩ ∧ G < W.heap.size ∧ G ≠ R ∧ G ≠ O ∧ FreeOf W O G ∧ ∀ (j x : Nat), N[j]? = some x → W.cell? ⟨G, j, none⟩ = some (.int .i64 (x : Int))
theorem NxtAt.next {R O : Nat} {a : Option Addr} {N : List Nat} {W W' : World} (h : NxtAt R O a N W) (hs : W.heap.size ≤ W'.heap.size) (hf : ∀ G, G < W.heap.size → G ≠ R → G ≠ O → FreeOf W O G → W'.heap[G]? = W.heap[G]? ∧ FreeOf W' O G) : NxtAt R O a N W' := by
  rcases h with h | ⟨G, h1, h2, h3, h4, h5, h6⟩
  · exact .inl h
  · have := hf G h2 h3 h4 h5
    refine .inr ⟨G, h1, Nat.lt_of_lt_of_le h2 hs, h3, h4, this.2, fun j x hj => ?_⟩
    have := h6 j x hj
    unfold World.cell? at this ⊢
    rw [(hf G h2 h3 h4 h5).1]
    exact this
theorem NxtAt.new {w W W' : World} {B R A O n c : Nat} {a : Option Addr} {S : Nat → Bool} {L : List Nat} {v : Value} {N : List Nat} (h : RcIs w B R A O a n c S L W) (hb : Below W.heap.size W W') (own : OwnI W' W.heap.size v (castI N)) : ∃ an cn, v = .slice an N.length cn ∧ N.length ≤ cn ∧ cn ≤ 9223372036854775807 ∧ NxtAt R O an N W' := by
  have hO := h.ltO
  have hRO : R < O := Nat.lt_trans h.lA h.lO
  obtain ⟨x, bx, ownx⟩ := h.bx
  have hlt := own.lt
  have own' := own
  obtain ⟨_, ⟨hv, hn⟩ | ⟨g, cap, cur, hv, hg, hh, hc, hcm, _⟩⟩ := own
  · rw [castI_len] at hn
    have : N = [] := List.eq_nil_of_length_eq_zero hn
    subst this
    exact ⟨none, 0, hv, by simp, by omega, .inl rfl⟩
  · rw [castI_len] at hv hc
    refine ⟨_, cap, hv, hc, by unfold maxLen at hcm; exact hcm, .inr ⟨g, rfl, (hlt g (by rw [hv]; rfl)).2, by omega, by omega, ?_, fun j y hj => ?_⟩⟩
    · intro z hz e
      have hz' : z = x := by
        have := (hb.cell (p := ⟨O, 0, none⟩) hO).trans bx.cell
        rw [this] at hz
        exact (Option.some.inj hz).symm
      rw [hz'] at e
      have := (ownx.lt g e).2
      omega
    · have := own'.cells (g := g) (by rw [hv]; rfl) j (iv (y : Int)) (by unfold castI; rw [List.getElem?_map, List.getElem?_map, hj]; rfl)
      rw [add_at, Nat.zero_add] at this
      exact this
theorem NxtAt.one {w W : World} {B R A O n c i : Nat} {a : Option Addr} {S : Nat → Bool} {L : List Nat} (h : RcIs w B R A O a n c S L W) : NxtAt R O (some ⟨W.heap.size, 0, none⟩) [i + 1] (W.alloc (.cells #[.int .i64 ((i : Int) + 1)] 3)) := by
  have hO := h.ltO
  have hRO : R < O := Nat.lt_trans h.lA h.lO
  obtain ⟨x, bx, ownx⟩ := h.bx
  refine .inr ⟨W.heap.size, rfl, by simp, by omega, by omega, ?_, fun j y hj => ?_⟩
  · intro z hz e
    have hz' : z = x := by
      have := (World.cell?_alloc_past (w := W) (.cells #[.int .i64 ((i : Int) + 1)] 3) _ _ hO).trans bx.cell
      rw [this] at hz
      exact (Option.some.inj hz).symm
    rw [hz'] at e
    have := (ownx.lt _ e).2
    omega
  · cases j with
    | zero => simp at hj; subst hj; rw [World.cell?_alloc_new]; simp
    | succ j => simp at hj
theorem rc_begin (w : World) (a : Option Addr) (n c : Nat) (hn : n ≤ 1000) : RcIs w w.heap.size (w.heap.size + 1) (w.heap.size + 1 + 1) (w.heap.size + 1 + 1 + 1) a n c (fun _ => false) [] ((((w.alloc (.cells #[.slice a n c] 22)).alloc (.cells (madeCells #[Value.bool false] n) 4)).alloc (.cells #[.slice (some ⟨w.heap.size + 1, 0, none⟩) n n] 28)).alloc (.cells #[.slice none 0 0] 60)) := by
  have O1 := World.ownsRow_lit (base := w.heap.size) (size := 1) (e := 4) (w.alloc (.cells #[.slice a n c] 22)) (madeCells #[Value.bool false] n) n (by simp) (by simp only [maxLen]; omega) (by rw [size_madeCells]; omega)
  rw [made_rowB] at O1
  refine { cB := ?_, cA := ?_, row := ?_, bx := ⟨.slice none 0 0, ?_, own_nilI _ _⟩, lB := Nat.le_refl _, lR := by omega, lA := by omega, lO := by omega, bl := by go_grown }
  · rw [World.cell?_alloc_past _ _ _ (by simp; omega), World.cell?_alloc_past _ _ _ (by simp; omega), World.cell?_alloc_past _ _ _ (by simp), World.cell?_alloc_new]; rfl
  · rw [World.cell?_alloc_past _ _ _ (by simp)]
    have := World.cell?_alloc_new ((w.alloc (.cells #[.slice a n c] 22)).alloc (.cells (madeCells #[Value.bool false] n) 4)) #[.slice (some ⟨w.heap.size + 1, 0, none⟩) n n] 28 0
    simpa using this
  · have := (O1.alloc (.cells #[.slice (some ⟨w.heap.size + 1, 0, none⟩) n n] 28)).alloc (.cells #[.slice none 0 0] 60)
    simpa using this
  · have := Boxed.new (((w.alloc (.cells #[.slice a n c] 22)).alloc (.cells (madeCells #[Value.bool false] n) 4)).alloc (.cells #[.slice (some ⟨w.heap.size + 1, 0, none⟩) n n] 28)) 60 (.slice none 0 0)
    simpa using this
set_option maxRecDepth 100000 in
set_option maxHeartbeats 1000000 in
theorem ireach_in (a : Option Addr) (c : Nat) (l : List Nat) (s : Nat) (w : World) (ht : T3 w) (hw : WordsC w a l c) (hs : s < l.length) (hl : l.length ≤ 30) :
    Calls Tryz.prog 6 #[.slice a l.length c, .int .i64 (s : Nat)] w fun e w' => ∃ g S, e = .returned (.slice (some ⟨g, 0, none⟩) l.length l.length) ∧ BAt w' (some ⟨g, 0, none⟩) S l.length ∧ (S s = true ∧ soundS (gQ l) l.length s S ∧ closedS (gQ l) l.length S) ∧ w.heap.size ≤ g ∧ Below w.heap.size w w' := by
  have hmk := fun W => run_make_row' (P := Tryz.prog) 28 4 (.bool false) 1 Tryz.underlying28 info_boolF rfl .i64 .i64 l.length (by omega) (by omega) W
  have HW := Lib.hid hw
  have HT := Lib.hid ht
  clear hw ht
  go_enter Tryz.func6, Tryz.ntmps6
  go_wp2_with fail
  have R0 := rc_begin w a l.length c (by omega)
  have BND := Lib.hid (cntS_set (S := fun _ => false) hs rfl)
  generalize World.alloc (World.alloc (World.alloc (World.alloc w _) _) _) _ = W1 at *
  refine (come_new s R0 (by omega) hs rfl (by simp)).mono ?_
  rintro e w1 ⟨rfl, hR1, _, _⟩
  have R1 := Lib.hid hR1
  clear R0 hR1 hmk
  go_wp2_with fail
  go_loopg [] (2 * l.length) (fun gk wr => ∃ (S : Nat → Bool) (L : List Nat), RcIs w w.heap.size (w.heap.size + 1) (w.heap.size + 1 + 1) (w.heap.size + 1 + 1 + 1) a l.length c S L wr ∧ SInv (gQ l) l.length s S L ∧ 2 * (l.length - cntS S l.length) + L.length ≤ gk ∧ gk ≤ 2 * l.length)
  case atStart => exact ⟨_, [s], R1.out, sinv_begin hs, by have := BND.out; simp; omega, Nat.le_refl _⟩
  case round =>
    obtain ⟨S, L, hR, hI, hgk, hg2⟩ := hrel
    rcases List.eq_nil_or_concat L with rfl | ⟨L', i, rfl⟩
    · obtain ⟨x, bx, own⟩ := hR.bx
      obtain ⟨ax, cx, rfl⟩ := own_formF own
      have cO := bx.cell
      have cA := hR.cA
      have RW := Lib.hid hR.row
      have BL := Lib.hid hR.bl
      have IN := Lib.hid hI
      clear hR hI bx own
      go_wp2_with fail
      go_ret
      exact ⟨_, S, rfl, row_at RW.out, ⟨IN.out.at0, IN.out.snd, sinv_end IN.out⟩, by omega, BL.out⟩
    · rw [List.concat_eq_append] at *
      obtain ⟨g, cap, bx, hc1, hc2, ci, hR2⟩ := hR.popped
      have cO := bx.cell
      have fO := bx.frozen
      have cB2 := hR2.cB
      have u1 := IntWalk.i64_in ((L'.length : Int) + 1 - 1) (by omega)
      have e1 : ((castI (L' ++ [i])).length : Nat) = L'.length + 1 := by rw [castI_len]; simp
      have R2 := Lib.hid hR2
      have MI := Lib.hid hI.pop
      have LB := Lib.hid hgk
      have hI0 := Lib.hid hI
      clear hR hI hR2 bx
      have iL := (hI0.out.opn i (by simp)).1
      have WW := Lib.hid (HW.out.later R2.out.bl)
      have TT := Lib.hid (HT.out.later R2.out.bl)
      have NG := Lib.hid (fun b => nxL_goes (l := l) (i := i) (b := b))
      have NA := Lib.hid (fun b hb hg => nxL_all (l := l) (i := i) (b := b) hb hg)
      have NL := nxL_len l i (by omega)
      by_cases h45 : (qAt l i).o = 45
      · have eN : nxL l i = [i + 1] := by unfold nxL; rw [if_pos h45]
        rw [eN] at NG NA NL
        have CJ := Lib.hid (inext_jalr a c l i _ TT.out WW.out iL (by omega) h45)
        have ui := IntWalk.i64_in ((i : Int) + 1) (by omega)
        clear h45 eN TT WW
        go_wp2_with fail
        refine CJ.out.mono ?_
        rintro e w3 ⟨rfl, hb3⟩
        have R3 := Lib.hid (R2.out.later hb3)
        have NX := Lib.hid (NxtAt.one (i := i) R3.out)
        have R4 := Lib.hid (R3.out.later (W' := w3.alloc (.cells #[.int .i64 ((i : Int) + 1)] 3)) ((Below.refl _ _).alloc (Nat.le_refl _) _))
        clear hb3
        obtain ⟨N, hNe⟩ : ∃ N, N = [i + 1] := ⟨_, rfl⟩
        have hNl : N.length = 1 := by rw [hNe]; rfl
        rw [← hNe] at NG NA NX
        have HNL := Lib.hid hNl
        clear hNl hNe
        go_wp2_with fail
        go_loopw [47] (fun i47 wr => ∃ (j : Nat) (S : Nat → Bool) (L : List Nat), j ≤ 1 ∧ i47 = .int .i64 j ∧ RcIs w w.heap.size (w.heap.size + 1) (w.heap.size + 1 + 1) (w.heap.size + 1 + 1 + 1) a l.length c S L wr ∧ SMid (gQ l) l.length s i (N.take j) S L ∧ 2 * (l.length - cntS S l.length) + L.length + 1 ≤ gk ∧ NxtAt (w.heap.size + 1) (w.heap.size + 1 + 1 + 1) (some ⟨w3.heap.size, 0, none⟩) N wr) (fun i47 _ => 1 - (intOf i47).toNat)
        case atStart => exact ⟨0, S, L', Nat.zero_le _, rfl, R4.out, by rw [List.take_zero]; exact MI.out, by have := LB.out; simp at this; omega, NX.out⟩
        case round =>
          obtain ⟨j, S2, L2, hj, rfl, hR5, hM, hm, hN⟩ := hrel
          by_cases hlt : j < 1
          · obtain ⟨b, hb⟩ : ∃ b, N[j]? = some b := ⟨_, List.getElem?_eq_getElem (by rw [HNL.out]; exact hlt)⟩
            have hT : N.take (j + 1) = N.take j ++ [b] := by rw [List.take_add_one, hb]; rfl
            have hgb := NG.out b (List.mem_of_getElem? hb)
            have hN0 := hN
            rcases hN with hnil | ⟨G, hGe, hG, hGR, hGO, hF, hcs⟩
            · have := HNL.out; rw [hnil] at this; simp at this
            cases hGe
            have cG := hcs j b hb
            have uj := IntWalk.i64_in ((j : Int) + 1) (by omega)
            have NX5 := Lib.hid hN0
            have R5 := Lib.hid hR5
            have M5 := Lib.hid hM
            have L5h := Lib.hid hm
            by_cases hnew : b < l.length ∧ S2 b = false
            · have CM := Lib.hid (come_new b hR5 (by omega) hnew.1 hnew.2 (by omega))
              have M6 := Lib.hid (hM.new hnew.1 hgb)
              have CN := Lib.hid (cntS_set (n := l.length) hnew.1 hnew.2)
              have CL := Lib.hid (cntS_le (setS S2 b) l.length)
              have T6 := Lib.hid hT
              clear hR5 hM hm hN0 hnew hcs hT hgb hb hF
              go_wp2_with fail
              refine CM.out.mono ?_
              rintro e w5 ⟨rfl, hR6, hsz, hfr⟩
              have R6 := Lib.hid hR6
              have NX6 := Lib.hid (NX5.out.next hsz hfr)
              clear hR6 hfr
              go_wp2_with fail
              refine ⟨⟨j + 1, _, _, by omega, rfl, R6.out, by rw [T6.out]; exact M6.out, ?_, NX6.out⟩, by simp [intOf]; omega⟩
              have := CN.out
              have := CL.out
              have := L5h.out
              simp
              omega
            · have CM := Lib.hid (come_old (b : Int) hR5 (by omega) (fun q hq hqn => by
                have : q = b := by omega
                subst this
                cases hx : S2 q
                · exact absurd ⟨hqn, hx⟩ hnew
                · rfl))
              have M6 := Lib.hid (hM.old (b := b) (fun hbn => by
                cases hx : S2 b
                · exact absurd ⟨hbn, hx⟩ hnew
                · rfl))
              have T6 := Lib.hid hT
              clear hR5 hM hm hN0 hnew hcs hT hgb hb hF
              go_wp2_with fail
              refine CM.out.mono ?_
              rintro e w5 ⟨rfl, rfl⟩
              go_wp2_with fail
              refine ⟨⟨j + 1, S2, L2, by omega, rfl, R5.out, by rw [T6.out]; exact M6.out, L5h.out, NX5.out⟩, by simp [intOf]; omega⟩
          · obtain rfl : j = 1 := by omega
            rw [← HNL.out, List.take_length] at hM
            have I6 := Lib.hid (hM.done NA.out)
            have R5 := Lib.hid hR5
            have L5h := Lib.hid hm
            clear hR5 hM hm hN
            go_wp2_with fail
            go_roundg (gk - 1)
            case measure => have := L5h.out; omega
            case rel => exact ⟨S2, L2, R5.out, I6.out, by have := L5h.out; omega, by omega⟩
      · have eN : nxL l i = nextN (qAt l i) i l.length := by unfold nxL; rw [if_neg h45]
        have CJ := Lib.hid (inext_any a c l i _ TT.out WW.out iL (by omega) h45)
        rw [← eN] at CJ
        clear h45 eN TT WW
        generalize nxL l i = N at *
        go_wp2_with fail
        refine CJ.out.mono ?_
        rintro e w3 ⟨v3, rfl, own3, hb3⟩
        have R4 := Lib.hid (R2.out.later hb3)
        obtain ⟨an, cn, rfl, hn1, hn2, hnx⟩ := NxtAt.new R2.out hb3 own3
        have NX := Lib.hid hnx
        clear hb3 own3 hnx CJ
        go_wp2_with fail
        go_loopw [47] (fun i47 wr => ∃ (j : Nat) (S : Nat → Bool) (L : List Nat), j ≤ N.length ∧ i47 = .int .i64 j ∧ RcIs w w.heap.size (w.heap.size + 1) (w.heap.size + 1 + 1) (w.heap.size + 1 + 1 + 1) a l.length c S L wr ∧ SMid (gQ l) l.length s i (N.take j) S L ∧ 2 * (l.length - cntS S l.length) + L.length + 1 ≤ gk ∧ NxtAt (w.heap.size + 1) (w.heap.size + 1 + 1 + 1) an N wr) (fun i47 _ => N.length - (intOf i47).toNat)
        case atStart => exact ⟨0, S, L', Nat.zero_le _, rfl, R4.out, by rw [List.take_zero]; exact MI.out, by have := LB.out; simp at this; omega, NX.out⟩
        case round =>
          obtain ⟨j, S2, L2, hj, rfl, hR5, hM, hm, hN⟩ := hrel
          by_cases hlt : j < N.length
          · obtain ⟨b, hb⟩ : ∃ b, N[j]? = some b := ⟨_, List.getElem?_eq_getElem hlt⟩
            have hT : N.take (j + 1) = N.take j ++ [b] := by rw [List.take_add_one, hb]; rfl
            have hgb := NG.out b (List.mem_of_getElem? hb)
            have hN0 := hN
            rcases hN with hnil | ⟨G, rfl, hG, hGR, hGO, hF, hcs⟩
            · rw [hnil] at hlt; simp at hlt
            have cG := hcs j b hb
            have uj := IntWalk.i64_in ((j : Int) + 1) (by omega)
            have NX5 := Lib.hid hN0
            have R5 := Lib.hid hR5
            have M5 := Lib.hid hM
            have L5h := Lib.hid hm
            by_cases hnew : b < l.length ∧ S2 b = false
            · have CM := Lib.hid (come_new b hR5 (by omega) hnew.1 hnew.2 (by omega))
              have M6 := Lib.hid (hM.new hnew.1 hgb)
              have CN := Lib.hid (cntS_set (n := l.length) hnew.1 hnew.2)
              have CL := Lib.hid (cntS_le (setS S2 b) l.length)
              have T6 := Lib.hid hT
              clear hR5 hM hm hN0 hnew hcs hT hgb hb hF
              go_wp2_with fail
              refine CM.out.mono ?_
              rintro e w5 ⟨rfl, hR6, hsz, hfr⟩
              have R6 := Lib.hid hR6
              have NX6 := Lib.hid (NX5.out.next hsz hfr)
              clear hR6 hfr
              go_wp2_with fail
              refine ⟨⟨j + 1, _, _, by omega, rfl, R6.out, by rw [T6.out]; exact M6.out, ?_, NX6.out⟩, by simp [intOf]; omega⟩
              have := CN.out
              have := CL.out
              have := L5h.out
              simp
              omega
            · have CM := Lib.hid (come_old (b : Int) hR5 (by omega) (fun q hq hqn => by
                have : q = b := by omega
                subst this
                cases hx : S2 q
                · exact absurd ⟨hqn, hx⟩ hnew
                · rfl))
              have M6 := Lib.hid (hM.old (b := b) (fun hbn => by
                cases hx : S2 b
                · exact absurd ⟨hbn, hx⟩ hnew
                · rfl))
              have T6 := Lib.hid hT
              clear hR5 hM hm hN0 hnew hcs hT hgb hb hF
              go_wp2_with fail
              refine CM.out.mono ?_
              rintro e w5 ⟨rfl, rfl⟩
              go_wp2_with fail
              refine ⟨⟨j + 1, S2, L2, by omega, rfl, R5.out, by rw [T6.out]; exact M6.out, L5h.out, NX5.out⟩, by simp [intOf]; omega⟩
          · obtain rfl : j = N.length := by omega
            rw [List.take_length] at hM
            have I6 := Lib.hid (hM.done NA.out)
            have R5 := Lib.hid hR5
            have L5h := Lib.hid hm
            clear hR5 hM hm hN
            go_wp2_with fail
            go_roundg (gk - 1)
            case measure => have := L5h.out; omega
            case rel => exact ⟨S2, L2, R5.out, I6.out, by have := L5h.out; omega, by omega⟩
end Go.Proofs.YtmlhoagcppofgaaGreatDoor

namespace Go.Proofs.YtmlhoagcppofgaaGreatDoor
open Go Go.RowKit Pl
set_option linter.unusedVariables false

set_option maxRecDepth 100000 in
set_option maxHeartbeats 1000000 in
theorem ireach_out (a : Option Addr) (c : Nat) (l : List Nat) (s : Int) (w : World) (hs : ¬ (0 ≤ s ∧ s < (l.length : Int))) (hl : l.length ≤ 30) :
    Calls Tryz.prog 6 #[.slice a l.length c, .int .i64 s] w fun e w' => ∃ g, e = .returned (.slice (some ⟨g, 0, none⟩) l.length l.length) ∧ BAt w' (some ⟨g, 0, none⟩) (fun _ => false) l.length ∧ w.heap.size ≤ g ∧ Below w.heap.size w w' := by
  have hmk := fun W => run_make_row' (P := Tryz.prog) 28 4 (.bool false) 1 Tryz.underlying28 info_boolF rfl .i64 .i64 l.length (by omega) (by omega) W
  go_enter Tryz.func6, Tryz.ntmps6
  go_wp2_with fail
  have R0 := rc_begin w a l.length c (by omega)
  generalize World.alloc (World.alloc (World.alloc (World.alloc w _) _) _) _ = W1 at *
  refine (come_old s R0 (by omega) (fun j hj hjn => absurd (show 0 ≤ s ∧ s < (l.length : Int) by omega) hs)).mono ?_
  rintro e w1 ⟨rfl, rfl⟩
  clear hmk hs
  go_wp2_with fail
  go_loopg [] 0 (fun gk wr => RcIs w w.heap.size (w.heap.size + 1) (w.heap.size + 1 + 1) (w.heap.size + 1 + 1 + 1) a l.length c (fun _ => false) [] wr)
  case atStart => exact R0
  case round =>
    clear R0
    obtain ⟨x, bx, own⟩ := hrel.bx
    obtain ⟨ax, cx, rfl⟩ := own_formF own
    have cO := bx.cell
    have cA := hrel.cA
    have RW := Lib.hid hrel.row
    have BL := Lib.hid hrel.bl
    clear hrel bx own
    go_wp2_with fail
    go_ret
    exact ⟨_, rfl, row_at RW.out, by omega, BL.out⟩
theorem BAt.later {w w' : World} {a : Option Addr} {S : Nat → Bool} {n : Nat} (h : BAt w a S n) (hb : Below w.heap.size w w') : BAt w' a S n := by
  obtain ⟨b, rfl, hlt, hc⟩ := h
  exact ⟨b, rfl, Nat.lt_of_lt_of_le hlt hb.size, fun j hj => (hb.cell (p := ⟨b, j, none⟩) hlt).trans (hc j hj)⟩
end Go.Proofs.YtmlhoagcppofgaaGreatDoor
