/- Contracts of pintleref15.Reads, Writes and of the law's own 'lives'. -/
import Derived.Test.YtlieapapmkbbgaaLirE
import Derived.Test.YtlieapapmkbbgaaGA
import Derived.WideShapes
import Derived.ChangeSlices
import Derived.OpenShut
import Derived.Deep.Slices
import Derived.Deep.Fields
import Derived.Test.YtlieapapmkbbgaaGB
namespace Go.Proofs.Ytlieapapmkbbgaa
open Go Go.RowKit
set_option linter.unusedVariables false

theorem box4 {w : World} {cs : Array Value} {t : TypeId} {o1 o2 o3 : Obj} {j : Nat} {v : Value} (h : cs[j]? = some v) : ((((w.alloc (.cells cs t)).alloc o1).alloc o2).alloc o3).cell? ⟨w.heap.size, j, none⟩ = some v := by
  rw [World.cell?_alloc_past _ _ _ (by simp; omega), World.cell?_alloc_past _ _ _ (by simp; omega), World.cell?_alloc_past _ _ _ (by simp), World.cell?_alloc_new]
  exact h
theorem own_made (w : World) (base : Nat) (hb : base ≤ w.heap.size) (H : Nat) (hH : w.heap.size = H) : OwnI (w.alloc (.cells #[] 3)) base (.slice (some ⟨H, 0, none⟩) 0 0) [] := by
  subst hH
  exact World.ownsRow_lit w #[] 0 hb (by decide) rfl

theorem rcan_is (o d a b i : Int) (w : World) (hi : -2147483648 ≤ i ∧ i ≤ 2147483647) {v : Bool} (h : canS ⟨o, d, a, b, i⟩ = v) : Calls Try.prog 23 #[.agg #[.int .i64 o, .int .i64 d, .int .i64 a, .int .i64 b, .int .i32 i]] w fun e w' =>
    e = .returned (.bool v) ∧ w' = w.alloc (.cells #[.int .i64 o, .int .i64 d, .int .i64 a, .int .i64 b, .int .i32 i] 46) := by
  subst h
  exact rcan_any o d a b i w hi

theorem below_draw {w w' : World} (h : ∃ n, w' = w.drewN n) : Below w.heap.size w w' := by
  obtain ⟨n, rfl⟩ := h
  exact below_drewN (Below.refl _ _) n

def lv : List Q5 := [⟨23, 1, 0, 0, 3⟩, ⟨13, 0, 0, 0, 5⟩, ⟨24, 0, 0, 0, 0⟩]
theorem lv_ends : endsS lv = some [2, -1, 0] := by rfl
theorem lv_check : checkS lv = 0 := by decide
end Go.Proofs.Ytlieapapmkbbgaa

namespace Go.Proofs.Ytlieapapmkbbgaa
open Go Go.RowKit Go.ChangeShapes Go.WideShapes Go.Deep
set_option linter.unusedVariables false

/-- a slice of such structs, with its spare room -/
def L5In (w : World) (a : Option Addr) (l : List Q5) (c : Nat) : Prop :=
  l.length ≤ c ∧ c ≤ 9223372036854775807 ∧ (∀ x ∈ l, x.wf) ∧
  ((a = none ∧ l = [] ∧ c = 0) ∨ ((∃ x, a = some x) ∧ l = []) ∨ ∃ b off, a = some ⟨b, off, none⟩ ∧ b < w.heap.size ∧ ∀ j u, (flat l)[j]? = some u → w.cell? ⟨b, off + j, none⟩ = some u)
theorem L5In.later {w w' : World} {a : Option Addr} {l : List Q5} {c : Nat} (h : L5In w a l c) (hb : Below w.heap.size w w') : L5In w' a l c := by
  obtain ⟨h2, h3, h4, h | h | ⟨b, off, rfl, hlt, hc⟩⟩ := h
  · exact ⟨h2, h3, h4, Or.inl h⟩
  · exact ⟨h2, h3, h4, Or.inr (Or.inl h)⟩
  · exact ⟨h2, h3, h4, Or.inr (Or.inr ⟨b, off, rfl, Nat.lt_of_lt_of_le hlt hb.size, fun j u hj => (hb.cell hlt).trans (hc j u hj)⟩)⟩

def kindAt (j : Nat) : IntKind := if j < 4 then .i64 else .i32
/-- one struct's five cells, as numbers -/
theorem five_of {H : Type} {enc : TypeId × Value → H} {P : Program} {w : World} {base : Nat} {spare : Nat → Bool} {held : Bool} {e : TypeId} {fs : Array Field} {n : Nat} {cs : List Value} {y : DataW H × List MemPlace}
    (he : P.underlying e = some (.struct fs)) (hC : P.cellsOf e = 5) (hsz : fs.size = 5) (hone : oneCellFields P fs = true) (hk : ∀ j f, fs[j]? = some f → P.underlying f.type = some (.int (kindAt j)))
    (h : DataW.trod enc P w base spare held n e cs = some y) : ∃ q : Q5, q.wf ∧ cs = q.cells := by
  obtain ⟨xs, n', _, _, hlen, hxl, hf⟩ := DataW.trod_struct he h
  have each : ∀ j, j < 5 → ∃ z, cs[j]? = some (.int (kindAt j) z) ∧ (Lit.int (kindAt j) z).wf = true := by
    intro j hj
    have hfj : fs[j]? = some (fs[j]'(by omega)) := Array.getElem?_eq_getElem _
    obtain ⟨ho, hc1⟩ := hone_of hone j _ hfj
    have h1 := hf j _ hfj
    rw [ho, hc1] at h1
    have hxj : xs[j]? = some (xs[j]'(by omega)) := List.getElem?_eq_getElem _
    obtain ⟨z, hz, _, hw⟩ := DataW.trod_int (hk j _ hfj) (h1.trans hxj)
    refine ⟨z, ?_, hw⟩
    have : ((cs.drop j).take 1)[0]? = some (.int (kindAt j) z) := by rw [hz]; rfl
    simpa using this
  obtain ⟨z0, c0, w0⟩ := each 0 (by omega)
  obtain ⟨z1, c1, w1⟩ := each 1 (by omega)
  obtain ⟨z2, c2, w2⟩ := each 2 (by omega)
  obtain ⟨z3, c3, w3⟩ := each 3 (by omega)
  obtain ⟨z4, c4, w4⟩ := each 4 (by omega)
  refine ⟨⟨z0, z1, z2, z3, z4⟩, ⟨w0, w1, w2, w3, w4⟩, ?_⟩
  rw [hC] at hlen
  match cs, hlen, c0, c1, c2, c3, c4 with
  | [v0, v1, v2, v3, v4], _, c0, c1, c2, c3, c4 =>
    simp at c0 c1 c2 c3 c4
    subst c0 c1 c2 c3 c4
    rfl

theorem lops_in {H : Type} {enc : TypeId × Value → H} {P : Program} {w : World} {r : Reach} {b base : Nat} {spare : Nat → Bool} {held : Bool} {t e : TypeId} {v : Value} {d : DataW H} {p : List MemPlace} {fs : Array Field}
    (ht : P.underlying t = some (.slice e)) (he : P.underlying e = some (.struct fs)) (hC : P.cellsOf e = 5) (hsz : fs.size = 5) (hone : oneCellFields P fs = true) (hk : ∀ j f, fs[j]? = some f → P.underlying f.type = some (.int (kindAt j)))
    (hv : Value.okWide P w r b t v) (h : DataW.Trod enc P w base spare held t v d p) :
    ∃ (a : Option Addr) (c : Nat) (l : List Q5), v = .slice a l.length c ∧ L5In w a l c := by
  obtain ⟨a, len, cap, rfl⟩ := okWide_slice ht hv
  obtain ⟨fuel, hf⟩ := h
  rcases Go.Deep.open_slice ht hf with ⟨hcs, _⟩ | ⟨x, len', cap', m, n, D, Pl, hcs, _, hl, hm, hmm, _, hi⟩
  · simp [Value.cells] at hcs
    obtain ⟨rfl, rfl, rfl⟩ := hcs
    exact ⟨none, 0, [], rfl, by simp, by omega, by simp, Or.inl ⟨rfl, rfl, rfl⟩⟩
  · simp [Value.cells] at hcs
    obtain ⟨rfl, rfl, rfl⟩ := hcs
    have hlm : len ≤ m := by rw [hmm]; split <;> omega
    have each : ∀ i, ∃ q : Q5, i < len → q.wf ∧ ∀ j, j < 5 → w.cell? (x.add (i * 5 + j)) = q.cells[j]? := by
      intro i
      by_cases hlt : i < len
      · obtain ⟨cs', hc, hd⟩ := hi i (by omega)
        rw [hC] at hc
        obtain ⟨q, hw, rfl⟩ := five_of he hC hsz hone hk hd
        obtain ⟨_, _, hat⟩ := World.cells?_some hc
        exact ⟨q, fun _ => ⟨hw, fun j hj => by rw [← Go.Deep.add_add]; exact hat j hj⟩⟩
      · exact ⟨⟨0, 0, 0, 0, 0⟩, fun h => absurd h hlt⟩
    have ⟨f, hff⟩ := Classical.axiomOfChoice each
    refine ⟨some x, cap, (List.range len).map f, by simp, by simpa using hl, by simpa [maxLen] using hm, ?_, ?_⟩
    · intro q hq
      simp only [List.mem_map, List.mem_range] at hq
      obtain ⟨i, hlt, rfl⟩ := hq
      exact (hff i hlt).1
    · by_cases h0 : len = 0
      · subst h0
        exact Or.inr (Or.inl ⟨⟨x, rfl⟩, by simp⟩)
      · obtain ⟨bl, off, spot⟩ := x
        have c0 := (hff 0 (by omega)).2 0 (by omega)
        have c0' : w.cell? ((⟨bl, off, spot⟩ : Addr).add 0) = some (.int .i64 (f 0).o) := by simpa [Q5.cells] using c0
        have hspot : spot = none := by simpa [Addr.add] using World.cell?_spot c0'
        subst hspot
        have hb := block_lt_of_cell c0'
        refine Or.inr (Or.inr ⟨bl, off, rfl, by simpa [Addr.add] using hb, ?_⟩)
        intro j u hj
        have hjl : j < ((List.range len).map f).length * 5 := by
          rcases Nat.lt_or_ge j (((List.range len).map f).length * 5) with g | g
          · exact g
          · rw [List.getElem?_eq_none (by rw [flat_len]; exact g)] at hj; cases hj
        simp only [List.length_map, List.length_range] at hjl
        have hk5 : j / 5 < len := by omega
        have g := flat_get ((List.range len).map f) (j / 5) (f (j / 5)) (by simp [hk5]) (j % 5) (by omega)
        rw [show j / 5 * 5 + j % 5 = j by omega, hj] at g
        have ck := (hff (j / 5) hk5).2 (j % 5) (by omega)
        rw [show j / 5 * 5 + j % 5 = j by omega, ← g] at ck
        rw [← add_at]
        exact ck
end Go.Proofs.Ytlieapapmkbbgaa

namespace Go.Proofs.Ytlieapapmkbbgaa
open Go Go.RowKit
set_option linter.unusedVariables false

theorem info_lopF : (Try.prog.info? 46).map (fun i => (i.zero, i.size, i.bytes)) = some (some (.agg #[.int .i64 0, .int .i64 0, .int .i64 0, .int .i64 0, .int .i32 0]), 5, 40) := by kernel_rfl
theorem own_emptyL (w : World) : (w.alloc (.cells #[] 46)).ownsRow w.heap.size 46 5 (.slice (some ⟨w.heap.size, 0, none⟩) 0 0) 0 [] :=
  World.ownsRow_lit w #[] 0 (Nat.le_refl _) (by decide) rfl
theorem newsL {w : World} {b off : Nat} {l : List Q5} (hc : ∀ j u, (flat l)[j]? = some u → w.cell? ⟨b, off + j, none⟩ = some u) (m : Nat) (w' : World)
    (hw : ∀ k, w'.cell? ⟨b, k, none⟩ = w.cell? ⟨b, k, none⟩) : ∀ j u, (flat (l.take m))[j]? = some u → w'.cell? ((⟨b, off, none⟩ : Addr).add j) = some u := by
  intro j u h
  rw [add_at, hw]
  rw [flat_take, List.getElem?_take] at h
  split at h
  · exact hc j u h
  · cases h
theorem grown_belowL {w w1 : World} (hg : (w.alloc (.cells #[] 46)).grownBy w1 (Value.slice (some ⟨w.heap.size, 0, none⟩) 0 0).ownBlock) : Below w.heap.size w w1 :=
  ((Below.refl _ _).alloc (Nat.le_refl _) _).grown hg (by simp) (fun k hk => by cases hk; exact Nat.le_refl _)
def FewL (w : World) (t : List Q5) (e : Ending) (w' : World) : Prop := ∃ v, e = .returned v ∧ w'.ownsRow w.heap.size 46 5 v t.length (flat t) ∧ Below w.heap.size w w'

set_option maxRecDepth 100000 in
set_option maxHeartbeats 400000 in
theorem fewL_any (a : Option Addr) (c : Nat) (l : List Q5) (w : World) (hl : L5In w a l c) :
    Calls Try.prog 5 #[.slice a l.length c] w (FewL w (l.take 60)) := by
  obtain ⟨i0, hi, hz0, hz1, hz2⟩ := info_parts info_lopF
  obtain ⟨hc, hcm, _, hcell⟩ := hl
  have OWN0 := Lib.hid (own_emptyL w)
  have len1 := flat_len (l.take 60)
  rcases hcell with ⟨rfl, rfl, rfl⟩ | ⟨⟨x, rfl⟩, rfl⟩ | ⟨b, off, rfl, hb, hcs⟩
  · clear len1
    go_enter Try.func5, Try.ntmps5
    go_wp2_with fail
    go_ret
    exact ⟨_, rfl, by simpa [flat] using OWN0.out, by go_grown⟩
  · clear len1
    go_enter Try.func5, Try.ntmps5
    go_wp2_with fail
    go_ret
    exact ⟨_, rfl, by simpa [flat] using OWN0.out, by go_grown⟩
  · have NW := Lib.hid (fun m => newsL hcs m (w.alloc (.cells #[] 46)) (fun k => World.cell?_alloc_past (w := w) _ _ _ hb))
    clear hcs
    by_cases h : 60 < l.length
    · have hlen : (l.take 60).length = 60 := by simp; omega
      have HLEN := Lib.hid hlen
      have LN := Lib.hid (show (flat (l.take 60)).length = 60 * 5 by rw [len1, hlen])
      clear len1 hlen
      go_enter Try.func5, Try.ntmps5
      go_wp2_with fail
      refine wp_append_own (w.alloc (.cells #[] 46)) (.tmp 8) (.tmp 9) 22 rfl w.heap.size 46 i0 (.agg #[.int .i64 0, .int .i64 0, .int .i64 0, .int .i64 0, .int .i32 0]) 5 40 Try.underlying22 hi hz0 hz1 hz2 rfl (by decide) (.slice (some ⟨w.heap.size, 0, none⟩) 0 0) 0 [] rfl OWN0.out ⟨b, off, none⟩ 60 c (flat (l.take 60)) rfl LN.out (NW.out 60) (flat_one _) ?d1 ?d2 ?d3 ?_
      case d1 => simp [maxLen]
      case d2 => omega
      case d3 => simp
      intro v' w1 hown hg hn
      go_wp2
      go_ret
      exact ⟨v', rfl, by rw [HLEN.out]; simpa using hown, grown_belowL hg⟩
    · have hlen : (l.take 60).length = l.length := by rw [List.take_of_length_le (by omega)]
      have HLEN := Lib.hid hlen
      have LN := Lib.hid (show (flat (l.take 60)).length = l.length * 5 by rw [len1, hlen])
      have h3 : l.length ≤ 60 := by omega
      have E1 := Lib.hid (show 0 + l.length ≤ maxLen by simp only [maxLen]; omega)
      have E2 := Lib.hid (show (0 + l.length) * 40 ≤ 140737488355328 by omega)
      have E3 := Lib.hid (show w.heap.size ≤ (w.alloc (.cells #[] 46)).heap.size by simp)
      clear len1 hlen h
      go_enter Try.func5, Try.ntmps5
      go_wp2_with ((at_builtin; refine wpList_append_own (w.alloc (.cells #[] 46)) rfl (.tmp 8) (.tmp 9) 22 rfl w.heap.size 46 i0 (.agg #[.int .i64 0, .int .i64 0, .int .i64 0, .int .i64 0, .int .i32 0]) 5 40 Try.underlying22 hi hz0 hz1 hz2 rfl (by decide) (.slice (some ⟨w.heap.size, 0, none⟩) 0 0) 0 [] rfl OWN0.out ⟨b, off, none⟩ l.length c (flat (l.take 60)) rfl LN.out (NW.out 60) (flat_one _) E1.out E2.out E3.out ?_; intro v' w1 hown hg hn))
      go_ret
      exact ⟨v', rfl, by rw [HLEN.out]; simpa using hown, grown_belowL hg⟩
/-- what Few leaves, as a slice of steps -/
theorem fewL_at (a : Option Addr) (c : Nat) (l t : List Q5) (w : World) (hl : L5In w a l c) (ht : t = l.take 60) :
    Calls Try.prog 5 #[.slice a l.length c] w fun e w' => ∃ a' c', e = .returned (.slice a' t.length c') ∧ L5 w' a' t ∧ Below w.heap.size w w' := by
  subst ht
  exact (fewL_any a c l w hl).mono fun e w' ⟨v, he, ho, hb⟩ => by
    obtain ⟨a', c', rfl, h5, _⟩ := l5_own ho rfl (by have := List.length_take (i := 60) (l := l); omega)
    exact ⟨a', c', he, h5, hb⟩
end Go.Proofs.Ytlieapapmkbbgaa

namespace Go.Proofs.Ytlieapapmkbbgaa
open Go Go.RowKit
set_option linter.unusedVariables false

def optI (k : Option Nat) : Int := match k with
  | some k => (k : Int)
  | none => -1
theorem endG_step {l : List Q5} {j n : Nat} {x : Q5} (hx : l[j]? = some x) : endG (l.drop j) j n = if x.o = 24 then (if n = 0 then some j else endG (l.drop (j + 1)) (j + 1) (n - 1)) else if x.o = 23 then endG (l.drop (j + 1)) (j + 1) (n + 1) else endG (l.drop (j + 1)) (j + 1) n := by
  have hk : j < l.length := by
    rcases Nat.lt_or_ge j l.length with g | g
    · exact g
    · rw [List.getElem?_eq_none g] at hx; cases hx
  have e : l.drop j = x :: l.drop (j + 1) := by
    rw [List.drop_eq_getElem_cons hk]
    congr 1
    rw [List.getElem?_eq_getElem hk] at hx
    exact Option.some.inj hx
  rw [e]
  rfl

set_option maxRecDepth 100000 in
set_option maxHeartbeats 400000 in
theorem rend_any (a : Option Addr) (c : Nat) (l : List Q5) (w : World) (f : Nat) (hl : L5 w a l) (hf : f ≤ l.length) :
    Calls Try.prog 38 #[.slice a l.length c, .int .i64 (f : Int)] w fun e w' => e = .returned (.int .i64 (optI (endG (l.drop f) f 0))) ∧ w = w' := by
  have hlen := hl.1
  have HL := Lib.hid hl
  clear hl
  go_enter Try.func38, Try.ntmps38
  go_wp2_with fail
  go_loop [5, 6] (fun n j => ∃ q k : Nat, q ≤ k ∧ k ≤ l.length ∧ j = .int .i64 k ∧ n = .int .i64 q ∧ endG (l.drop k) k q = endG (l.drop f) f 0) (fun _ j => l.length - (intOf j).toNat)
  case atStart => exact ⟨0, f, by omega, hf, rfl, rfl, rfl⟩
  case round =>
    obtain ⟨q, k, hq, hk, rfl, rfl, hE⟩ := hrel
    by_cases hlt : k < l.length
    · obtain ⟨x, hx⟩ := lookup hlt
      obtain ⟨_, hnil | ⟨b, off, rfl, hb, hc⟩⟩ := HL.out
      · rw [hnil] at hlt; simp at hlt
      have p0 := (hc k x hx).1
      have ES := endG_step (n := q) hx
      rw [hE] at ES
      clear hc hx hE
      by_cases h24 : x.o = 24
      · rw [if_pos h24] at ES
        have t24 : (x.o == 24) = true := by simp [h24]
        have t23 : (x.o == 23) = false := by simp [h24]
        clear h24
        by_cases h0 : q = 0
        · rw [if_pos h0] at ES
          have t0 : ((q : Int) == 0) = true := by simp [h0]
          have EE := Lib.hid ES
          clear h0 ES
          go_wp2_with fail
          go_ret
          exact ⟨ret_i64' (by rw [EE.out]; rfl), rfl⟩
        · rw [if_neg h0] at ES
          have t0 : ((q : Int) == 0) = false := by simp [h0]
          have EE := Lib.hid ES
          obtain ⟨q', rfl⟩ : ∃ q', q = q' + 1 := ⟨q - 1, by omega⟩
          clear h0 ES
          go_wp2_with fail
          refine ⟨⟨q', k + 1, by omega, by omega, by go_num, by first | rfl | (congr 1; done) | (congr 1; omega), ?_⟩, by simp [intOf]; omega⟩
          rw [EE.out, Nat.add_sub_cancel]
      · rw [if_neg h24] at ES
        have t24 : (x.o == 24) = false := by simp [h24]
        clear h24
        by_cases h23 : x.o = 23
        · rw [if_pos h23] at ES
          have t23 : (x.o == 23) = true := by simp [h23]
          have EE := Lib.hid ES
          clear h23 ES
          go_wp2_with fail
          refine ⟨⟨q + 1, k + 1, by omega, by omega, by go_num, by go_num, EE.out.symm⟩, by simp [intOf]; omega⟩
        · rw [if_neg h23] at ES
          have t23 : (x.o == 23) = false := by simp [h23]
          have EE := Lib.hid ES
          clear h23 ES
          go_wp2_with fail
          refine ⟨⟨q, k + 1, by omega, by omega, by go_num, rfl, EE.out.symm⟩, by simp [intOf]; omega⟩
    · obtain rfl : k = l.length := by omega
      have EE := Lib.hid hE
      clear hE hlt
      go_wp2_with fail
      go_ret
      refine ⟨ret_i64' ?_, rfl⟩
      rw [← EE.out, List.drop_length]
      rfl

def REndsPost (w : World) (l : List Q5) (e : Ending) (w' : World) : Prop :=
  (match endsS l with
    | some P => ∃ v, e = .returned (.tuple #[v, .bool true]) ∧ OwnI w' w.heap.size v P
    | none => ∃ v, e = .returned (.tuple #[v, .bool false]) ∧ OwnI w' w.heap.size v []) ∧ Below w.heap.size w w'
theorem rends_no {w w2 : World} {l : List Q5} {v : Value} (h : refE l = none) (hv : OwnI w2 w.heap.size v []) (hb : Below w.heap.size w w2) : REndsPost w l (.returned (.tuple #[v, .bool false])) w2 := by
  unfold REndsPost
  rw [← refE_eq, h]
  exact ⟨⟨v, rfl, hv⟩, hb⟩
theorem rends_yes {w w2 : World} {l : List Q5} {v : Value} {P : List Int} (h : refE l = some P) (hv : OwnI w2 w.heap.size v P) (hb : Below w.heap.size w w2) : REndsPost w l (.returned (.tuple #[v, .bool true])) w2 := by
  unfold REndsPost
  rw [← refE_eq, h]
  exact ⟨⟨v, rfl, hv⟩, hb⟩
theorem refR_step {l : List Q5} {j : Nat} {x : Q5} {o : List Int} (hx : l[j]? = some x) : refR (l.drop j) j o = if x.o = 23 then (match endG (l.drop (j + 1)) (j + 1) 0 with
      | none => none
      | some k => refR (l.drop (j + 1)) (j + 1) ((o.set j (k : Int)).set k (j : Int))) else refR (l.drop (j + 1)) (j + 1) o := by
  have hk : j < l.length := by
    rcases Nat.lt_or_ge j l.length with g | g
    · exact g
    · rw [List.getElem?_eq_none g] at hx; cases hx
  have e : l.drop j = x :: l.drop (j + 1) := by
    rw [List.drop_eq_getElem_cons hk]
    congr 1
    rw [List.getElem?_eq_getElem hk] at hx
    exact Option.some.inj hx
  rw [e]
  rfl
theorem okR_step {l : List Q5} {j : Nat} {x : Q5} {o : List Int} (hx : l[j]? = some x) : okR (l.drop j) j o = if x.o = 24 ∧ o.getD j 0 < 0 then false else okR (l.drop (j + 1)) (j + 1) o := by
  have hk : j < l.length := by
    rcases Nat.lt_or_ge j l.length with g | g
    · exact g
    · rw [List.getElem?_eq_none g] at hx; cases hx
  have e : l.drop j = x :: l.drop (j + 1) := by
    rw [List.drop_eq_getElem_cons hk]
    congr 1
    rw [List.getElem?_eq_getElem hk] at hx
    exact Option.some.inj hx
  rw [e]
  rfl
theorem own_row_i {w : World} {H n : Nat} {o : List Int} {base : Nat} (h : w.ownsRow base 3 1 (.slice (some ⟨H, 0, none⟩) n n) n (o.map iv)) (j : Nat) (z : Int) (hj : o[j]? = some z) (hn : j < n) : w.cell? ⟨H, j, none⟩ = some (.int .i64 z) := by
  have := h.cellAt j (by omega)
  rw [List.getElem?_map, hj, Option.map_some] at this
  exact this
theorem rep_set {n k : Nat} (h : k < n) : (List.replicate k (-1 : Int) ++ List.replicate (n - k) 0).set k (-1) = List.replicate (k + 1) (-1) ++ List.replicate (n - (k + 1)) 0 := by
  rw [List.set_append_right _ _ (by simp)]
  obtain ⟨m, hm⟩ : ∃ m, n - k = m + 1 := ⟨n - k - 1, by omega⟩
  rw [hm, List.replicate_succ, List.replicate_succ']
  simp only [List.length_replicate, Nat.sub_self, List.set_cons_zero, List.append_assoc, List.cons_append, List.nil_append]
  congr 2
  congr 1
  omega

set_option maxRecDepth 100000 in
set_option maxHeartbeats 1000000 in
theorem rends_any (a : Option Addr) (c : Nat) (l : List Q5) (w : World) (hl : L5 w a l) :
    Calls Try.prog 24 #[.slice a l.length c] w (REndsPost w l) := by
  have hlen := hl.1
  have hmk := fun W => run_make_row' (P := Try.prog) 40 3 (.int .i64 0) 8 Try.underlying40 info_int rfl .i64 .i64 l.length (by omega) (by omega) W
  have OW0 := Lib.hid (World.ownsRow_lit (base := w.heap.size) (size := 1) (e := 3) w (madeCells #[Value.int .i64 0] l.length) l.length (Nat.le_refl _) (by simp only [maxLen]; omega) (by rw [size_madeCells]; omega))
  have HL := Lib.hid hl
  clear hl
  go_enter Try.func24, Try.ntmps24
  go_wp2_with fail
  go_loopw [5] (fun i wr => ∃ k : Nat, k ≤ l.length ∧ i = .int .i64 k ∧ wr.ownsRow w.heap.size 3 1 (.slice (some ⟨w.heap.size, 0, none⟩) l.length l.length) l.length ((List.replicate k (-1 : Int) ++ List.replicate (l.length - k) 0).map iv) ∧ Below w.heap.size w wr) (fun i _ => l.length - (intOf i).toNat)
  case atStart => exact ⟨0, Nat.zero_le _, rfl, by rw [List.replicate_zero, List.nil_append, Nat.sub_zero, ← made_zero]; exact OW0.out, by go_grown⟩
  case round =>
    obtain ⟨k, hk, rfl, own4, hb⟩ := hrel
    clear hmk
    have hz := (own4.lt w.heap.size rfl).2
    by_cases hlt : k < l.length
    · have c4 := own_row_i own4 k 0 (by rw [List.getElem?_append_right (by simp), List.getElem?_replicate, if_pos (by simp; omega)]) hlt
      have fz := own4.frozenAt k
      have ST := Lib.hid (own4.stored k (iv (-1))).1
      have HB := Lib.hid hb
      have RS := Lib.hid (rep_set hlt)
      clear own4 hb
      go_wp2_with fail
      refine ⟨⟨k + 1, by omega, rfl, ?_, HB.out.setCell (Nat.le_refl _) _⟩, by simp [intOf]; omega⟩
      have := ST.out
      rw [← List.map_set, RS.out] at this
      exact this
    · obtain rfl : k = l.length := by omega
      have HB := Lib.hid hb
      have H4 := Lib.hid (show wr.ownsRow w.heap.size 3 1 (.slice (some ⟨w.heap.size, 0, none⟩) l.length l.length) l.length ((List.replicate l.length (-1 : Int)).map iv) by simpa using own4)
      clear own4 hb hlt
      go_wp2_with fail
      go_loopw [6] (fun i wr => ∃ (k : Nat) (o : List Int), k ≤ l.length ∧ i = .int .i64 k ∧ o.length = l.length ∧ refR (l.drop k) k o = refR l 0 (List.replicate l.length (-1)) ∧ wr.ownsRow w.heap.size 3 1 (.slice (some ⟨w.heap.size, 0, none⟩) l.length l.length) l.length (o.map iv) ∧ Below w.heap.size w wr) (fun i _ => l.length - (intOf i).toNat)
      case atStart => exact ⟨0, List.replicate l.length (-1), Nat.zero_le _, rfl, by simp, rfl, H4.out, HB.out⟩
      case round =>
        obtain ⟨k, o, hk, rfl, ho, hR, own4, hb⟩ := hrel
        have hz := (own4.lt w.heap.size rfl).2
        by_cases hlt : k < l.length
        · obtain ⟨x, hx⟩ := lookup hlt
          have hl2 := HL.out.later hb
          have L2 := Lib.hid hl2
          obtain ⟨_, hnil | ⟨bb, off, rfl, hbb, hc⟩⟩ := hl2
          · rw [hnil] at hlt; simp at hlt
          have p0 := (hc k x hx).1
          have RS := refR_step (o := o) hx
          rw [hR] at RS
          have HB := Lib.hid hb
          by_cases h23 : x.o = 23
          · rw [if_pos h23] at RS
            have t23 : (x.o == 23) = true := by simp [h23]
            have END := Lib.hid (rend_any (some ⟨bb, off, none⟩) c l · (k + 1) · (by omega))
            cases hm : endG (l.drop (k + 1)) (k + 1) 0 with
            | none =>
              rw [hm] at RS
              have RR := Lib.hid RS
              have HM := Lib.hid hm
              clear RS hm hx hc hb hR own4 h23
              go_wp2_with fail
              refine (END.out wr L2.out).mono ?_
              rw [HM.out]
              rintro e w1 ⟨rfl, rfl⟩
              simp only [optI]
              go_wp2_with fail
              go_ret2
              exact rends_no (by unfold refE; rw [RR.out]) (own_made wr w.heap.size HB.out.size _ rfl) (HB.out.alloc HB.out.size _)
            | some q =>
              rw [hm] at RS
              have RR := Lib.hid RS
              have HM := Lib.hid hm
              have hge := endG_ge _ _ _ _ hm
              have hq : q < l.length := by have := hge.2.1; simp at this; omega
              have hkq : k < q := by omega
              obtain ⟨y1, hy1⟩ := lookup (l := o) (k := k) (by omega)
              obtain ⟨y2, hy2⟩ := lookup (l := o) (k := q) (by omega)
              have ck := own_row_i own4 k y1 hy1 hlt
              have cq := own_row_i own4 q y2 hy2 hq
              have fk := own4.frozenAt k
              have fq := own4.frozenAt q
              have ST := Lib.hid ((own4.stored k (iv (q : Int))).1.stored q (iv (k : Int))).1
              clear RS hm hx hc hb hR own4 h23 hge hy1 hy2
              go_wp2_with fail
              refine (END.out wr L2.out).mono ?_
              rw [HM.out]
              rintro e w1 ⟨rfl, rfl⟩
              simp only [optI]
              go_wp2_with fail
              refine ⟨⟨k + 1, (o.set k (q : Int)).set q (k : Int), by omega, rfl, by simpa using ho, RR.out.symm, ?_, (HB.out.setCell (Nat.le_refl _) _).setCell (Nat.le_refl _) _⟩, by simp [intOf]; omega⟩
              rw [List.map_set, List.map_set]
              exact ST.out
          · rw [if_neg h23] at RS
            have t23 : (x.o == 23) = false := by simp [h23]
            have RR := Lib.hid RS
            have H4 := Lib.hid own4
            clear RS hx hc hb hR own4 h23
            go_wp2_with fail
            refine ⟨⟨k + 1, o, by omega, rfl, ho, RR.out.symm, H4.out, HB.out⟩, by simp [intOf]; omega⟩
        · obtain rfl : k = l.length := by omega
          rw [List.drop_length] at hR
          have RR := Lib.hid (show refR l 0 (List.replicate l.length (-1)) = some o from hR.symm)
          have HB := Lib.hid hb
          have H4 := Lib.hid own4
          have HLL := Lib.hid (HL.out.later hb)
          have CELL := Lib.hid (fun j z hj hn => own_row_i own4 j z hj hn)
          clear hR hb own4 hlt
          go_wp2_with fail
          go_loop [8] (fun i => ∃ k : Nat, k ≤ l.length ∧ i = .int .i64 k ∧ okR (l.drop k) k o = okR l 0 o) (fun i => l.length - (intOf i).toNat)
          case atStart => exact ⟨0, Nat.zero_le _, rfl, rfl⟩
          case round =>
            obtain ⟨k, hk, rfl, hO⟩ := hrel
            by_cases hlt : k < l.length
            · obtain ⟨x, hx⟩ := lookup hlt
              obtain ⟨_, hnil | ⟨bb, off, rfl, hbb, hc⟩⟩ := HLL.out
              · rw [hnil] at hlt; simp at hlt
              have p0 := (hc k x hx).1
              obtain ⟨z, hz2⟩ := lookup (l := o) (k := k) (by omega)
              have c4 := CELL.out k z hz2 hlt
              have OS := okR_step (o := o) hx
              rw [hO] at OS
              have hg : o.getD k 0 = z := by rw [List.getD, hz2]; rfl
              rw [hg] at OS
              clear hx hc hO hz2 hg
              by_cases h24 : x.o = 24
              · have t24 : (x.o == 24) = true := by simp [h24]
                by_cases hneg : z < 0
                · rw [if_pos ⟨h24, hneg⟩] at OS
                  have OO := Lib.hid OS
                  clear OS h24
                  go_wp2_with fail
                  go_ret2
                  exact rends_no (by unfold refE; rw [RR.out]; simp only; rw [OO.out]; rfl) (own_made wr w.heap.size HB.out.size _ rfl) (HB.out.alloc HB.out.size _)
                · rw [if_neg (by omega)] at OS
                  have OO := Lib.hid OS
                  clear OS h24
                  go_wp2_with fail
                  exact ⟨⟨k + 1, by omega, by go_num, OO.out.symm⟩, by simp [intOf]; omega⟩
              · rw [if_neg (by omega)] at OS
                have t24 : (x.o == 24) = false := by simp [h24]
                have OO := Lib.hid OS
                clear OS h24
                go_wp2_with fail
                exact ⟨⟨k + 1, by omega, by go_num, OO.out.symm⟩, by simp [intOf]; omega⟩
            · obtain rfl : k = l.length := by omega
              rw [List.drop_length] at hO
              have OO := Lib.hid (show okR l 0 o = true from hO.symm)
              clear hO hlt
              go_wp2_with fail
              go_ret2
              exact rends_yes (by unfold refE; rw [RR.out]; simp only; rw [OO.out]; rfl) (by unfold OwnI; rw [ho]; exact H4.out) HB.out
end Go.Proofs.Ytlieapapmkbbgaa

namespace Go.Proofs.Ytlieapapmkbbgaa
open Go Go.RowKit
set_option linter.unusedVariables false

theorem runC_fail {l : List Q5} {i : Nat} {x : Q5} {cs : List Int} (hx : l[i]? = some x) (h24 : x.o ≠ 24) (hrun : runC (l.drop i) cs = runC l []) (h : (writesS x ≠ -1 ∧ writesS x ∈ cs) ∨ (x.o = 23 ∧ cs.length = 10)) : countedS l = false := cnt_no hx h24 h hrun
theorem writes_d {x : Q5} (hc : canS x = true) (hd : hasD x.o = true) : writesS x = x.d := by unfold writesS; simp [hc, hd]
theorem writes_m {x : Q5} (hd : hasD x.o = false) : writesS x = -1 := by unfold writesS; simp [hd]
theorem dOf_at {l : List Q5} {k : Nat} {y : Q5} (h : l[k]? = some y) : dOf l k = y.d := by unfold dOf; rw [h]; rfl
/-- nothing is set that counts an open loop -/
def calm (l : List Q5) (x : Q5) (O : List Nat) (k : Nat) : Prop := ∀ b ∈ O, b < k → ¬ (hasD x.o = true ∧ x.d = dOf l b)
theorem calm_all {l : List Q5} {x : Q5} {O : List Nat} {k : Nat} (hc : canS x = true) (h : calm l x O k) (hO : ∀ b ∈ O, b < k) : ¬ (writesS x ≠ -1 ∧ writesS x ∈ O.map (dOf l)) := by
  rintro ⟨h1, h2⟩
  cases hd : hasD x.o
  · exact h1 (writes_m hd)
  · rw [writes_d hc hd] at h2
    obtain ⟨b, hb, e⟩ := List.mem_map.1 h2
    exact h b hb (hO b hb) ⟨hd, e.symm⟩
theorem calm_next {l : List Q5} {x : Q5} {O : List Nat} {k : Nat} (h : calm l x O k) (hk : k ∈ O → ¬ (hasD x.o = true ∧ x.d = dOf l k)) : calm l x O (k + 1) := by
  intro b hb hlt
  by_cases e : b = k
  · subst e; exact hk hb
  · exact h b hb (by omega)
def deepS (O : List Nat) (i k : Nat) (x : Q5) : Nat := (O.filter fun b => decide (b < k)).length + if k = i + 1 ∧ x.o = 23 then 1 else 0
theorem deep_0 (O : List Nat) (i : Nat) (x : Q5) : deepS O i 0 x = 0 := by
  unfold deepS
  rw [if_neg (by omega)]
  simp
theorem deep_lt {O : List Nat} {i k : Nat} {x : Q5} (hn : O.Nodup) (hk : k < i) : deepS O i (k + 1) x = deepS O i k x + if k ∈ O then 1 else 0 := by
  unfold deepS
  rw [filt_succ O k hn, if_neg (show ¬ (k + 1 = i + 1 ∧ x.o = 23) by omega), if_neg (show ¬ (k = i + 1 ∧ x.o = 23) by omega)]
  omega
theorem deep_i {O : List Nat} {i : Nat} {x : Q5} (hn : O.Nodup) (hO : ∀ b ∈ O, b < i) : deepS O i (i + 1) x = deepS O i i x + if x.o = 23 then 1 else 0 := by
  unfold deepS
  have hni : i ∉ O := fun h => by have := hO i h; omega
  rw [filt_succ O i hn, if_neg hni, if_neg (show ¬ (i = i + 1 ∧ x.o = 23) by omega)]
  by_cases h : x.o = 23
  · rw [if_pos ⟨rfl, h⟩, if_pos h]
  · rw [if_neg (fun g => h g.2), if_neg h]
theorem deep_end {O : List Nat} {i : Nat} {x : Q5} (hO : ∀ b ∈ O, b < i) : deepS O i (i + 1) x = O.length + if x.o = 23 then 1 else 0 := by
  unfold deepS
  rw [filt_all (fun b hb => by have := hO b hb; omega)]
  by_cases h : x.o = 23
  · rw [if_pos ⟨rfl, h⟩, if_pos h]
  · rw [if_neg (fun g => h g.2), if_neg h]
theorem deep_le (O : List Nat) (i k : Nat) (x : Q5) : deepS O i k x ≤ O.length + 1 := by
  unfold deepS
  have := List.length_filter_le (fun b => decide (b < k)) O
  split <;> omega
def ChkRel (w : World) (l : List Q5) (P : List Int) (i : Value) (wr : World) : Prop := ∃ (k : Nat) (Pk : List Int) (O : List Nat), k ≤ l.length ∧ i = .int .i64 k ∧ InvM l P k Pk O ∧ O.length ≤ 10 ∧ runC (l.drop k) (O.map (dOf l)) = runC l [] ∧ Below w.heap.size w wr
theorem chk_next {w w2 : World} {l : List Q5} {P : List Int} {k : Nat} {Pk : List Int} {O : List Nat} {x : Q5} {i : Value} (hx : l[k]? = some x) (hlt : k < l.length) (hi : InvM l P k Pk O) (h10 : O.length ≤ 10) (hr : runC (l.drop k) (O.map (dOf l)) = runC l [])
    (hc : canS x = true) (hq : calm l x O (k + 1)) (hd : ¬ (x.o = 23 ∧ 10 ≤ O.length)) (hb : Below w.heap.size w w2) (hv : i = .int .i64 ((k + 1 : Nat) : Int)) : ChkRel w l P i w2 := by
  have hOl : ∀ b ∈ O, b < k := fun b hb => (hi.2.1 b hb).1
  have hw := calm_all hc hq (fun b hb => by have := hOl b hb; omega)
  rw [runC_step hx] at hr
  by_cases h23 : x.o = 23
  · refine ⟨k + 1, _, _, by omega, hv, inv_23 hi hx h23, by simp; omega, ?_, hb⟩
    rw [← hr, stepC, if_neg (by omega), if_neg hw, if_pos h23, if_neg (by simp; omega)]
    simp [dOf_at hx]
  · by_cases h24 : x.o = 24
    · obtain ⟨hne, Pj', hi'⟩ := inv_24 hi hx h24
      refine ⟨k + 1, _, _, by omega, hv, hi', by rw [List.length_dropLast]; omega, ?_, hb⟩
      rw [← hr, stepC, if_pos h24, List.map_dropLast]
    · refine ⟨k + 1, _, _, by omega, hv, inv_other hi hx h23 h24, h10, ?_, hb⟩
      rw [← hr, stepC, if_neg h24, if_neg hw, if_neg h23]
theorem hasD_not24 {o : Int} (h : hasD o = true) : o ≠ 24 := by
  intro e
  subst e
  revert h
  decide

set_option maxRecDepth 100000 in
set_option maxHeartbeats 2000000 in
theorem rcheck_any (a : Option Addr) (c : Nat) (l : List Q5) (w : World) (hl : L5 w a l) (hwf : ∀ x ∈ l, x.wf) :
    Calls Try.prog 12 #[.slice a l.length c] w fun e w' => e = .returned (.int .i64 (checkS l)) ∧ Below w.heap.size w w' := by
  have hlen := hl.1
  have HL := Lib.hid hl
  have HW := Lib.hid hwf
  clear hl hwf
  by_cases h2 : 20000 < l.length
  · have E := Lib.hid (check_long h2)
    have h2' : decide (20000 < l.length) = true := by simpa using h2
    go_enter Try.func12, Try.ntmps12
    go_wp2_with fail
    go_ret
    exact ⟨ret_i64' E.out.symm, by go_grown⟩
  · have H2 := Lib.hid h2
    have h2' : decide (20000 < l.length) = false := by simpa using h2
    go_enter Try.func12, Try.ntmps12
    go_wp2_with fail
    clear h2'
    go_loopw [3] (fun i wr => ∃ k : Nat, k ≤ l.length ∧ i = .int .i64 k ∧ (∀ x ∈ l.take k, canS x = true) ∧ Below w.heap.size w wr) (fun i _ => l.length - (intOf i).toNat)
    case atStart => exact ⟨0, Nat.zero_le _, rfl, by simp, by go_grown⟩
    case round =>
      obtain ⟨k, hk, rfl, hall, hb⟩ := hrel
      have HA := Lib.hid hall
      clear hall
      by_cases hlt : k < l.length
      · obtain ⟨x, hx⟩ := lookup hlt
        have hxw := HW.out x (List.mem_of_getElem? hx)
        obtain ⟨xo, xd, xa, xb, xi⟩ := x
        have hI : -2147483648 ≤ xi ∧ xi ≤ 2147483647 := by
          have := hxw.2.2.2.2
          simpa [Lit.wf, IntKind.min, IntKind.max, IntKind.signed, IntKind.bits] using this
        have hl2 := HL.out.later hb
        obtain ⟨_, hnil | ⟨bb, off, rfl, hbb, hc⟩⟩ := hl2
        · rw [hnil] at hlt; simp at hlt
        obtain ⟨p0, p1, p2, p3, p4⟩ := hc k _ hx
        have HX := Lib.hid hx
        have HB := Lib.hid hb
        have hz := hb.size
        clear hx hc hb hxw
        cases hcx : canS ⟨xo, xd, xa, xb, xi⟩
        · have E := Lib.hid (check_arg H2.out (List.mem_of_getElem? HX.out) hcx)
          have C := Lib.hid (rcan_is xo xd xa xb xi · hI hcx)
          clear hcx
          go_wp2_with fail
          refine (C.out _).mono ?_
          rintro e w1 ⟨rfl, rfl⟩
          go_wp2_with fail
          go_ret
          exact ⟨ret_i64' E.out.symm, HB.out.alloc (by omega) _⟩
        · have C := Lib.hid (rcan_is xo xd xa xb xi · hI hcx)
          have CX := Lib.hid hcx
          clear hcx
          go_wp2_with fail
          refine (C.out _).mono ?_
          rintro e w1 ⟨rfl, rfl⟩
          go_wp2_with fail
          refine ⟨⟨k + 1, by omega, rfl, ?_, HB.out.alloc (by omega) _⟩, by first | (simp [intOf]; done) | (simp [intOf]; omega)⟩
          intro y hy
          rw [List.take_add_one, HX.out] at hy
          rcases List.mem_append.1 hy with g | g
          · exact HA.out y g
          · simp at g; subst g; exact CX.out
      · obtain rfl : k = l.length := by omega
        clear hlt
        have hall := HA.out
        rw [List.take_length] at hall
        have HC := Lib.hid hall
        have HB := Lib.hid hb
        have L2 := Lib.hid (HL.out.later hb)
        have hz := hb.size
        clear hall hb HA
        go_wp2_with fail
        refine (rends_any a c l wr L2.out).mono ?_
        unfold REndsPost
        cases he : endsS l with
        | none =>
          have E := Lib.hid (check_ends H2.out HC.out he)
          clear he
          rintro e w1 ⟨⟨v, rfl, _⟩, hb1⟩
          have HB1 := Lib.hid (HB.out.trans (hb1.mono hz))
          clear hb1
          go_wp2_with fail
          go_ret
          exact ⟨ret_i64' E.out.symm, HB1.out⟩
        | some P =>
          have E := Lib.hid (check_cnt H2.out HC.out he)
          have EB := Lib.hid (ends_back he)
          have IS := Lib.hid (inv_start he)
          clear he
          rintro e w1 ⟨⟨v, rfl, hown⟩, hb1⟩
          have HB1 := Lib.hid (HB.out.trans (hb1.mono hz))
          have L3 := Lib.hid (L2.out.later hb1)
          obtain ⟨a2, c2, rfl, hI2⟩ := own_i hown (by rw [EB.out.1]; exact hlen)
          have I2 := Lib.hid hI2
          have hPl : P.length = l.length := EB.out.1
          have HPl := Lib.hid hPl
          clear hb1 hown hI2 hPl
          go_wp2_with fail
          go_loopw [6] (fun i wr => ChkRel w1 l P i wr) (fun i _ => l.length - (intOf i).toNat)
          case atStart => exact ⟨0, _, [], Nat.zero_le _, rfl, IS.out, by simp, rfl, Below.refl _ _⟩
          case round =>
            obtain ⟨i, Pi, O, hi, rfl, hinv, h10, hrun, hb⟩ := hrel
            obtain ⟨wo, rfl⟩ : ∃ wo : World, wo = wr := ⟨_, rfl⟩
            have HBo := Lib.hid hb
            have HI := Lib.hid hinv
            have HR := Lib.hid hrun
            by_cases hlt : i < l.length
            · obtain ⟨x, hx⟩ := lookup hlt
              have hcx := HC.out x (List.mem_of_getElem? hx)
              obtain ⟨_, hnil | ⟨bb, off, rfl, hbb, hc⟩⟩ := L3.out.later hb
              · rw [hnil] at hlt; simp at hlt
              obtain ⟨_, hnil | ⟨b2, off2, rfl, hb2, hc2⟩⟩ := I2.out.later hb
              · rw [hnil] at HPl; have := HPl.out; simp at this; omega
              have pi0 := (hc i x hx).1
              have pi1 := (hc i x hx).2.1
              have CELL := Lib.hid hc
              have CELP := Lib.hid hc2
              have HX := Lib.hid hx
              have HCX := Lib.hid hcx
              have HOl := Lib.hid (show ∀ b ∈ O, b < i from fun b hb => (hinv.2.1 b hb).1)
              clear hinv hrun hb hx hcx hc hc2
              go_wp2_with fail
              go_loopw [7, 8] (fun dp kk wr => ∃ k : Nat, k ≤ i + 1 ∧ kk = .int .i64 k ∧ dp = .int .i64 (deepS O i k x : Nat) ∧ calm l x O k ∧ Below wo.heap.size wo wr) (fun _ kk _ => i + 1 - (intOf kk).toNat)
              case atStart => exact ⟨0, by omega, rfl, by rw [deep_0]; rfl, by intro b _ h; omega, Below.refl _ _⟩
              case round =>
                obtain ⟨k, hk, rfl, rfl, hcalm, hbw⟩ := hrel
                have HQ := Lib.hid hcalm
                have dle := deep_le O i k x
                have hwo := HBo.out.size
                have qi0 := (hbw.cell hbb).trans pi0
                have qi1 := (hbw.cell hbb).trans pi1
                have HW2 := Lib.hid hbw
                have HB4 := Lib.hid (HB1.out.trans ((HBo.out.trans (hbw.mono HBo.out.size)).mono HB1.out.size))
                have HB5 := Lib.hid (HBo.out.trans (hbw.mono HBo.out.size))
                clear hcalm hbw
                by_cases hki : k < i + 1
                · obtain ⟨y, hy⟩ := lookup (l := l) (k := k) (by omega)
                  obtain ⟨z, hz2⟩ := lookup (l := P) (k := k) (by rw [HPl.out]; omega)
                  have pk0 := (HW2.out.cell hbb).trans (CELL.out k y hy).1
                  have pk1 := (HW2.out.cell hbb).trans (CELL.out k y hy).2.1
                  have ez := (HW2.out.cell hb2).trans (CELP.out k z hz2)
                  have hkP : k < P.length := by rw [HPl.out]; omega
                  by_cases hy23 : y.o = 23
                  · have ty : (y.o != 23) = false := by simp [hy23]
                    by_cases hlt2 : k < i
                    · obtain ⟨z', hz', hiff⟩ := inv_open HI.out hi k y hlt2 hy hy23
                      rw [hz2] at hz'
                      obtain rfl : z = z' := Option.some.inj hz'
                      have hlt3 : decide (k < i) = true := by simpa using hlt2
                      have DL := Lib.hid (deep_lt (x := x) HI.out.2.2.1 hlt2)
                      have DY := Lib.hid (dOf_at hy)
                      clear hz' hz2 hy
                      by_cases hz3 : (i : Int) ≤ z
                      · have hkO := hiff.2 hz3
                        rw [if_pos hkO] at DL
                        have HKO := Lib.hid hkO
                        clear hiff hkO hy23
                        have DE : deepS O i (k + 1) x = deepS O i k x + 1 := DL.out
                        generalize deepS O i k x = dp0 at *
                        have HDE := Lib.hid DE
                        clear DE
                        go_wp2_with fail
                        refine (lhas_any x.o _).mono ?_
                        unfold HasPost
                        cases hd : hasD x.o
                        · have HDD := Lib.hid hd
                          clear hd
                          rintro e w2 ⟨rfl, rfl⟩
                          go_wp2_with fail
                          go_quiet (fail)
                          go_wp2_with fail
                          refine ⟨⟨k + 1, by omega, by go_num, by rw [HDE.out]; go_num, calm_next HQ.out (fun _ h => by rw [HDD.out] at h; cases h.1), by first | exact HW2.out | exact below_drewN HW2.out _⟩, by first | (simp [intOf]; done) | (simp [intOf]; omega)⟩
                        · have HDD := Lib.hid hd
                          clear hd
                          by_cases hdd : x.d = y.d
                          · have td : (x.d == y.d) = true := by simp [hdd]
                            have HEQ := Lib.hid hdd
                            clear hdd
                            rintro e w2 ⟨rfl, rfl⟩
                            go_wp2_with fail
                            go_quiet (fail)
                            go_wp2_with fail
                            go_ret
                            refine ⟨ret_i64' ?_, by first | exact HB4.out | exact below_drewN HB4.out _⟩
                            rw [E.out, runC_fail HX.out (hasD_not24 HDD.out) HR.out (Or.inl ⟨?_, ?_⟩)]
                            · rfl
                            · rw [writes_d HCX.out HDD.out]; have := can_d HCX.out; omega
                            · rw [writes_d HCX.out HDD.out, HEQ.out, ← DY.out]; exact List.mem_map.2 ⟨k, HKO.out, rfl⟩
                          · have td : (x.d == y.d) = false := by simp [hdd]
                            have HEQ := Lib.hid hdd
                            clear hdd
                            rintro e w2 ⟨rfl, rfl⟩
                            go_wp2_with fail
                            go_quiet (fail)
                            go_wp2_with fail
                            refine ⟨⟨k + 1, by omega, by go_num, by rw [HDE.out]; go_num, calm_next HQ.out (fun _ h => HEQ.out (by rw [h.2, DY.out])), by first | exact HW2.out | exact below_drewN HW2.out _⟩, by first | (simp [intOf]; done) | (simp [intOf]; omega)⟩
                      · have hkO : k ∉ O := fun h => hz3 (hiff.1 h)
                        rw [if_neg hkO] at DL
                        have HKO := Lib.hid hkO
                        clear hiff hkO hy23
                        go_wp2_with fail
                        refine ⟨⟨k + 1, by omega, by go_num, by rw [DL.out]; rfl, calm_next HQ.out (fun h => absurd h HKO.out), by first | exact HW2.out | exact below_drewN HW2.out _⟩, by first | (simp [intOf]; done) | (simp [intOf]; omega)⟩
                    · obtain rfl : k = i := by omega
                      rw [HX.out] at hy
                      obtain rfl : x = y := Option.some.inj hy
                      obtain ⟨z', hz', hzi⟩ := inv_self HI.out HX.out hy23
                      rw [hz2] at hz'
                      obtain rfl : z = z' := Option.some.inj hz'
                      have hlt3 : decide (k < k) = false := by simp
                      have DL := deep_i (x := x) HI.out.2.2.1 HOl.out
                      rw [if_pos hy23] at DL
                      have DLH := Lib.hid DL
                      have HNO := Lib.hid (show k ∉ O from fun h => by have := HOl.out k h; omega)
                      clear hz' hz2 hy DL hy23
                      generalize deepS O k k x = dp0 at *
                      go_wp2_with fail
                      refine (lhas_any x.o _).mono ?_
                      unfold HasPost
                      rintro e w2 ⟨rfl, rfl⟩
                      go_wp2_with fail
                      go_quiet (fail)
                      go_wp2_with fail
                      refine ⟨⟨k + 1, by omega, by go_num, by rw [DLH.out]; go_num, calm_next HQ.out (fun h => absurd h HNO.out), by first | exact HW2.out | exact below_drewN HW2.out _⟩, by first | (simp [intOf]; done) | (simp [intOf]; omega)⟩
                  · have ty : (y.o != 23) = true := by simp [hy23]
                    have hkO : k ∉ O := fun h => by
                      obtain ⟨_, y', hy', ho'⟩ := HI.out.2.1 k h
                      rw [hy] at hy'
                      cases hy'
                      exact hy23 ho'
                    have DL : deepS O i (k + 1) x = deepS O i k x := by
                      by_cases hlt2 : k < i
                      · rw [deep_lt HI.out.2.2.1 hlt2, if_neg hkO]; rfl
                      · obtain rfl : k = i := by omega
                        rw [HX.out] at hy
                        cases hy
                        rw [deep_i HI.out.2.2.1 HOl.out, if_neg hy23]; rfl
                    have DLH := Lib.hid DL
                    have HKO := Lib.hid hkO
                    clear DL hkO hy hz2 hy23
                    go_wp2_with fail
                    refine ⟨⟨k + 1, by omega, by go_num, by rw [DLH.out], calm_next HQ.out (fun h => absurd h HKO.out), by first | exact HW2.out | exact below_drewN HW2.out _⟩, by first | (simp [intOf]; done) | (simp [intOf]; omega)⟩
                · obtain rfl : k = i + 1 := by omega
                  have DE := deep_end (x := x) HOl.out
                  by_cases h23 : x.o = 23
                  · have t23 : (x.o == 23) = true := by simp [h23]
                    rw [if_pos h23] at DE
                    rw [DE] at dle ⊢
                    have H23 := Lib.hid h23
                    clear DE h23
                    by_cases h11 : 10 ≤ O.length
                    · have H11 := Lib.hid h11
                      go_wp2_with fail
                      go_ret
                      refine ⟨ret_i64' ?_, by first | exact HB4.out | exact below_drewN HB4.out _⟩
                      rw [E.out, runC_fail HX.out (by rw [H23.out]; decide) HR.out (Or.inr ⟨H23.out, by rw [List.length_map]; omega⟩)]
                      rfl
                    · go_wp2_with fail
                      exact ⟨chk_next HX.out hlt HI.out h10 HR.out HCX.out HQ.out (fun h => h11 h.2) HB5.out rfl, by first | (simp [intOf]; done) | (simp [intOf]; omega)⟩
                  · have t23 : (x.o == 23) = false := by simp [h23]
                    have H23 := Lib.hid h23
                    clear DE h23
                    go_wp2_with fail
                    exact ⟨chk_next HX.out hlt HI.out h10 HR.out HCX.out HQ.out (fun h => H23.out h.1) HB5.out rfl, by first | (simp [intOf]; done) | (simp [intOf]; omega)⟩
            · obtain rfl : i = l.length := by omega
              rw [List.drop_length] at hrun
              have CK := Lib.hid (show countedS l = true by unfold countedS; rw [← hrun]; rfl)
              clear hinv hrun hb hlt HR
              go_wp2_with fail
              go_ret
              refine ⟨ret_i64' ?_, HB1.out.trans (HBo.out.mono HB1.out.size)⟩
              rw [E.out, CK.out]
              rfl
end Go.Proofs.Ytlieapapmkbbgaa
