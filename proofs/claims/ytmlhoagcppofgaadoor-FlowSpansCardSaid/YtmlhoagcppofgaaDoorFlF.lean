/- Package flow: Next, for all words. -/
import Derived.Test.YtmlhoagcppofgaaDoorFlE
namespace Go.Proofs.YtmlhoagcppofgaaDoor
open Go Go.RowKit Pl
set_option linter.unusedVariables false

/-- what is put, ahead of its being sorted -/
def tgtQ (i n : Nat) (q : Q5) : List Int := if aimO q.o = true ∧ q.i % 4 = 0 then putF n ((i : Int) + q.i / 4) [] else []
def outQ (i n : Nat) (q : Q5) : List Int := if (decide (q.o ≠ 0) && onO q.o) = true then putF n ((i : Int) + 1) (tgtQ i n q) else tgtQ i n q
theorem putF_mem {n : Nat} {k x : Int} {l : List Int} : x ∈ putF n k l ↔ x ∈ l ∨ (x = k ∧ 0 ≤ k ∧ k < n) := by
  unfold putF
  by_cases h : (0 ≤ k ∧ k < (n : Int)) ∧ l.contains k = false
  · rw [if_pos h, List.mem_append, List.mem_singleton]
    constructor
    · rintro (g | g)
      · exact .inl g
      · exact .inr ⟨g, h.1⟩
    · rintro (g | g)
      · exact .inl g
      · exact .inr g.1
  · rw [if_neg h]
    constructor
    · exact .inl
    · rintro (g | ⟨rfl, g⟩)
      · exact g
      · cases hc : l.contains x
        · exact absurd ⟨g, hc⟩ h
        · simpa using hc
theorem putF_nodup {n : Nat} {k : Int} {l : List Int} (h : l.Nodup) : (putF n k l).Nodup := by
  unfold putF
  split
  · rename_i g
    rw [List.nodup_append]
    refine ⟨h, by simp, ?_⟩
    intro a ha b hb e
    simp at hb
    subst hb; subst e
    have := g.2
    simp at this
    exact this ha
  · exact h
theorem putF_len {n : Nat} {k : Int} {l : List Int} : (putF n k l).length ≤ l.length + 1 := by
  unfold putF; split <;> simp
theorem outQ_mem (i n : Nat) (q : Q5) (x : Int) : x ∈ outQ i n q ↔ ∃ k : Nat, x = k ∧ k < n ∧ goesQ q i k = true := by
  have ht : x ∈ tgtQ i n q ↔ (aimO q.o = true ∧ q.i % 4 = 0) ∧ x = (i : Int) + q.i / 4 ∧ 0 ≤ (i : Int) + q.i / 4 ∧ (i : Int) + q.i / 4 < n := by
    unfold tgtQ
    by_cases h : aimO q.o = true ∧ q.i % 4 = 0
    · rw [if_pos h, putF_mem]; simp [h]
    · rw [if_neg h]; simp [h]
  have ho : x ∈ outQ i n q ↔ x ∈ tgtQ i n q ∨ ((decide (q.o ≠ 0) && onO q.o) = true ∧ x = (i : Int) + 1 ∧ 0 ≤ (i : Int) + 1 ∧ (i : Int) + 1 < n) := by
    unfold outQ
    generalize (decide (q.o ≠ 0) && onO q.o) = b
    cases b
    · simp
    · rw [if_pos rfl, putF_mem]; simp
  rw [ho, ht]
  unfold goesQ aimQ comeQ
  constructor
  · rintro (⟨⟨h1, h2⟩, h3, h4, h5⟩ | ⟨h1, h2, _, h4⟩)
    · refine ⟨((i : Int) + q.i / 4).toNat, by omega, by omega, ?_⟩
      rw [h1, decide_eq_true (show q.i = 4 * ((((i : Int) + q.i / 4).toNat : Int) - i) by omega)]; rfl
    · refine ⟨i + 1, by omega, by omega, ?_⟩
      simp only [Bool.and_eq_true, decide_eq_true_eq] at h1
      rw [decide_eq_true h1.1, h1.2]; simp
  · rintro ⟨k, rfl, hk, h⟩
    simp only [Bool.or_eq_true, Bool.and_eq_true, decide_eq_true_eq] at h
    rcases h with ⟨h1, h2⟩ | ⟨⟨h1, h2⟩, h3⟩
    · exact .inl ⟨⟨h1, by omega⟩, by omega, by omega, by omega⟩
    · refine .inr ⟨by simp only [Bool.and_eq_true, decide_eq_true_eq]; exact ⟨h1, h3⟩, by omega, by omega, by omega⟩
theorem tgtQ_nodup (i n : Nat) (q : Q5) : (tgtQ i n q).Nodup := by
  unfold tgtQ; split
  · exact putF_nodup (by simp)
  · simp
theorem outQ_nodup (i n : Nat) (q : Q5) : (outQ i n q).Nodup := by
  unfold outQ; split
  · exact putF_nodup (tgtQ_nodup i n q)
  · exact tgtQ_nodup i n q
theorem own_base {w : World} {b b' n size : Nat} {e : TypeId} {v : Value} {xs : List Value} (h : w.ownsRow b e size v n xs) (hb : b' ≤ b) : w.ownsRow b' e size v n xs := by
  obtain ⟨hl, hh⟩ := h
  refine ⟨hl, ?_⟩
  rcases hh with hn | ⟨g, cap, cur, hv, hg, rest⟩
  · exact .inl hn
  · exact .inr ⟨g, cap, cur, hv, by omega, rest⟩
theorem range_lt : ∀ n : Nat, (List.range n).Pairwise (· < ·) := fun n => List.pairwise_lt_range
theorem next_lt (q : Q5) (i n : Nat) : (castI (nextN q i n)).Pairwise (fun a b => a < b) := by
  unfold castI nextN
  rw [List.pairwise_map]
  exact (List.Pairwise.filter _ (range_lt n)).imp fun h => by omega
theorem le_sort (l : List Int) : (sortI l).Pairwise (fun a b => a ≤ b) := by
  have := List.pairwise_mergeSort (le := fun (x y : Int) => decide (x ≤ y)) (fun a b c h1 h2 => by simp at *; omega) (fun a b => by simp; omega) l
  exact this.imp fun h => by simpa using h
theorem sort_out (i n : Nat) (q : Q5) : sortI (outQ i n q) = castI (nextN q i n) := by
  have nd : (castI (nextN q i n)).Nodup := (next_lt q i n).imp fun h => by omega
  refine List.Perm.eq_of_pairwise (le := fun a b : Int => a ≤ b) (fun a b _ _ h1 h2 => by omega) (le_sort _) ((next_lt q i n).imp fun h => by omega) ?_
  refine (List.mergeSort_perm _ _).trans ?_
  refine (List.perm_ext_iff_of_nodup (outQ_nodup i n q) nd).2 fun x => ?_
  rw [outQ_mem]
  unfold castI nextN
  simp only [List.mem_map, List.mem_filter, List.mem_range]
  constructor
  · rintro ⟨k, rfl, h1, h2⟩; exact ⟨k, ⟨h1, h2⟩, rfl⟩
  · rintro ⟨k, ⟨h1, h2⟩, rfl⟩; exact ⟨k, rfl, h1, h2⟩

set_option maxRecDepth 100000 in
set_option maxHeartbeats 1000000 in
theorem inext_out (a : Option Addr) (c : Nat) (l : List Nat) (i : Int) (w : World) (hi : ¬ (0 ≤ i ∧ i < (l.length : Int))) (hl : l.length ≤ 1000) :
    Calls Tryd.prog 8 #[.slice a l.length c, .int .i64 i] w fun e w' => e = .returned (.tuple #[.slice none 0 0, .bool false]) ∧ Below w.heap.size w w' := by
  have IP := Lib.hid (fun W => isPlace_any a l.length c i W hl)
  rw [decide_eq_false hi] at IP
  clear hi
  go_enter Tryd.func8, Tryd.ntmps8
  go_wp2_with (first | (go_at_call 20; refine (IP.out _).mono ?_; rintro e w3 ⟨rfl, rfl⟩))
  go_ret2
  exact ⟨rfl, by go_grown⟩
set_option maxRecDepth 100000 in
set_option maxHeartbeats 1000000 in
theorem inext_jalr (a : Option Addr) (c : Nat) (l : List Nat) (i : Nat) (w : World) (ht : T3 w) (hw : WordsC w a l c) (hi : i < l.length) (hl : l.length ≤ 1000) (ho : (qAt l i).o = 45) :
    Calls Tryd.prog 8 #[.slice a l.length c, .int .i64 (i : Nat)] w fun e w' => e = .returned (.tuple #[.slice none 0 0, .bool false]) ∧ Below w.heap.size w w' := by
  have IP := Lib.hid (fun W => isPlace_any a l.length c i W hl)
  rw [decide_eq_true (show 0 ≤ (i : Int) ∧ (i : Int) < (l.length : Int) by omega)] at IP
  obtain ⟨b, off, rfl, hbb, hc, hx⟩ := words_cell hw hi
  have hcl := hw.2.1
  have hcm := hw.2.2.1
  have HX := Lib.hid hx
  have HT := Lib.hid ht
  have HO := show (decI ((l.getD i 0 : Nat) : Int)).o = 45 from ho
  clear ho hw hx ht
  generalize l.getD i 0 = X at *
  obtain ⟨o, d, u, v, im, hQ, hok, hm⟩ := dec_gen (X : Int) (by omega) (by have := HX.out; omega)
  rw [hQ] at HO
  have HO' : o = 45 := HO
  subst HO'
  have HQ := Lib.hid hQ
  have HK := Lib.hid hok
  have c2 : (w.alloc (.cells #[.slice (some ⟨b, off, none⟩) l.length c] 22)).cell? ⟨b, off + i, none⟩ = some (.int .u32 (X : Int)) := by rw [World.cell?_alloc_past _ _ _ hbb]; exact hc
  clear hQ hok HO hc
  go_enter Tryd.func8, Tryd.ntmps8
  go_wp2_with (first | (go_at_call 20; refine (IP.out _).mono ?_; rintro e w3 ⟨rfl, rfl⟩) | (go_at_call 21; refine (dec_any _ _ (HT.out.later (by go_grown)) (by omega) (by have := HX.out; omega)).mono ?_; unfold DecP; rw [HQ.out, HK.out]; unfold agg5; rintro e w1 ⟨rfl, hb1⟩))
  go_ret2
  exact ⟨rfl, below_trans (below_trans (by go_grown) hb1) (by go_grown)⟩

/-- Next's own blocks -/
structure NxIs (w : World) (B I N : Nat) (a : Option Addr) (n c : Nat) (o d u v im : Int) (ls : List Int) (W : World) : Prop where
  cB : W.cell? ⟨B, 0, none⟩ = some (.slice a n c)
  c0 : W.cell? ⟨I, 0, none⟩ = some (.int .i64 o)
  c1 : W.cell? ⟨I, 1, none⟩ = some (.int .i64 d)
  c2 : W.cell? ⟨I, 2, none⟩ = some (.int .i64 u)
  c3 : W.cell? ⟨I, 3, none⟩ = some (.int .i64 v)
  c4 : W.cell? ⟨I, 4, none⟩ = some (.int .i32 im)
  bx : ∃ x, Boxed W N 24 x ∧ OwnI W N x ls
  lB : B < N
  lI : I < N
  lw : w.heap.size ≤ N
  bl : Below w.heap.size w W
theorem NxIs.ltN {w W : World} {B I N n c : Nat} {a : Option Addr} {o d u v im : Int} {ls : List Int} (h : NxIs w B I N a n c o d u v im ls W) : N < W.heap.size := by
  obtain ⟨x, hx, _⟩ := h.bx
  exact hx.lt
theorem NxIs.later {w W W' : World} {B I N n c : Nat} {a : Option Addr} {o d u v im : Int} {ls : List Int} (h : NxIs w B I N a n c o d u v im ls W) (hb : Below W.heap.size W W') : NxIs w B I N a n c o d u v im ls W' := by
  have hl := h.ltN
  have hB := h.lB
  have hI := h.lI
  obtain ⟨x, hx, hy⟩ := h.bx
  exact { cB := (hb.cell (p := ⟨B, 0, none⟩) (by show B < _; omega)).trans h.cB, c0 := (hb.cell (p := ⟨I, 0, none⟩) (by show I < _; omega)).trans h.c0, c1 := (hb.cell (p := ⟨I, 1, none⟩) (by show I < _; omega)).trans h.c1, c2 := (hb.cell (p := ⟨I, 2, none⟩) (by show I < _; omega)).trans h.c2, c3 := (hb.cell (p := ⟨I, 3, none⟩) (by show I < _; omega)).trans h.c3, c4 := (hb.cell (p := ⟨I, 4, none⟩) (by show I < _; omega)).trans h.c4, bx := ⟨x, hx.kept (grown_of_below hb none) (by simp), own_later hy hb⟩, lB := hB, lI := hI, lw := h.lw, bl := below_trans h.bl hb }
theorem NxIs.put {w W W' : World} {B I N n c : Nat} {a : Option Addr} {o d u v im : Int} {ls ls' : List Int} (h : NxIs w B I N a n c o d u v im ls W) (hp : PutS N W ls' W') : NxIs w B I N a n c o d u v im ls' W' := by
  have hb := hp.bl
  have hB := h.lB
  have hI := h.lI
  have hw := h.lw
  exact { cB := (hb.cell (p := ⟨B, 0, none⟩) hB).trans h.cB, c0 := (hb.cell (p := ⟨I, 0, none⟩) hI).trans h.c0, c1 := (hb.cell (p := ⟨I, 1, none⟩) hI).trans h.c1, c2 := (hb.cell (p := ⟨I, 2, none⟩) hI).trans h.c2, c3 := (hb.cell (p := ⟨I, 3, none⟩) hI).trans h.c3, c4 := (hb.cell (p := ⟨I, 4, none⟩) hI).trans h.c4, bx := hp.box, lB := hB, lI := hI, lw := hw, bl := h.bl.trans (hb.mono hw) }
theorem NxIs.mk1 {w w1 : World} {a : Option Addr} {n c : Nat} {o d u v im : Int} (hb : Below (w.alloc (.cells #[.slice a n c] 22)).heap.size (w.alloc (.cells #[.slice a n c] 22)) w1) :
    NxIs w w.heap.size w1.heap.size (w1.heap.size + 1) a n c o d u v im [] ((w1.alloc (.cells #[.int .i64 o, .int .i64 d, .int .i64 u, .int .i64 v, .int .i32 im] 29)).alloc (.cells #[.slice none 0 0] 24)) := by
  have hs := hb.size
  simp at hs
  have h1 : w1.cell? ⟨w.heap.size, 0, none⟩ = some (.slice a n c) := (hb.cell (p := ⟨w.heap.size, 0, none⟩) (by simp)).trans (by go_simp)
  refine { cB := ?_, c0 := ?_, c1 := ?_, c2 := ?_, c3 := ?_, c4 := ?_, bx := ⟨.slice none 0 0, ?_, own_nilI _ _⟩, lB := by omega, lI := by omega, lw := by omega, bl := ?_ }
  · rw [World.cell?_alloc_past _ _ _ (by simp; omega), World.cell?_alloc_past _ _ _ (by omega)]; exact h1
  · exact cell_two rfl
  · exact cell_two rfl
  · exact cell_two rfl
  · exact cell_two rfl
  · exact cell_two rfl
  · have := Boxed.new (w1.alloc (.cells #[.int .i64 o, .int .i64 d, .int .i64 u, .int .i64 v, .int .i32 im] 29)) 24 (.slice none 0 0)
    simpa using this
  · exact below_trans (below_trans (by go_grown) hb) (by go_grown)
set_option maxRecDepth 100000 in
set_option maxHeartbeats 1000000 in
theorem inext_any (a : Option Addr) (c : Nat) (l : List Nat) (i : Nat) (w : World) (ht : T3 w) (hw : WordsC w a l c) (hi : i < l.length) (hl : l.length ≤ 1000) (ho : (qAt l i).o ≠ 45) :
    Calls Tryd.prog 8 #[.slice a l.length c, .int .i64 (i : Nat)] w fun e w' => ∃ v, e = .returned (.tuple #[v, .bool true]) ∧ OwnI w' w.heap.size v (castI (nextN (qAt l i) i l.length)) ∧ Below w.heap.size w w' := by
  have IP := Lib.hid (fun W => isPlace_any a l.length c i W hl)
  rw [decide_eq_true (show 0 ≤ (i : Int) ∧ (i : Int) < (l.length : Int) by omega)] at IP
  have SO := Lib.hid (sort_out i l.length (qAt l i))
  obtain ⟨b, off, rfl, hbb, hc, hx⟩ := words_cell hw hi
  have hcl := hw.2.1
  have hcm := hw.2.2.1
  have HX := Lib.hid hx
  have HT := Lib.hid ht
  have QA : qAt l i = decI ((l.getD i 0 : Nat) : Int) := rfl
  rw [← SO.out, QA]
  rw [QA] at ho
  clear SO QA hw hx ht
  generalize l.getD i 0 = X at *
  obtain ⟨o, d, u, v, im, hQ, hok, hm⟩ := dec_gen (X : Int) (by omega) (by have := HX.out; omega)
  rw [hQ] at ho ⊢
  have t45 : (o == 45) = false := by simp; exact ho
  have HQ := Lib.hid hQ
  have c2 : (w.alloc (.cells #[.slice (some ⟨b, off, none⟩) l.length c] 22)).cell? ⟨b, off + i, none⟩ = some (.int .u32 (X : Int)) := by rw [World.cell?_alloc_past _ _ _ hbb]; exact hc
  have u9 := IntWalk.i64_in ((i : Int) + 1) (by omega)
  have MK := Lib.hid (fun w1 => NxIs.mk1 (w := w) (w1 := w1) (a := some ⟨b, off, none⟩) (n := l.length) (c := c) (o := o) (d := d) (u := u) (v := v) (im := im))
  have TGf := Lib.hid (fun (h : ¬ (aimO o = true ∧ im % 4 = 0)) W => target_no i o d u v im W hm.1 hm.2 h)
  have TGt := Lib.hid (fun (h : aimO o = true ∧ im % 4 = 0) W => target_yes i o d u v im ((i : Int) + im / 4) W (by omega) hm.1 hm.2 h.1 h.2 rfl)
  have GO := Lib.hid (fun W => goesOn_any o W)
  have OU := Lib.hid (show outQ i l.length ⟨o, d, u, v, im⟩ = if (decide (o ≠ 0) && onO o) = true then putF l.length ((i : Int) + 1) (tgtQ i l.length ⟨o, d, u, v, im⟩) else tgtQ i l.length ⟨o, d, u, v, im⟩ from rfl)
  have HP := Lib.hid (fun (B N : Nat) k ls W => put_any B N (some ⟨b, off, none⟩) l.length c k ls W)
  by_cases hT : aimO o = true ∧ im % 4 = 0
  · have TG := Lib.hid (TGt.out hT)
    have TQ := Lib.hid (show tgtQ i l.length ⟨o, d, u, v, im⟩ = putF l.length ((i : Int) + im / 4) [] by unfold tgtQ; rw [if_pos hT])
    have h0 : o ≠ 0 := by
      intro e
      subst e
      cases hT.1
    have h0d : decide (o ≠ 0) = true := by simp; exact h0
    rw [h0d] at hok
    have HK := Lib.hid hok
    have LN := Lib.hid (putF_len (n := l.length) (k := (i : Int) + im / 4) (l := []))
    generalize (i : Int) + im / 4 = K at *
    have LN2 := Lib.hid (putF_len (n := l.length) (k := (i : Int) + 1) (l := putF l.length K []))
    cases hO : onO o
    · have OQ := Lib.hid (show outQ i l.length ⟨o, d, u, v, im⟩ = putF l.length K [] by rw [OU.out, h0d, hO, TQ.out]; rfl)
      have LS := Lib.hid (show (putF l.length K []).length ≤ 1000 by have := LN.out; simp at this; omega)
      rw [OQ.out]
      rw [hO] at GO
      clear OU TQ OQ hO hT h0 hQ hok TGf TGt ho h0d hm hc LN2
      go_enter Tryd.func8, Tryd.ntmps8
      go_wp2_with (first | (go_at_call 20; refine (IP.out _).mono ?_; rintro e w3 ⟨rfl, rfl⟩) | (go_at_call 21; refine (dec_any _ _ (HT.out.later (by go_grown)) (by omega) (by have := HX.out; omega)).mono ?_; unfold DecP; rw [HQ.out, HK.out]; unfold agg5; rintro e w1 ⟨rfl, hb1⟩; have M1 := MK.out _ hb1))
      generalize World.alloc (World.alloc w1 _) _ = W1 at *
      refine (TG.out _).mono ?_
      rintro e w2 ⟨rfl, hb2⟩
      have M2 := M1.later hb2
      clear M1 hb2
      go_wp2_with fail
      refine (HP.out _ _ _ _ _ M2.cB hl M2.bx (by simp)).mono ?_
      rintro e w3 ⟨rfl, hp3⟩
      have M3 := M2.put hp3
      clear M2 hp3
      have c30 := M3.c0
      have M5 := M3
      clear M3
      have LB := M5.lw
      have BL := Lib.hid M5.bl
      obtain ⟨x, bx, own⟩ := M5.bx
      obtain ⟨ax, cx, rfl⟩ := own_formF own
      have cN := bx.cell
      have SR := Lib.hid (sort_own own (LS.out))
      have BX := Lib.hid bx
      have NR := Lib.hid (bx.not_row int_not_row own)
      have VO := Lib.hid own.lt
      clear M5 bx own
      go_wp2_with (first | (go_at_call 25; refine (GO.out _).mono ?_; rintro e w4 ⟨rfl, rfl⟩) | (go_at_call 26; refine SR.out.mono ?_; rintro e w6 ⟨rfl, ow6, hg6⟩; have c6 := (BX.out.kept hg6 NR.out).cell; have OW6 := Lib.hid ow6; have HG6 := Lib.hid hg6; clear ow6 hg6))
      go_ret2
      refine ⟨_, rfl, own_base OW6.out (by omega), below_grownF BL.out HG6.out BL.out.size (fun q hq => by have := (VO.out q hq).1; omega)⟩
    · have OQ := Lib.hid (show outQ i l.length ⟨o, d, u, v, im⟩ = putF l.length ((i : Int) + 1) (putF l.length K []) by rw [OU.out, h0d, hO, TQ.out]; rfl)
      have LS := Lib.hid (show (putF l.length ((i : Int) + 1) (putF l.length K [])).length ≤ 1000 by have := LN.out; have := LN2.out; simp at *; omega)
      rw [OQ.out]
      rw [hO] at GO
      clear OU TQ OQ hO hT h0 hQ hok TGf TGt ho h0d hm hc LN2
      go_enter Tryd.func8, Tryd.ntmps8
      go_wp2_with (first | (go_at_call 20; refine (IP.out _).mono ?_; rintro e w3 ⟨rfl, rfl⟩) | (go_at_call 21; refine (dec_any _ _ (HT.out.later (by go_grown)) (by omega) (by have := HX.out; omega)).mono ?_; unfold DecP; rw [HQ.out, HK.out]; unfold agg5; rintro e w1 ⟨rfl, hb1⟩; have M1 := MK.out _ hb1))
      generalize World.alloc (World.alloc w1 _) _ = W1 at *
      refine (TG.out _).mono ?_
      rintro e w2 ⟨rfl, hb2⟩
      have M2 := M1.later hb2
      clear M1 hb2
      go_wp2_with fail
      refine (HP.out _ _ _ _ _ M2.cB hl M2.bx (by simp)).mono ?_
      rintro e w3 ⟨rfl, hp3⟩
      have M3 := M2.put hp3
      clear M2 hp3
      have c30 := M3.c0
      go_wp2_with ((go_at_call 25; refine (GO.out _).mono ?_; rintro e w4 ⟨rfl, rfl⟩))
      refine (HP.out _ _ _ _ _ M3.cB hl M3.bx (by first | (simp; done) | (have := LN.out; simp at this ⊢; omega))).mono ?_
      rintro e w5 ⟨rfl, hp5⟩
      have M5 := M3.put hp5
      clear M3 hp5 c30
      have LB := M5.lw
      have BL := Lib.hid M5.bl
      obtain ⟨x, bx, own⟩ := M5.bx
      obtain ⟨ax, cx, rfl⟩ := own_formF own
      have cN := bx.cell
      have SR := Lib.hid (sort_own own (LS.out))
      have BX := Lib.hid bx
      have NR := Lib.hid (bx.not_row int_not_row own)
      have VO := Lib.hid own.lt
      clear M5 bx own
      go_wp2_with (first | (go_at_call 25; refine (GO.out _).mono ?_; rintro e w4 ⟨rfl, rfl⟩) | (go_at_call 26; refine SR.out.mono ?_; rintro e w6 ⟨rfl, ow6, hg6⟩; have c6 := (BX.out.kept hg6 NR.out).cell; have OW6 := Lib.hid ow6; have HG6 := Lib.hid hg6; clear ow6 hg6))
      go_ret2
      refine ⟨_, rfl, own_base OW6.out (by omega), below_grownF BL.out HG6.out BL.out.size (fun q hq => by have := (VO.out q hq).1; omega)⟩
  · have TG := Lib.hid (TGf.out hT)
    have TQ := Lib.hid (show tgtQ i l.length ⟨o, d, u, v, im⟩ = [] by unfold tgtQ; rw [if_neg hT])
    have LN := Lib.hid (show ([] : List Int).length ≤ 1 by simp)
    have LN2 := Lib.hid (putF_len (n := l.length) (k := (i : Int) + 1) (l := []))
    by_cases h0 : o = 0
    · subst h0
      have HK := Lib.hid (show okI (X : Int) = false from hok)
      have OQ := Lib.hid (show outQ i l.length ⟨0, d, u, v, im⟩ = [] by rw [OU.out, TQ.out]; rfl)
      have LS := Lib.hid (show ([] : List Int).length ≤ 1000 by simp)
      rw [OQ.out]
      clear OU TQ OQ hT hQ hok TGf TGt ho hm hc LN2
      go_enter Tryd.func8, Tryd.ntmps8
      go_wp2_with (first | (go_at_call 20; refine (IP.out _).mono ?_; rintro e w3 ⟨rfl, rfl⟩) | (go_at_call 21; refine (dec_any _ _ (HT.out.later (by go_grown)) (by omega) (by have := HX.out; omega)).mono ?_; unfold DecP; rw [HQ.out, HK.out]; unfold agg5; rintro e w1 ⟨rfl, hb1⟩; have M1 := MK.out _ hb1))
      generalize World.alloc (World.alloc w1 _) _ = W1 at *
      refine (TG.out _).mono ?_
      rintro e w2 ⟨rfl, hb2⟩
      have M2 := M1.later hb2
      clear M1 hb2
      have M3 := M2
      clear M2
      have c30 := M3.c0
      have M5 := M3
      clear M3
      have LB := M5.lw
      have BL := Lib.hid M5.bl
      obtain ⟨x, bx, own⟩ := M5.bx
      obtain ⟨ax, cx, rfl⟩ := own_formF own
      have cN := bx.cell
      have SR := Lib.hid (sort_own own (LS.out))
      have BX := Lib.hid bx
      have NR := Lib.hid (bx.not_row int_not_row own)
      have VO := Lib.hid own.lt
      clear M5 bx own
      go_wp2_with (first | (go_at_call 25; refine (GO.out _).mono ?_; rintro e w4 ⟨rfl, rfl⟩) | (go_at_call 26; refine SR.out.mono ?_; rintro e w6 ⟨rfl, ow6, hg6⟩; have c6 := (BX.out.kept hg6 NR.out).cell; have OW6 := Lib.hid ow6; have HG6 := Lib.hid hg6; clear ow6 hg6))
      go_ret2
      refine ⟨_, rfl, own_base OW6.out (by omega), below_grownF BL.out HG6.out BL.out.size (fun q hq => by have := (VO.out q hq).1; omega)⟩
    · have h0d : decide (o ≠ 0) = true := by simp; exact h0
      rw [h0d] at hok
      have HK := Lib.hid hok
      cases hO : onO o
      · have OQ := Lib.hid (show outQ i l.length ⟨o, d, u, v, im⟩ = [] by rw [OU.out, h0d, hO, TQ.out]; rfl)
        have LS := Lib.hid (show ([] : List Int).length ≤ 1000 by simp)
        rw [OQ.out]
        rw [hO] at GO
        clear OU TQ OQ hO hT h0 hQ hok TGf TGt ho h0d hm hc LN2
        go_enter Tryd.func8, Tryd.ntmps8
        go_wp2_with (first | (go_at_call 20; refine (IP.out _).mono ?_; rintro e w3 ⟨rfl, rfl⟩) | (go_at_call 21; refine (dec_any _ _ (HT.out.later (by go_grown)) (by omega) (by have := HX.out; omega)).mono ?_; unfold DecP; rw [HQ.out, HK.out]; unfold agg5; rintro e w1 ⟨rfl, hb1⟩; have M1 := MK.out _ hb1))
        generalize World.alloc (World.alloc w1 _) _ = W1 at *
        refine (TG.out _).mono ?_
        rintro e w2 ⟨rfl, hb2⟩
        have M2 := M1.later hb2
        clear M1 hb2
        have M3 := M2
        clear M2
        have c30 := M3.c0
        have M5 := M3
        clear M3
        have LB := M5.lw
        have BL := Lib.hid M5.bl
        obtain ⟨x, bx, own⟩ := M5.bx
        obtain ⟨ax, cx, rfl⟩ := own_formF own
        have cN := bx.cell
        have SR := Lib.hid (sort_own own (LS.out))
        have BX := Lib.hid bx
        have NR := Lib.hid (bx.not_row int_not_row own)
        have VO := Lib.hid own.lt
        clear M5 bx own
        go_wp2_with (first | (go_at_call 25; refine (GO.out _).mono ?_; rintro e w4 ⟨rfl, rfl⟩) | (go_at_call 26; refine SR.out.mono ?_; rintro e w6 ⟨rfl, ow6, hg6⟩; have c6 := (BX.out.kept hg6 NR.out).cell; have OW6 := Lib.hid ow6; have HG6 := Lib.hid hg6; clear ow6 hg6))
        go_ret2
        refine ⟨_, rfl, own_base OW6.out (by omega), below_grownF BL.out HG6.out BL.out.size (fun q hq => by have := (VO.out q hq).1; omega)⟩
      · have OQ := Lib.hid (show outQ i l.length ⟨o, d, u, v, im⟩ = putF l.length ((i : Int) + 1) [] by rw [OU.out, h0d, hO, TQ.out]; rfl)
        have LS := Lib.hid (show (putF l.length ((i : Int) + 1) []).length ≤ 1000 by have := LN2.out; simp at *; omega)
        rw [OQ.out]
        rw [hO] at GO
        clear OU TQ OQ hO hT h0 hQ hok TGf TGt ho h0d hm hc LN2
        go_enter Tryd.func8, Tryd.ntmps8
        go_wp2_with (first | (go_at_call 20; refine (IP.out _).mono ?_; rintro e w3 ⟨rfl, rfl⟩) | (go_at_call 21; refine (dec_any _ _ (HT.out.later (by go_grown)) (by omega) (by have := HX.out; omega)).mono ?_; unfold DecP; rw [HQ.out, HK.out]; unfold agg5; rintro e w1 ⟨rfl, hb1⟩; have M1 := MK.out _ hb1))
        generalize World.alloc (World.alloc w1 _) _ = W1 at *
        refine (TG.out _).mono ?_
        rintro e w2 ⟨rfl, hb2⟩
        have M2 := M1.later hb2
        clear M1 hb2
        have M3 := M2
        clear M2
        have c30 := M3.c0
        go_wp2_with ((go_at_call 25; refine (GO.out _).mono ?_; rintro e w4 ⟨rfl, rfl⟩))
        refine (HP.out _ _ _ _ _ M3.cB hl M3.bx (by first | (simp; done) | (have := LN.out; simp at this ⊢; omega))).mono ?_
        rintro e w5 ⟨rfl, hp5⟩
        have M5 := M3.put hp5
        clear M3 hp5 c30
        have LB := M5.lw
        have BL := Lib.hid M5.bl
        obtain ⟨x, bx, own⟩ := M5.bx
        obtain ⟨ax, cx, rfl⟩ := own_formF own
        have cN := bx.cell
        have SR := Lib.hid (sort_own own (LS.out))
        have BX := Lib.hid bx
        have NR := Lib.hid (bx.not_row int_not_row own)
        have VO := Lib.hid own.lt
        clear M5 bx own
        go_wp2_with (first | (go_at_call 25; refine (GO.out _).mono ?_; rintro e w4 ⟨rfl, rfl⟩) | (go_at_call 26; refine SR.out.mono ?_; rintro e w6 ⟨rfl, ow6, hg6⟩; have c6 := (BX.out.kept hg6 NR.out).cell; have OW6 := Lib.hid ow6; have HG6 := Lib.hid hg6; clear ow6 hg6))
        go_ret2
        refine ⟨_, rfl, own_base OW6.out (by omega), below_grownF BL.out HG6.out BL.out.size (fun q hq => by have := (VO.out q hq).1; omega)⟩
end Go.Proofs.YtmlhoagcppofgaaDoor
