/- Package pintleref42: Reach, for all words. -/
import Derived.Test.YtmlhoagcppofgaaDoorFlD
import Derived.Test.YtmlhoagcppofgaaDoorRchP
import Derived.Deep.QuietTactic
import Derived.BigFrame
namespace Go.Proofs.YtmlhoagcppofgaaDoor
open Go Go.RowKit Pl
set_option linter.unusedVariables false

theorem info_boolF : (Tryd.prog.info? 4).map (fun i => (i.zero, i.size, i.bytes)) = some (some (.bool false), 1, 1) := by kernel_rfl
def rowB (S : Nat → Bool) (n : Nat) : List Value := (List.range n).map fun j => .bool (S j)
theorem rowB_len (S : Nat → Bool) (n : Nat) : (rowB S n).length = n := by simp [rowB]
theorem rowB_at {S : Nat → Bool} {n j : Nat} (h : j < n) : (rowB S n)[j]? = some (.bool (S j)) := by simp [rowB, h]
theorem rowB_set {S : Nat → Bool} {n k : Nat} : (rowB S n).set k (.bool true) = rowB (setS S k) n := by
  apply List.ext_getElem?
  intro i
  rcases Nat.lt_or_ge i n with hi | hi
  · rw [List.getElem?_set, rowB_at hi, rowB_at hi, rowB_len]
    unfold setS
    by_cases e : k = i
    · subst e; simp [hi]
    · have e' : ¬ i = k := fun h => e h.symm
      simp [e, e']
  · rw [List.getElem?_eq_none (by simp [rowB]; omega), List.getElem?_eq_none (by simp [rowB]; omega)]
theorem rowB_congr {S T : Nat → Bool} {n : Nat} (h : ∀ j, j < n → S j = T j) : rowB S n = rowB T n := by
  apply List.ext_getElem?
  intro i
  rcases Nat.lt_or_ge i n with hi | hi
  · rw [rowB_at hi, rowB_at hi, h i hi]
  · rw [List.getElem?_eq_none (by simp [rowB]; omega), List.getElem?_eq_none (by simp [rowB]; omega)]
theorem made_rowB (n : Nat) : (madeCells #[Value.bool false] n).toList = rowB (fun _ => false) n := by
  apply List.ext_getElem
  · simp [madeCells, rowB]
  · intro i h1 h2
    simp [madeCells, rowB, Nat.mod_one]
def gQ (l : List Nat) (i k : Nat) : Bool := goesQ (qAt l i) i k
/-- a row of bools: where it lies -/
def BAt (w : World) (a : Option Addr) (S : Nat → Bool) (n : Nat) : Prop := ∃ b, a = some ⟨b, 0, none⟩ ∧ b < w.heap.size ∧ ∀ j, j < n → w.cell? ⟨b, j, none⟩ = some (.bool (S j))
theorem row_at {w : World} {base g n : Nat} {S : Nat → Bool} (h : w.ownsRow base 4 1 (.slice (some ⟨g, 0, none⟩) n n) n (rowB S n)) : BAt w (some ⟨g, 0, none⟩) S n := by
  refine ⟨g, rfl, (h.lt g rfl).2, fun j hj => ?_⟩
  have := h.cells (g := g) rfl j _ (rowB_at hj)
  have e : (⟨g, 0, none⟩ : Addr).add j = ⟨g, j, none⟩ := by unfold Addr.add; split <;> simp_all
  rwa [e] at this

set_option maxRecDepth 100000 in
set_option maxHeartbeats 1000000 in
theorem rreach_out (a : Option Addr) (c : Nat) (l : List Nat) (s : Int) (w : World) (hs : ¬ (0 ≤ s ∧ s < (l.length : Int))) (hl : l.length ≤ 100) :
    Calls Tryd.prog 17 #[.slice a l.length c, .int .i64 s] w fun e w' => ∃ g, e = .returned (.slice (some ⟨g, 0, none⟩) l.length l.length) ∧ BAt w' (some ⟨g, 0, none⟩) (fun _ => false) l.length ∧ Below w.heap.size w w' := by
  have hmk := fun W => run_make_row' (P := Tryd.prog) 42 4 (.bool false) 1 Tryd.underlying42 info_boolF rfl .i64 .i64 l.length (by omega) (by omega) W
  have OW0 := Lib.hid (World.ownsRow_lit (base := w.heap.size) (size := 1) (e := 4) w (madeCells #[Value.bool false] l.length) l.length (Nat.le_refl _) (by simp only [maxLen]; omega) (by rw [size_madeCells]; omega))
  by_cases hneg : s < 0
  · have t1 := decide_eq_true hneg
    clear hs hneg
    go_enter Tryd.func17, Tryd.ntmps17
    go_wp2_with fail
    go_ret
    exact ⟨_, rfl, row_at (base := w.heap.size) (by rw [← made_rowB]; exact OW0.out), by go_grown⟩
  · have t1 := decide_eq_false hneg
    have t2 := decide_eq_true (show (l.length : Int) ≤ s by omega)
    clear hs hneg
    go_enter Tryd.func17, Tryd.ntmps17
    go_wp2_with fail
    go_ret
    exact ⟨_, rfl, row_at (base := w.heap.size) (by rw [← made_rowB]; exact OW0.out), by go_grown⟩
/-- within a round of the document's -/
structure RMid (l : List Nat) (s m p : Nat) (S0 S : Nat → Bool) : Prop where
  inv : RInv (gQ l) l.length s m S0
  ge : ∀ j, j < l.length → S0 j = true → S j = true
  snd : soundS (gQ l) l.length s S
  dn : ∀ q, q < p → gQ l (q / l.length) (q % l.length) = true → S0 (q / l.length) = true → S (q % l.length) = true
theorem RMid.no {l : List Nat} {s m p : Nat} {S0 S : Nat → Bool} (h : RMid l s m p S0 S) (hn : ¬ (gQ l (p / l.length) (p % l.length) = true ∧ S (p / l.length) = true)) (hp : p / l.length < l.length) : RMid l s m (p + 1) S0 S := by
  refine ⟨h.inv, h.ge, h.snd, fun q hq h1 h2 => ?_⟩
  by_cases e : q = p
  · subst e; exact absurd ⟨h1, h.ge _ hp h2⟩ hn
  · exact h.dn q (by omega) h1 h2
theorem RMid.yes {l : List Nat} {s m p : Nat} {S0 S : Nat → Bool} (h : RMid l s m p S0 S) (h1 : gQ l (p / l.length) (p % l.length) = true) (h2 : S (p / l.length) = true) (hp : p / l.length < l.length) (hb : p % l.length < l.length) : RMid l s m (p + 1) S0 (setS S (p % l.length)) := by
  refine ⟨h.inv, fun j hj e => setS_ge _ _ _ (h.ge j hj e), fun j hj e => ?_, fun q hq g1 g2 => ?_⟩
  · unfold setS at e
    rw [Bool.or_eq_true, decide_eq_true_eq] at e
    rcases e with e | e
    · exact h.snd j hj e
    · subst e; exact .step (h.snd _ hp h2) h1 hb
  · by_cases e : q = p
    · subst e; exact setS_at _ _
    · exact setS_ge _ _ _ (h.dn q (by omega) g1 g2)
theorem RMid.done {l : List Nat} {s m : Nat} {S0 S : Nat → Bool} (h : RMid l s m (l.length * l.length) S0 S) (hs : s < l.length) : RInv (gQ l) l.length s (m + 1) S := by
  refine rinv_next h.inv h.ge hs h.snd fun a b ha hb hg h0 => ?_
  have e1 : (a * l.length + b) / l.length = a := by
    rw [Nat.mul_comm, Nat.mul_add_div (by omega), Nat.div_eq_of_lt hb]; rfl
  have e2 : (a * l.length + b) % l.length = b := by
    rw [Nat.mul_comm, Nat.mul_add_mod, Nat.mod_eq_of_lt hb]
  have hq : a * l.length + b < l.length * l.length := by
    have : (a + 1) * l.length ≤ l.length * l.length := Nat.mul_le_mul_right _ ha
    rw [Nat.add_mul] at this
    omega
  have := h.dn _ hq
  rw [e1, e2] at this
  exact this hg h0
set_option maxRecDepth 100000 in
set_option maxHeartbeats 1000000 in
theorem rreach_in (a : Option Addr) (c : Nat) (l : List Nat) (s : Nat) (w : World) (hw : WordsC w a l c) (hs : s < l.length) (hl : l.length ≤ 30) :
    Calls Tryd.prog 17 #[.slice a l.length c, .int .i64 (s : Nat)] w fun e w' => ∃ g S, e = .returned (.slice (some ⟨g, 0, none⟩) l.length l.length) ∧ BAt w' (some ⟨g, 0, none⟩) S l.length ∧ (S s = true ∧ soundS (gQ l) l.length s S ∧ closedS (gQ l) l.length S) ∧ Below w.heap.size w w' := by
  have hmk := fun W => run_make_row' (P := Tryd.prog) 42 4 (.bool false) 1 Tryd.underlying42 info_boolF rfl .i64 .i64 l.length (by omega) (by omega) W
  have OW0 := World.ownsRow_lit (base := w.heap.size) (size := 1) (e := 4) w (madeCells #[Value.bool false] l.length) l.length (Nat.le_refl _) (by simp only [maxLen]; omega) (by rw [size_madeCells]; omega)
  rw [made_rowB] at OW0
  have ST0 := Lib.hid (OW0.stored s (.bool true))
  have fz0 := OW0.frozenAt s
  have t1 : decide ((s : Int) < 0) = false := by simp
  have t2 := decide_eq_false (show ¬ ((l.length : Int) ≤ (s : Int)) by omega)
  have t3 : (l.length ≤ s) = False := eq_false (by omega)
  have e0 : setS (fun _ => false) s = fun j => decide (j = s) := by funext j; simp [setS]
  have HW := Lib.hid hw
  have hnn : l.length * l.length ≤ 900 := Nat.mul_le_mul hl hl
  obtain ⟨c0, hc0⟩ : ∃ v, (w.alloc (.cells (madeCells #[Value.bool false] l.length) 4)).cell? ⟨w.heap.size, s, none⟩ = some v := ⟨_, (OW0.cellAt s (by omega)).trans (rowB_at hs)⟩
  go_enter Tryd.func17, Tryd.ntmps17
  go_wp2_with fail
  have B1 := Lib.hid (show Below w.heap.size w (w.alloc (.cells ((madeCells #[Value.bool false] l.length).setIfInBounds s (.bool true)) 4)) from (Below.refl _ _).alloc (Nat.le_refl _) _)
  have O1 := Lib.hid (World.ownsRow_lit (base := w.heap.size) (size := 1) (e := 4) w ((madeCells #[Value.bool false] l.length).setIfInBounds s (.bool true)) l.length (Nat.le_refl _) (by simp only [maxLen]; omega) (by rw [Array.size_setIfInBounds, size_madeCells]; omega))
  rw [Array.toList_setIfInBounds, made_rowB, rowB_set, e0] at O1
  clear hc0 fz0 OW0 hmk e0 ST0 t1 t2 t3
  generalize World.alloc w _ = W1 at *
  go_loopw [6] (fun i wr => ∃ (m : Nat) (S : Nat → Bool), m ≤ l.length ∧ i = .int .i64 m ∧ wr.ownsRow w.heap.size 4 1 (.slice (some ⟨w.heap.size, 0, none⟩) l.length l.length) l.length (rowB S l.length) ∧ RInv (gQ l) l.length s m S ∧ Below w.heap.size w wr) (fun i _ => l.length - (intOf i).toNat)
  case atStart => exact ⟨0, _, Nat.zero_le _, rfl, O1.out, rinv_begin hs, B1.out⟩
  case round =>
    obtain ⟨m, S0, hm, rfl, own, inv, hb⟩ := hrel
    by_cases hlt : m < l.length
    · obtain ⟨wo, rfl⟩ : ∃ wo : World, wo = wr := ⟨_, rfl⟩
      have OWo := Lib.hid own
      have INo := Lib.hid inv
      have HBo := Lib.hid hb
      have um := IntWalk.i64_in ((m : Int) + 1) (by omega)
      have unn := IntWalk.i64_in ((l.length : Int) * (l.length : Int)) (by have : ((l.length * l.length : Nat) : Int) = (l.length : Int) * (l.length : Int) := Int.natCast_mul _ _; omega)
      have NN := Lib.hid (show ((l.length * l.length : Nat) : Int) = (l.length : Int) * (l.length : Int) from Int.natCast_mul _ _)
      clear own inv hb
      go_wp2_with fail
      go_loopw [7] (fun i wr => ∃ (p : Nat) (S : Nat → Bool), p ≤ l.length * l.length ∧ i = .int .i64 p ∧ wr.ownsRow w.heap.size 4 1 (.slice (some ⟨w.heap.size, 0, none⟩) l.length l.length) l.length (rowB S l.length) ∧ RMid l s m p S0 S ∧ Below w.heap.size w wr) (fun i _ => l.length * l.length - (intOf i).toNat)
      case atStart => exact ⟨0, S0, Nat.zero_le _, rfl, OWo.out, ⟨INo.out, fun _ _ h => h, INo.out.snd, fun q hq => by omega⟩, HBo.out⟩
      case round =>
        obtain ⟨p, S, hp, rfl, own, mid, hb⟩ := hrel
        by_cases hpt : p < l.length * l.length
        · have t0 : decide ((p : Int) < (l.length : Int) * (l.length : Int)) = true := decide_eq_true (by rw [← NN.out]; exact Int.ofNat_lt.2 hpt)
          have hA : p / l.length < l.length := Nat.div_lt_of_lt_mul hpt
          have hB : p % l.length < l.length := Nat.mod_lt _ (by omega)
          obtain ⟨A, hPA⟩ : ∃ A, p / l.length = A := ⟨_, rfl⟩
          obtain ⟨B, hPB⟩ : ∃ B, p % l.length = B := ⟨_, rfl⟩
          rw [hPA] at hA
          rw [hPB] at hB
          have up := IntWalk.i64_in ((p : Int) + 1) (by omega)
          have q0 : ¬ ((l.length : Int) = 0) := by omega
          have q1 : ((l.length : Int) == 0) = false := beq_eq_false_iff_ne.2 (by omega)
          have F1 := Lib.hid (show (p : Int) / (l.length : Int) = ((A : Nat) : Int) by rw [← hPA]; exact (Int.natCast_ediv _ _).symm)
          have F2 := Lib.hid (show (p : Int) % (l.length : Int) = ((B : Nat) : Int) by rw [← hPB]; exact (Int.natCast_emod _ _).symm)
          have OW := Lib.hid own
          have MI := Lib.hid mid
          have HB := Lib.hid hb
          clear own mid hb
          go_wp2_with fail
          have W1w := Lib.hid (HW.out.later HB.out)
          go_quiet (fail)
          have OW2 := Lib.hid (own_laterF OW.out (below_drewN (Below.refl wr.heap.size wr) nq))
          have HB2 := Lib.hid (below_drewN HB.out nq)
          have GA := Lib.hid (goes_any a c l A B _ (W1w.out.later (below_drewN (Below.refl wr.heap.size wr) nq)) hA (by omega) (by omega))
          clear OW HB W1w
          generalize World.drewN wr nq = wq at *
          unfold GoesP at GA
          cases hG : goesQ (qAt l A) A B
          · have M2 := Lib.hid (RMid.no MI.out (by rw [hPA, hPB]; intro h; have := h.1; unfold gQ at this; rw [hG] at this; cases this) (by rw [hPA]; exact hA))
            rw [hG] at GA
            clear hG
            go_wp2_with fail
            rw [F1.out, F2.out]
            with_reducible refine GA.out.mono ?_
            rintro e w3 ⟨rfl, hb3⟩
            go_wp2_with fail
            go_roundw
            case measure => show l.length * l.length - ((p : Int) + 1).toNat < l.length * l.length - ((p : Int)).toNat; omega
            case rel => exact ⟨p + 1, S, by omega, rfl, own_laterF OW2.out hb3, M2.out, below_trans HB2.out hb3⟩
          · rw [hG] at GA
            go_wp2_with fail
            rw [F1.out, F2.out]
            with_reducible refine GA.out.mono ?_
            rintro e w3 ⟨rfl, hb3⟩
            have OW3 := own_laterF OW2.out hb3
            have HB3 := Lib.hid (below_trans HB2.out hb3)
            have cA := (OW3.cellAt A (by omega)).trans (rowB_at hA)
            have hz := (OW3.lt w.heap.size rfl).2
            clear hb3
            cases hS : S A
            · have M2 := Lib.hid (RMid.no MI.out (by rw [hPA, hPB]; intro h; have := h.2; rw [hS] at this; cases this) (by rw [hPA]; exact hA))
              rw [hS] at cA
              have OW3' := Lib.hid OW3
              clear OW3 hG hS
              go_wp2_with fail
              go_roundw
              case measure => show l.length * l.length - ((p : Int) + 1).toNat < l.length * l.length - ((p : Int)).toNat; omega
              case rel => exact ⟨p + 1, S, by omega, rfl, OW3'.out, M2.out, HB3.out⟩
            · have M2 := Lib.hid (RMid.yes MI.out (by rw [hPA, hPB]; exact hG) (by rw [hPA]; exact hS) (by rw [hPA]; exact hA) (by rw [hPB]; exact hB))
              rw [hPB] at M2
              rw [hS] at cA
              have cB := (OW3.cellAt B (by omega)).trans (rowB_at hB)
              have fzB := OW3.frozenAt B
              have ST := Lib.hid (OW3.stored B (.bool true))
              rw [rowB_set] at ST
              have HB4 := Lib.hid (HB3.out.setCell (p := ⟨w.heap.size, B, none⟩) (Nat.le_refl _) (.bool true))
              clear OW3 hG hS
              go_wp2_with fail
              go_roundw
              case measure => show l.length * l.length - ((p : Int) + 1).toNat < l.length * l.length - ((p : Int)).toNat; omega
              case rel => exact ⟨p + 1, _, by omega, rfl, ST.out.1, M2.out, HB4.out⟩
        · obtain rfl : p = l.length * l.length := by omega
          have t0 : decide (((l.length * l.length : Nat) : Int) < (l.length : Int) * (l.length : Int)) = false := decide_eq_false (by rw [← NN.out]; omega)
          have OW := Lib.hid own
          have MI := Lib.hid mid
          have HB := Lib.hid hb
          clear own mid hb
          go_wp2_with fail
          refine ⟨⟨m + 1, S, by omega, rfl, OW.out, MI.out.done hs, HB.out⟩, by simp only [intOf]; omega⟩
    · obtain rfl : m = l.length := by omega
      have OW := Lib.hid own
      have IN := Lib.hid inv
      have HB := Lib.hid hb
      clear own inv hb
      go_wp2_with fail
      go_ret
      exact ⟨_, S0, rfl, row_at OW.out, ⟨IN.out.at0, IN.out.snd, rinv_end IN.out⟩, HB.out⟩
end Go.Proofs.YtmlhoagcppofgaaDoor
