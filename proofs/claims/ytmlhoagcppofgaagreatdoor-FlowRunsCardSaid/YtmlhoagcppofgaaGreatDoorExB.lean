/- Package exec: the iterator, round by round. -/
import Derived.Test.YtmlhoagcppofgaaGreatDoorExA
namespace Go.Proofs.YtmlhoagcppofgaaGreatDoor
open Go Go.RowKit Go.Shelf Pl
set_option linter.unusedVariables false

/-- what the store into the trap's cell leaves, and the event's new block -/
theorem trap_set {w : World} {M F R C TB fb cb tb : Nat} {Fb : List Nat} {s : MSt} {W : World} {v : Value} (h : Solo w M F R C Fb s W) (hT : CellIs TB v W) (hTB : w.heap.size ≤ TB ∧ TB ≠ M ∧ TB ≠ F ∧ TB ≠ R ∧ TB ≠ C ∧ TB ≠ fb ∧ TB ≠ cb ∧ TB ≠ tb) (u : Value) (o : Obj) :
    Solo w M F R C Fb s ((W.setCell ⟨TB, 0, none⟩ u).alloc o) ∧ CellIs TB u ((W.setCell ⟨TB, 0, none⟩ u).alloc o) ∧ Out (· = TB) W ((W.setCell ⟨TB, 0, none⟩ u).alloc o) := by
  have o1 : Out (· = TB) W (W.setCell ⟨TB, 0, none⟩ u) := out_cell TB 0 u W
  have o2 : Out (· = TB) (W.setCell ⟨TB, 0, none⟩ u) ((W.setCell ⟨TB, 0, none⟩ u).alloc o) := .of_below _ (by go_grown)
  refine ⟨h.out (o1.trans o2) (fun j e => by subst e; exact ⟨hTB.1, hTB.2.1, hTB.2.2.1, hTB.2.2.2.1, hTB.2.2.2.2.1⟩), ?_, o1.trans o2⟩
  exact (hT.set u).out (.of_below (fun _ => False) (by go_grown)) id

attribute [local go_sem] Oper.semAt_some

set_option maxRecDepth 100000 in
set_option maxHeartbeats 4000000 in
theorem steps_run (l fb cb tb TB : Nat) {w : World} {M F R C : Nat} {Fb : List Nat} {s : MSt} (fuel : Int) (hfu : fuel ≤ 1000000000) (ht : T3 w) (K : List MEv → World → Prop) (SK : Nat → Prop)
    (hK : ∀ pre W W', K pre W → Out (fun j => j = C ∨ j = R ∨ j = TB) W W' → K pre W')
    (hSK : ∀ j, SK j → w.heap.size ≤ j ∧ j ≠ M ∧ j ≠ F ∧ j ≠ R ∧ j ≠ C ∧ j ≠ TB ∧ j ≠ fb ∧ j ≠ cb ∧ j ≠ tb)
    (hTB : w.heap.size ≤ TB ∧ TB ≠ M ∧ TB ≠ F ∧ TB ≠ R ∧ TB ≠ C ∧ TB ≠ fb ∧ TB ≠ cb ∧ TB ≠ tb) (hbx : fb ≠ C ∧ fb ≠ R ∧ cb ≠ C ∧ cb ≠ R ∧ tb ≠ C ∧ tb ≠ R)
    (hY : ∀ pre (e : MEv) W, K pre W → (∃ si, RunAt Fb fuel.toNat s pre.length pre si ∧ pre.length < fuel.toNat ∧ (stepM 4096 2147483648 Fb si).t = 0 ∧ e = (stepM 4096 2147483648 Fb si).e) → YieldAt Fence.wide 9 Tryz.prog l #[e.v] W fun en W' => en = .returned (.bool true) ∧ K (pre ++ [e]) W' ∧ Out SK W W')
    (W : World) (h1 : Solo w M F R C Fb s W) (hfb : W.cell? ⟨fb, 0, none⟩ = some (.int .i64 fuel)) (hcb : W.cell? ⟨cb, 0, none⟩ = some (.pointer (some ⟨C, 0, none⟩))) (htb : W.cell? ⟨tb, 0, none⟩ = some (.pointer (some ⟨TB, 0, none⟩)))
    (hT : CellIs TB (.int .i64 0) W) (h0 : K [] W) :
    CallsIn Fence.wide 10 Tryz.prog 34 #[.func (.yield l) #[] #[], .pointer (some ⟨fb, 0, none⟩), .pointer (some ⟨cb, 0, none⟩), .pointer (some ⟨tb, 0, none⟩)] W fun e W' => (∃ v, e = .returned v) ∧
      K (runE Fb fuel.toNat s).1 W' ∧ Solo w M F R C Fb (runE Fb fuel.toNat s).2.2 W' ∧ CellIs TB (.int .i64 (runE Fb fuel.toNat s).2.1) W' ∧ Out (fun j => j = C ∨ j = R ∨ j = TB ∨ SK j) W W' := by
  refine callsIn_of_wp Tryz.func34 rfl trivial ?_ rfl
  simp only [Tryz.ntmps34, List.size_toArray, List.length_cons, List.length_nil, Nat.reduceAdd, Nat.reduceSub, Array.replicate_succ, Array.replicate_zero, List.push_toArray, List.append_toArray, List.nil_append, List.cons_append]
  have HT := Lib.hid ht
  have HK := Lib.hid hK
  have HY := Lib.hid hY
  have HSK := Lib.hid hSK
  have S0 := Lib.hid h1
  have T0 := Lib.hid hT
  have K0 := Lib.hid h0
  clear ht hK hY hSK h1 hT h0
  gi_wp2
  gi_loopw [8] (fun i wr => ∃ (m : Nat) (pre : List MEv) (si : MSt), i = .int .i64 m ∧ RunAt Fb fuel.toNat s m pre si ∧ K pre wr ∧ Solo w M F R C Fb si wr ∧ CellIs TB (.int .i64 0) wr ∧ Out (fun j => j = C ∨ j = R ∨ j = TB ∨ SK j) W wr)
    (fun i wr => fuel.toNat - (intOf i).toNat)
  case atStart => exact ⟨0, [], s, rfl, RunAt.start _ _ _, K0.out, S0.out, T0.out, .refl _ _⟩
  case round =>
    obtain ⟨m, pre, si, rfl, hRA, hKm, hS, hTc, hO⟩ := hrel
    have cbr : wr.cell? ⟨cb, 0, none⟩ = some (.pointer (some ⟨C, 0, none⟩)) := (hO.cell (p := ⟨cb, 0, none⟩) (World.block_lt_of_cell? W _ hcb) (by rintro (h | h | h | h); exact hbx.2.2.1 h; exact hbx.2.2.2.1 h; exact hTB.2.2.2.2.2.2.1 h.symm; exact (HSK.out _ h).2.2.2.2.2.2.2.1 rfl)).trans hcb
    have tbr : wr.cell? ⟨tb, 0, none⟩ = some (.pointer (some ⟨TB, 0, none⟩)) := (hO.cell (p := ⟨tb, 0, none⟩) (World.block_lt_of_cell? W _ htb) (by rintro (h | h | h | h); exact hbx.2.2.2.2.1 h; exact hbx.2.2.2.2.2 h; exact hTB.2.2.2.2.2.2.2 h.symm; exact (HSK.out _ h).2.2.2.2.2.2.2.2 rfl)).trans htb
    have tlt := World.block_lt_of_cell? wr _ tbr
    by_cases hlt : (m : Int) < fuel
    · have G0 := hS.step HT.out
      obtain ⟨o, ho⟩ : ∃ o, stepM 4096 2147483648 Fb si = o := ⟨_, rfl⟩
      rw [ho] at G0
      have G := Lib.hid (show Calls Tryz.prog 35 #[.pointer (some ⟨C, 0, none⟩)] wr fun e w' => e = .returned (.tuple #[.agg #[.int .u32 (o.e.p : Nat), .int .u32 (o.e.w : Nat), .int .i64 o.e.k, .int .u32 (o.e.a : Nat), .int .i64 o.e.s], .int .i64 o.t]) ∧ Solo w M F R C Fb o.s w' ∧ Out (fun j => j = C ∨ j = R) wr w' from G0)
      clear G0
      by_cases ht : o.t = 0
      · have OA := Lib.hid hO
        gi_wp2_with (refine ⟨trivial, ?_⟩; gi_at_call 35; refine (callsIn_wide.2 G.out).mono ?_; rintro _ W2 ⟨rfl, hS2, hO2⟩; have hTc2 := hTc.out hO2 (fun h => h.elim hTB.2.2.2.2.1 hTB.2.2.2.1); have tb2 : W2.cell? ⟨tb, 0, none⟩ = some (.pointer (some ⟨TB, 0, none⟩)) := (hO2.cell (p := ⟨tb, 0, none⟩) tlt (fun h => h.elim hbx.2.2.2.2.1 hbx.2.2.2.2.2)).trans tbr; have tb3 : ∀ X, (W2.alloc X).cell? ⟨tb, 0, none⟩ = some (.pointer (some ⟨TB, 0, none⟩)) := fun X => (World.cell?_alloc_past X tb 0 (Nat.lt_of_lt_of_le tlt hO2.size)).trans tb2; have TBc := hTc2.c; have TBf := hTc2.f; have TBl := hTc2.lt; have W4o := Lib.hid (trap_set hS2 hTc2 hTB (.int .i64 0) (.cells #[.int .u32 (o.e.p : Nat), .int .u32 (o.e.w : Nat), .int .i64 o.e.k, .int .u32 (o.e.a : Nat), .int .i64 o.e.s] 39)); have hRd := HY.out pre o.e _ (HK.out _ _ _ hKm ((hO2.mono fun j h => h.elim .inl fun h => .inr (.inl h)).trans (W4o.out.2.2.mono fun j h => .inr (.inr h)))) ⟨si, by rw [hRA.len]; exact hRA, by rw [hRA.len]; omega, by rw [ho]; exact ht, by rw [ho]⟩; obtain ⟨fn, tmps, assign, body, hy, hRd⟩ := hRd; dsimp only [MEv.v] at hy; have HRd := Lib.hid hRd; clear hRd hKm hS hS2 hTc hTc2)
        refine HRd.out.mono ?_
        rintro en W5 ⟨rfl, hK5, hO5⟩
        gi_wp2
        have S5 := W4o.out.1.out hO5 (fun j hj => by have := HSK.out j hj; omega)
        have T5 := W4o.out.2.1.out hO5 (fun hj => by have := HSK.out _ hj; omega)
        have O5 : Out (fun j => j = C ∨ j = R ∨ j = TB ∨ SK j) wr W5 := ((hO2.mono fun j h => h.elim .inl fun h => .inr (.inl h)).trans (W4o.out.2.2.mono fun j h => .inr (.inr (.inl h)))).trans (hO5.mono fun j h => .inr (.inr (.inr h)))
        go_roundw
        case rel => exact ⟨m + 1, pre ++ [o.e], o.s, by simp, by have := hRA.next (by omega) (by rw [ho]; exact ht); rw [ho] at this; exact this, hK5, S5, T5, OA.out.trans O5⟩
        case measure => show fuel.toNat - ((m : Int) + 1).toNat < fuel.toNat - (m : Int).toNat; omega
      · gi_wp2_with (refine ⟨trivial, ?_⟩; gi_at_call 35; refine (callsIn_wide.2 G.out).mono ?_; rintro _ W2 ⟨rfl, hS2, hO2⟩; have hTc2 := hTc.out hO2 (fun h => h.elim hTB.2.2.2.2.1 hTB.2.2.2.1); have tb2 : W2.cell? ⟨tb, 0, none⟩ = some (.pointer (some ⟨TB, 0, none⟩)) := (hO2.cell (p := ⟨tb, 0, none⟩) tlt (fun h => h.elim hbx.2.2.2.2.1 hbx.2.2.2.2.2)).trans tbr; have tb3 : ∀ X, (W2.alloc X).cell? ⟨tb, 0, none⟩ = some (.pointer (some ⟨TB, 0, none⟩)) := fun X => (World.cell?_alloc_past X tb 0 (Nat.lt_of_lt_of_le tlt hO2.size)).trans tb2; have TBc := hTc2.c; have TBf := hTc2.f; have TBl := hTc2.lt)
        refine ⟨fun _ h => (by cases h), ?_⟩
        gi_wp2
        refine ⟨rfl, _, (results_none rfl _ _ _), ⟨_, rfl⟩, ?_⟩
        have k := trap_set hS2 hTc2 hTB (.int .i64 o.t) (.cells #[.int .u32 (o.e.p : Nat), .int .u32 (o.e.w : Nat), .int .i64 o.e.k, .int .u32 (o.e.a : Nat), .int .i64 o.e.s] 39)
        have kO : Out (fun j => j = C ∨ j = R ∨ j = TB) wr _ := (hO2.mono fun j h => h.elim .inl fun h => .inr (.inl h)).trans (k.2.2.mono fun j h => .inr (.inr h))
        rw [hRA.trap (by omega) (by rw [ho]; exact ht), ho]
        exact ⟨HK.out _ _ _ hKm kO, k.1, k.2.1, hO.trans (kO.mono fun j h => by rcases h with h | h | h; exact .inl h; exact .inr (.inl h); exact .inr (.inr (.inl h)))⟩
    · have e : m = fuel.toNat := by have := hRA.le; omega
      subst e
      gi_wp2_with fail
      (first | go_ret | go_ret2 | go_end0)
      refine ⟨⟨_, rfl⟩, ?_⟩
      rw [hRA.done]
      exact ⟨hKm, hS, hTc, hO⟩
end Go.Proofs.YtmlhoagcppofgaaGreatDoor
