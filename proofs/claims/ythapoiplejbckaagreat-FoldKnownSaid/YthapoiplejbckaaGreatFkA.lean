/- fold.Known's closure; slices.ContainsFunc over a node's inputs. -/
import Derived.Test.YthapoiplejbckaaGreatNsA
import Derived.Test.YthapoiplejbckaaGreatFkP
namespace Go.Proofs.YthapoiplejbckaaGreat
open Go Go.RowKit
set_option linter.unusedVariables false
set_option linter.unusedSimpArgs false
set_option maxRecDepth 100000

def boolsV (L : List Bool) : List Value := L.map fun b => .bool b
theorem boolsV_len (L : List Bool) : (boolsV L).length = L.length := by simp [boolsV]
theorem boolsV_at {L : List Bool} {i : Nat} (h : i < L.length) : (boolsV L)[i]? = some (.bool (L.getD i false)) := by simp [boolsV, List.getD, h]
/-- the captured variable and its row -/
structure KnAt (w : World) (B U c : Nat) (K : List Bool) : Prop where
  b : RowAt w B [.slice (some ⟨U, 0, none⟩) K.length c]
  u : RowAt w U (boolsV K)
theorem KnAt.over {w w' : World} {B U c : Nat} {K : List Bool} (h : KnAt w B U c K) (hb : Below w.heap.size w w') : KnAt w' B U c K := ⟨h.b.over hb, h.u.over hb⟩
set_option maxHeartbeats 2000000 in
theorem unk_any (B U c : Nat) (K : List Bool) (v : Nat) (hv : v < K.length) (hl : K.length ≤ 100000) (w : World) (h : KnAt w B U c K) :
    Calls Tryz.prog 11 #[.int .i64 (v : Int), .pointer (some ⟨B, 0, none⟩)] w fun e w' => e = .returned (.bool (!K.getD v false)) ∧ w' = w := by
  have b0 := h.b.cell 0 _ rfl
  have bl := h.b.lt
  have u0 := h.u.cell v _ (boolsV_at hv)
  have v0 : (0 : Int) ≤ (v : Int) := by omega
  have v1 : (v : Int) < (K.length : Int) := by omega
  generalize K.getD v false = kv at *
  clear hv h
  go_enter Tryz.func11, Tryz.ntmps11
  go_wp2_with fail
  go_ret
  exact ⟨rfl, rfl⟩
set_option maxHeartbeats 4000000 in
theorem index_un (B U c : Nat) (K : List Bool) (l : List Int) (hl : l.length ≤ 2) (hr : ∀ v ∈ l, 0 ≤ v ∧ v < K.length) (hk : K.length ≤ 100000) (at0 : Option Addr) (ci : Nat) (w0 w : World) (hi : InsAt w0 w at0 l) (h : KnAt w B U c K) :
    Calls Tryz.prog 24 #[.slice at0 l.length ci, .func (.func 11) #[] #[.pointer (some ⟨B, 0, none⟩)]] w fun e w' => ∃ r : Int, e = .returned (.int .i64 r) ∧ Below w.heap.size w w' ∧ decide (0 ≤ r) = !(l.all fun v => K.getD v.toNat false) := by
  have UN := Lib.hid (fun (v : Nat) (hv : v < K.length) (W : World) (hb : Below w.heap.size w W) => unk_any B U c K v hv hk W (h.over hb))
  match l, hl with
  | [], _ =>
    clear h hi hr
    go_enter Tryz.func24, Tryz.ntmps24
    go_wp2_with fail
    refine wp_loop_rounds 1 ?_
    rw [rounds_succ]
    go_wp2_with fail
    go_returns
    exact ⟨_, rfl, Below.refl _ _, rfl⟩
  | [a], _ =>
    obtain ⟨a0, a1⟩ := hr a (by simp)
    obtain ⟨av, rfl⟩ : ∃ v : Nat, a = (v : Int) := ⟨a.toNat, by omega⟩
    have UA := Lib.hid (UN.out av (by omega))
    obtain ⟨gi, rfl, _, gl, ca⟩ := hi 0 _ rfl
    have ev : ((av : Int)).toNat = av := by omega
    simp only [List.all_cons, List.all_nil, Bool.and_true, ev]
    generalize K.getD av false = ka at *
    clear h hi hr UN ev a0 a1
    cases ka
    · go_enter Tryz.func24, Tryz.ntmps24
      go_wp2_with fail
      refine wp_loop_rounds 2 ?_
      rw [rounds_succ]
      go_wp2_with (go_at_call 11; (first | (with_reducible refine (UA.out _ (by first | (with_reducible exact Below.refl _ _) | (with_reducible exact (Below.refl _ _).drew))).mono ?_)); rintro e w9 ⟨rfl, rfl⟩)
      go_returns
      exact ⟨_, rfl, Below.refl _ _, rfl⟩
    · go_enter Tryz.func24, Tryz.ntmps24
      go_wp2_with fail
      refine wp_loop_rounds 2 ?_
      rw [rounds_succ]
      go_wp2_with (go_at_call 11; (first | (with_reducible refine (UA.out _ (by first | (with_reducible exact Below.refl _ _) | (with_reducible exact (Below.refl _ _).drew))).mono ?_)); rintro e w9 ⟨rfl, rfl⟩)
      rw [rounds_succ]
      go_wp2_with fail
      go_returns
      exact ⟨_, rfl, Below.refl _ _, rfl⟩
  | [a, b], _ =>
    obtain ⟨a0, a1⟩ := hr a (by simp)
    obtain ⟨b0, b1⟩ := hr b (by simp)
    obtain ⟨av, rfl⟩ : ∃ v : Nat, a = (v : Int) := ⟨a.toNat, by omega⟩
    obtain ⟨bv, rfl⟩ : ∃ v : Nat, b = (v : Int) := ⟨b.toNat, by omega⟩
    have UA := Lib.hid (UN.out av (by omega))
    have UB := Lib.hid (UN.out bv (by omega))
    obtain ⟨gi, hgi, _, gl, ca⟩ := hi 0 _ rfl
    subst hgi
    obtain ⟨gj, hgj, _, _, cb⟩ := hi 1 _ rfl
    injection hgj with hgj
    injection hgj with hgj _ _
    subst hgj
    have ev : ((av : Int)).toNat = av := by omega
    have eb : ((bv : Int)).toNat = bv := by omega
    simp only [List.all_cons, List.all_nil, Bool.and_true, ev, eb]
    generalize K.getD av false = ka at *
    generalize K.getD bv false = kb at *
    clear h hi hr UN ev eb a0 a1 b0 b1
    cases ka
    · go_enter Tryz.func24, Tryz.ntmps24
      go_wp2_with fail
      refine wp_loop_rounds 3 ?_
      rw [rounds_succ]
      go_wp2_with (go_at_call 11; (first | (with_reducible refine (UA.out _ (by first | (with_reducible exact Below.refl _ _) | (with_reducible exact (Below.refl _ _).drew))).mono ?_) | (with_reducible refine (UB.out _ (by first | (with_reducible exact Below.refl _ _) | (with_reducible exact (Below.refl _ _).drew))).mono ?_)); rintro e w9 ⟨rfl, rfl⟩)
      go_returns
      exact ⟨_, rfl, Below.refl _ _, rfl⟩
    · cases kb
      · go_enter Tryz.func24, Tryz.ntmps24
        go_wp2_with fail
        refine wp_loop_rounds 3 ?_
        rw [rounds_succ]
        go_wp2_with (go_at_call 11; (first | (with_reducible refine (UA.out _ (by first | (with_reducible exact Below.refl _ _) | (with_reducible exact (Below.refl _ _).drew))).mono ?_) | (with_reducible refine (UB.out _ (by first | (with_reducible exact Below.refl _ _) | (with_reducible exact (Below.refl _ _).drew))).mono ?_)); rintro e w9 ⟨rfl, rfl⟩)
        rw [rounds_succ]
        go_wp2_with (go_at_call 11; (first | (with_reducible refine (UA.out _ (by first | (with_reducible exact Below.refl _ _) | (with_reducible exact (Below.refl _ _).drew))).mono ?_) | (with_reducible refine (UB.out _ (by first | (with_reducible exact Below.refl _ _) | (with_reducible exact (Below.refl _ _).drew))).mono ?_)); rintro e w9 ⟨rfl, rfl⟩)
        go_returns
        exact ⟨_, rfl, Below.refl _ _, rfl⟩
      · go_enter Tryz.func24, Tryz.ntmps24
        go_wp2_with fail
        refine wp_loop_rounds 3 ?_
        rw [rounds_succ]
        go_wp2_with (go_at_call 11; (first | (with_reducible refine (UA.out _ (by first | (with_reducible exact Below.refl _ _) | (with_reducible exact (Below.refl _ _).drew))).mono ?_) | (with_reducible refine (UB.out _ (by first | (with_reducible exact Below.refl _ _) | (with_reducible exact (Below.refl _ _).drew))).mono ?_)); rintro e w9 ⟨rfl, rfl⟩)
        rw [rounds_succ]
        go_wp2_with (go_at_call 11; (first | (with_reducible refine (UA.out _ (by first | (with_reducible exact Below.refl _ _) | (with_reducible exact (Below.refl _ _).drew))).mono ?_) | (with_reducible refine (UB.out _ (by first | (with_reducible exact Below.refl _ _) | (with_reducible exact (Below.refl _ _).drew))).mono ?_)); rintro e w9 ⟨rfl, rfl⟩)
        rw [rounds_succ]
        go_wp2_with fail
        go_returns
        exact ⟨_, rfl, Below.refl _ _, rfl⟩
set_option maxHeartbeats 4000000 in
theorem contains_un (B U c : Nat) (K : List Bool) (l : List Int) (hl : l.length ≤ 2) (hr : ∀ v ∈ l, 0 ≤ v ∧ v < K.length) (hk : K.length ≤ 100000) (at0 : Option Addr) (ci : Nat) (w0 w : World) (hi : InsAt w0 w at0 l) (h : KnAt w B U c K) :
    Calls Tryz.prog 12 #[.slice at0 l.length ci, .func (.func 11) #[] #[.pointer (some ⟨B, 0, none⟩)]] w fun e w' => e = .returned (.bool (!(l.all fun v => K.getD v.toNat false))) ∧ Below w.heap.size w w' := by
  have IX := Lib.hid (index_un B U c K l hl hr hk at0 ci w0 w hi h)
  generalize (l.all fun v => K.getD v.toNat false) = q at *
  clear hi h hr
  go_enter Tryz.func12, Tryz.ntmps12
  go_wp2_with (go_at_call 24; (with_reducible refine IX.out.mono ?_); rintro e w9 ⟨r, rfl, hb9, hr9⟩; have HR9 := Lib.hid hr9; have HB9 := Lib.hid hb9; clear hb9 hr9)
  go_ret
  exact ⟨by rw [← HR9.out]; rfl, HB9.out⟩
end Go.Proofs.YthapoiplejbckaaGreat
