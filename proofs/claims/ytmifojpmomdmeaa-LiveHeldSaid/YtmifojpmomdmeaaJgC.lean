/- Package infer: the judge's constants: find, constant. -/
import Derived.Test.YtmifojpmomdmeaaJP
namespace Go.Proofs.Ytmifojpmomdmeaa
open Go Go.RowKit
set_option linter.unusedVariables false

set_option maxHeartbeats 1000000 in
theorem jfind_no (J : Nat) (j : Jg) (w : World) (n c : Nat) (ca : Option Addr) (hcs : j.cs = .slice ca n c) (hJ : JAt w J j) (i : Int) (hi : i < 0 ∨ (n : Int) ≤ i) :
    Calls Try.prog 87 #[.pointer (some ⟨J, 0, none⟩), .int .i64 i] w fun e w' => e = .returned (.tuple #[.agg #[.slice none 0 0, .slice none 0 0], .bool false]) ∧ Below w.heap.size w w' := by
  have c_27 := hJ.cell 27 _ rfl
  rw [hcs] at c_27
  have hlt := hJ.lt
  clear hJ hcs
  by_cases h0 : i < 0
  · clear hi
    go_enter Try.func87, Try.ntmps87
    go_wp2_with fail
    exact bodyPost_ret (results_cell_mid2 rfl _ _ w.heap.size _ rfl (load_new (P := Try.prog) w [.slice none 0 0, .slice none 0 0] 53 53 _ Try.underlying53 rfl (by kernel_rfl))) rfl ⟨rfl, by go_grown⟩
  · have h1 : (n : Int) ≤ i := by omega
    clear hi
    go_enter Try.func87, Try.ntmps87
    go_wp2_with fail
    exact bodyPost_ret (results_cell_mid2 rfl _ _ w.heap.size _ rfl (load_new (P := Try.prog) w [.slice none 0 0, .slice none 0 0] 53 53 _ Try.underlying53 rfl (by kernel_rfl))) rfl ⟨rfl, by go_grown⟩
set_option maxHeartbeats 1000000 in
theorem jfind_yes (J : Nat) (j : Jg) (w : World) (C : List CnQ) (c : Nat) (ca : Option Addr) (hcs : j.cs = .slice ca C.length c) (hJ : JAt w J j) (hC : CnsIn w ca C c) (k : Nat) (q : CnQ) (hk : C[k]? = some q) :
    Calls Try.prog 87 #[.pointer (some ⟨J, 0, none⟩), .int .i64 k] w fun e w' => e = .returned (.tuple #[.agg #[.slice q.ba q.bs.length q.bc, .slice q.wa q.ws.length q.wc], .bool true]) ∧ Below w.heap.size w w' := by
  have c_27 := hJ.cell 27 _ rfl
  rw [hcs] at c_27
  have hlt := hJ.lt
  have hkl : k < C.length := (List.getElem?_eq_some_iff.1 hk).1
  obtain ⟨hcl, hcb, _, ⟨_, h, _⟩ | ⟨_, h⟩ | ⟨b, off, rfl, hb, hcell⟩⟩ := hC
  · rw [h] at hkl; simp at hkl
  · rw [h] at hkl; simp at hkl
  obtain ⟨e0, e1⟩ := hcell k q hk
  have h0 : (0 : Int) ≤ (k : Int) := by omega
  have h1 : (k : Int) < (C.length : Int) := by omega
  have h2 : k < C.length := hkl
  clear hJ hcs hk hcell hkl hcl
  obtain ⟨bl, hbl⟩ : ∃ n, n = q.bs.length := ⟨_, rfl⟩
  obtain ⟨wl, hwl⟩ : ∃ n, n = q.ws.length := ⟨_, rfl⟩
  obtain ⟨cl, hcl⟩ : ∃ n, n = C.length := ⟨_, rfl⟩
  rw [← hbl, ← hwl]
  rw [← hbl] at e0
  rw [← hwl] at e1
  rw [← hcl] at h1 h2 c_27
  clear hbl hwl hcl
  go_enter Try.func87, Try.ntmps87
  go_wp2_with fail
  exact bodyPost_ret (results_cell_mid2 rfl _ _ w.heap.size _ rfl (load_new (P := Try.prog) w [.slice q.ba bl q.bc, .slice q.wa wl q.wc] 53 53 _ Try.underlying53 rfl (by kernel_rfl))) rfl ⟨rfl, by go_grown⟩
/-- what is wrong with a constant -/
def conQ (C : List CnQ) (i bytes words : Int) : Int :=
  if i < 0 ∨ (C.length : Int) ≤ i then 4 else if ((C.getD i.toNat default).bs.length : Int) ≠ bytes ∨ ((C.getD i.toNat default).ws.length : Int) ≠ words then 10 else 0
set_option maxHeartbeats 1000000 in
theorem jconst (J : Nat) (j : Jg) (w : World) (C : List CnQ) (c : Nat) (ca : Option Addr) (hcs : j.cs = .slice ca C.length c) (hJ : JAt w J j) (hC : CnsIn w ca C c) (i bytes words : Int) :
    Calls Try.prog 83 #[.pointer (some ⟨J, 0, none⟩), .int .i64 i, .int .i64 bytes, .int .i64 words] w fun e w' => e = .returned (.int .i64 (conQ C i bytes words)) ∧ Below w.heap.size w w' := by
  unfold conQ
  by_cases hi : i < 0 ∨ (C.length : Int) ≤ i
  · rw [if_pos hi]
    have FD := Lib.hid (jfind_no J j w C.length c ca hcs hJ i hi)
    clear hJ hcs hC hi
    go_enter Try.func83, Try.ntmps83
    go_wp2_with (go_at_call 87; (with_reducible refine FD.out.mono ?_); rintro e w2 ⟨rfl, hb2⟩)
    go_ret
    exact ⟨rfl, by first | exact hb2.alloc hb2.size _ | go_grown⟩
  · rw [if_neg hi]
    obtain ⟨k, rfl⟩ : ∃ k : Nat, i = k := ⟨i.toNat, by omega⟩
    have hk : k < C.length := by omega
    obtain ⟨q, hq⟩ : ∃ q, C[k]? = some q := ⟨_, List.getElem?_eq_getElem hk⟩
    have hd : C.getD (k : Int).toNat default = q := by simp [hq]
    rw [hd]
    have FD := Lib.hid (jfind_yes J j w C c ca hcs hJ hC k q hq)
    obtain ⟨bl, hbl⟩ : ∃ n, n = q.bs.length := ⟨_, rfl⟩
    obtain ⟨wl, hwl⟩ : ∃ n, n = q.ws.length := ⟨_, rfl⟩
    rw [← hbl, ← hwl] at FD
    rw [← hbl, ← hwl]
    clear hJ hcs hC hi hd hq hk hbl hwl
    by_cases h1 : (bl : Int) = bytes
    · by_cases h2 : (wl : Int) = words
      · rw [if_neg (by omega)]
        subst h1 h2
        go_enter Try.func83, Try.ntmps83
        go_wp2_with (go_at_call 87; (with_reducible refine FD.out.mono ?_); rintro e w2 ⟨rfl, hb2⟩)
        go_ret
        exact ⟨rfl, by first | exact hb2.alloc hb2.size _ | go_grown⟩
      · rw [if_pos (by omega)]
        subst h1
        go_enter Try.func83, Try.ntmps83
        go_wp2_with (go_at_call 87; (with_reducible refine FD.out.mono ?_); rintro e w2 ⟨rfl, hb2⟩)
        go_ret
        exact ⟨rfl, by first | exact hb2.alloc hb2.size _ | go_grown⟩
    · rw [if_pos (by omega)]
      go_enter Try.func83, Try.ntmps83
      go_wp2_with (go_at_call 87; (with_reducible refine FD.out.mono ?_); rintro e w2 ⟨rfl, hb2⟩)
      go_ret
      exact ⟨rfl, by first | exact hb2.alloc hb2.size _ | go_grown⟩
end Go.Proofs.Ytmifojpmomdmeaa
