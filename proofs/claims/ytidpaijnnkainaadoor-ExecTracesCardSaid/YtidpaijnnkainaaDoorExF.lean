/- Machines side by side, apart: for the laws on runs. -/
import Derived.Test.YtidpaijnnkainaaDoorExE
namespace Go.Proofs.YtidpaijnnkainaaDoor
open Go Go.RowKit Go.Shelf Pl
set_option linter.unusedVariables false

theorem Solo.base {w0 w : World} {M F R C : Nat} {Fb : List Nat} {s : MSt} {W : World} (h : Solo w M F R C Fb s W) (hb : Below w0.heap.size w0 w) : Solo w0 M F R C Fb s W :=
  { mach := h.mach, mem := h.mem, lf := h.lf, ls := h.ls, lo := by have := h.lo; have := hb.size; omega, ne := h.ne, bl := hb.trans (h.bl.mono hb.size) }
theorem Duo.doc {w : World} {M F R X : Nat} {Fb : List Nat} {s s' : MSt} {cnt : Nat} {W : World} (h : Duo w M F R X Fb s s' cnt W) : ∃ v, DocIs X Fb s' cnt v W := by
  obtain ⟨L, v, r1, r2, r3⟩ := h.rf
  exact ⟨v, { rm := h.rm, rf := ⟨L, r1, r2, r3⟩, lf := h.lf, fF := h.mem.fF, ls := h.ls', sb := h.sb' }⟩
theorem run_nat {w : World} {M F R C : Nat} {Fb : List Nat} {s : MSt} (n : Nat) (hn : n ≤ 1000) (ht : T3 w) (W : World) (h1 : Solo w M F R C Fb s W) :
    Calls Tryd.prog 10 #[.pointer (some ⟨C, 0, none⟩), .int .i64 (n : Nat)] W fun e W' => e = .returned (.tuple #[.int .i64 ((runE Fb n s).1.length : Nat), .int .i64 (runE Fb n s).2.1]) ∧ Solo w M F R C Fb (runE Fb n s).2.2 W' ∧ Out (fun j => j = C ∨ j = R) W W' := by
  have := run_any (n : Int) (by omega) ht W h1
  rw [Int.toNat_natCast] at this
  exact this
/-- the document's Trace, when the machines are apart -/
theorem rtrace_nat {X : Nat} {Fb : List Nat} {s : MSt} {cnt : Nat} {v : Value} {W : World} (h : DocIs X Fb s cnt v W) (hX : X + 3 ≤ W.heap.size) (n : Nat) (hn : n ≤ 100) (hc : cnt + 4 * n + 4 ≤ 1000000) :
    Calls Tryd.prog 11 #[.pointer (some ⟨X + 1, 0, none⟩), .int .i64 (n : Nat)] W fun e w' => ∃ a c vl, e = .returned (.tuple #[.slice a (runE Fb n s).1.length c, .int .i64 (runE Fb n s).2.1]) ∧ DocIs X Fb (runE Fb n s).2.2 (cnt + 4 * n + 4) vl w' ∧ Out (fun j => j = X + 1 ∨ j = X ∨ X + 3 ≤ j) W w' :=
  (rtrace_any h hX (n : Int) n (Int.toNat_natCast n) hn hc).mono fun e w' ⟨a, c, vl, h1, _, h3, h4⟩ => ⟨a, c, vl, h1, h3, h4.mono fun j hj => by
    rcases hj with e | e | e
    · omega
    · omega
    · have := (h.own j e).1; omega⟩
theorem run_two {w : World} {M F R C : Nat} {Fb : List Nat} {s : MSt} (p q : Nat) (hn : p + q ≤ 1000) (ht : T3 w) (W : World) (h1 : Solo w M F R C Fb s W) (A B : Nat) (t : Int) (s2 : MSt) (hl : (runE Fb (p + q) s).1.length = A + B) (h2 : (runE Fb (p + q) s).2.1 = t) (h3 : (runE Fb (p + q) s).2.2 = s2) :
    Calls Tryd.prog 10 #[.pointer (some ⟨C, 0, none⟩), .int .i64 ((p : Int) + (q : Int))] W fun e W' => e = .returned (.tuple #[.int .i64 ((A : Int) + (B : Int)), .int .i64 t]) ∧ Solo w M F R C Fb s2 W' ∧ Out (fun j => j = C ∨ j = R) W W' := by
  have k := run_nat (p + q) hn ht W h1
  rw [hl, h2, h3, Int.natCast_add, Int.natCast_add] at k
  exact k
theorem rtrace_two {X : Nat} {Fb : List Nat} {s : MSt} {cnt : Nat} {v : Value} {W : World} (h : DocIs X Fb s cnt v W) (hX : X + 3 ≤ W.heap.size) (p q : Nat) (hn : p + q ≤ 100) (hc : cnt + 4 * (p + q) + 4 ≤ 1000000) (s2 : MSt) (h3 : (runE Fb (p + q) s).2.2 = s2) :
    Calls Tryd.prog 11 #[.pointer (some ⟨X + 1, 0, none⟩), .int .i64 ((p : Int) + (q : Int))] W fun e w' => ∃ vs vl, e = .returned vs ∧ DocIs X Fb s2 (cnt + 4 * (p + q) + 4) vl w' ∧ Out (fun j => j = X + 1 ∨ j = X ∨ X + 3 ≤ j) W w' := by
  have k := rtrace_nat h hX (p + q) hn hc
  rw [Int.natCast_add, h3] at k
  exact k.mono fun e w' ⟨a, c, vl, h1, h2, h3⟩ => ⟨_, vl, h1, h2, h3⟩
theorem rtrace_int {X : Nat} {Fb : List Nat} {s : MSt} {cnt : Nat} {v : Value} {W : World} (h : DocIs X Fb s cnt v W) (hX : X + 3 ≤ W.heap.size) (y : Int) (hn : y ≤ 100) (hc : cnt ≤ 1000) :
    Calls Tryd.prog 11 #[.pointer (some ⟨X + 1, 0, none⟩), .int .i64 y] W fun e w' => ∃ a c vl, e = .returned (.tuple #[.slice a (runE Fb y.toNat s).1.length c, .int .i64 (runE Fb y.toNat s).2.1]) ∧ DocIs X Fb (runE Fb y.toNat s).2.2 (cnt + 4 * y.toNat + 4) vl w' ∧ Out (fun j => j = X + 1 ∨ j = X ∨ X + 3 ≤ j) W w' :=
  (rtrace_any h hX y y.toNat rfl (by omega) (by omega)).mono fun e w' ⟨a, c, vl, h1, _, h3, h4⟩ => ⟨a, c, vl, h1, h3, h4.mono fun j hj => by
    rcases hj with e | e | e
    · omega
    · omega
    · have := (h.own j e).1; omega⟩
theorem few07 (x : Int) (W : World) : Calls Tryd.prog 8 #[.int .i64 x] W fun e w' => ∃ y, e = .returned (.int .i64 y) ∧ y ≤ 60 ∧ Below W.heap.size W w' := by
  by_cases h : 60 < x
  · go_enter Tryd.func8, Tryd.ntmps8
    go_wp2_with fail
    go_ret
    exact ⟨_, rfl, by omega, .refl _ _⟩
  · go_enter Tryd.func8, Tryd.ntmps8
    go_wp2_with fail
    go_ret
    exact ⟨_, rfl, by omega, .refl _ _⟩
end Go.Proofs.YtidpaijnnkainaaDoor
