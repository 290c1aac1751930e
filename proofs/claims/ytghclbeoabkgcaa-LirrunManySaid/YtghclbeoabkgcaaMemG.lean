/- Package mem over any bytes: parts of banks, numbers out of bytes, Load. -/
import Derived.Test.YtghclbeoabkgcaaProg
import Derived.Test.YtghclbeoabkgcaaMemP
import Derived.WalkSpells
import Derived.WalkSmall
import Derived.Handy
import Derived.Lib.Hide
import Derived.BigQuiet
import Derived.OwnWalk
import Derived.Laws.StructEq
import Derived.Deep.QuietTactic
import Derived.Deep.OwnRows
import Derived.Deep.RegionHeld3
namespace Go.Proofs.Ytghclbeoabkgcaa
open Go Go.RowKit
set_option linter.unusedVariables false

/-- the same memory, whatever was drawn -/
def LikeG (W w' : World) : Prop := w'.heap = W.heap ∧ ∀ (B : Nat) (w : World), Below B w W → Below B w w'
theorem LikeG.refl (W : World) : LikeG W W := ⟨rfl, fun _ _ h => h⟩
theorem LikeG.drewN (W : World) (n : Nat) : LikeG W (W.drewN n) := ⟨rfl, fun B w h => h.trans ⟨rfl, rfl, rfl, Nat.le_refl _, fun _ _ => rfl⟩⟩
theorem LikeG.trans {a b c : World} (h : LikeG a b) (k : LikeG b c) : LikeG a c := ⟨k.1.trans h.1, fun B w hb => k.2 B w (h.2 B w hb)⟩
theorem LikeG.cell {a b : World} (h : LikeG a b) (p : Addr) : b.cell? p = a.cell? p := by unfold World.cell?; rw [h.1]
theorem LikeG.row {a b : World} (h : LikeG a b) {x base size n : Nat} {t : TypeId} {v : Value} {xs : List Value} (k : a.ownsRow base t size v n xs) : b.ownsRow base t size v n xs := by
  unfold World.ownsRow at *; rw [h.1]; exact k

theorem mpart_yes (B n base a k : Nat) (w : World) (h0 : 0 < k) (h1 : base ≤ a) (h2 : k ≤ n) (h3 : a - base ≤ n - k) (ha : a < 4294967296) (hn : n ≤ 1048576) :
    Calls Try.prog 88 #[.slice (some ⟨B, 0, none⟩) n n, .int .u32 (base : Int), .int .u32 (a : Int), .int .i64 (k : Int)] w fun e w' => e = .returned (.tuple #[.slice (some ⟨B, a - base, none⟩) k (n - (a - base)), .bool true]) ∧ w = w' := by
  obtain ⟨q, rfl⟩ : ∃ q, a = base + q := ⟨a - base, by omega⟩
  rw [Nat.add_sub_cancel_left] at h3 ⊢
  have t1 : decide ((base + q : Nat) < base) = false := by simp
  have t2 : decide (n < k) = false := by simp; omega
  have hq : q < n := by omega
  have hq2 : n ≠ q := by omega
  go_enter Try.func88, Try.ntmps88
  go_wp2
  go_ret2
  refine ⟨?_, rfl⟩
  show Ending.returned (.tuple #[.slice (some ⟨B, base + q - base, none⟩) (base + q - base + k - (base + q - base)) (n - (base + q - base)), .bool true]) = _
  rw [show base + q - base = q by omega, show q + k - q = k by omega]
theorem mpart_less (B n base a k : Nat) (w : World) (h1 : a < base) (ha : base < 4294967296) :
    Calls Try.prog 88 #[.slice (some ⟨B, 0, none⟩) n n, .int .u32 (base : Int), .int .u32 (a : Int), .int .i64 (k : Int)] w fun e w' => e = .returned (.tuple #[.slice none 0 0, .bool false]) ∧ w = w' := by
  have t1 : decide (a < base) = true := by simp; omega
  go_enter Try.func88, Try.ntmps88
  go_wp2
  all_goals go_ret2
  all_goals exact ⟨rfl, rfl⟩
theorem mpart_big (B n base a k : Nat) (w : World) (h1 : base ≤ a) (h2 : n < k) (ha : a < 4294967296) (hk : k < 9223372036854775808) :
    Calls Try.prog 88 #[.slice (some ⟨B, 0, none⟩) n n, .int .u32 (base : Int), .int .u32 (a : Int), .int .i64 (k : Int)] w fun e w' => e = .returned (.tuple #[.slice none 0 0, .bool false]) ∧ w = w' := by
  have t1 : decide (a < base) = false := by simp; omega
  have t2 : decide (n < k) = true := by simp; omega
  go_enter Try.func88, Try.ntmps88
  go_wp2
  all_goals go_ret2
  all_goals exact ⟨rfl, rfl⟩
theorem mpart_more (B n base a k : Nat) (w : World) (h1 : base ≤ a) (h2 : k ≤ n) (h3 : n - k < a - base) (ha : a < 4294967296) (hn : n ≤ 1048576) :
    Calls Try.prog 88 #[.slice (some ⟨B, 0, none⟩) n n, .int .u32 (base : Int), .int .u32 (a : Int), .int .i64 (k : Int)] w fun e w' => e = .returned (.tuple #[.slice none 0 0, .bool false]) ∧ w = w' := by
  obtain ⟨q, rfl⟩ : ∃ q, a = base + q := ⟨a - base, by omega⟩
  rw [Nat.add_sub_cancel_left] at h3
  have t1 : decide ((base + q : Nat) < base) = false := by simp
  have t2 : decide (n < k) = false := by simp; omega
  go_enter Try.func88, Try.ntmps88
  go_wp2
  all_goals go_ret2
  all_goals exact ⟨rfl, rfl⟩

/-- what a part of a bank is -/
def inB (base n a k : Nat) : Bool := decide (base ≤ a ∧ a + k ≤ base + n)
def PartG (B n base a k : Nat) (sl : Value) (b : Bool) : Prop := ∀ W, Calls Try.prog 88 #[.slice (some ⟨B, 0, none⟩) n n, .int .u32 (base : Int), .int .u32 (a : Int), .int .i64 (k : Int)] W fun e w' => e = .returned (.tuple #[sl, .bool b]) ∧ W = w'
theorem partG_in {B n base a k : Nat} (h0 : 0 < k) (h : inB base n a k = true) (ha : a < 4294967296) (hn : n ≤ 1048576) : PartG B n base a k (.slice (some ⟨B, a - base, none⟩) k (n - (a - base))) true := fun W => by
  have := of_decide_eq_true h
  exact mpart_yes B n base a k W h0 (by omega) (by omega) (by omega) ha hn
theorem partG_out {B n base a k : Nat} (h0 : 0 < k) (h : inB base n a k = false) (ha : a < 4294967296) (hb : base < 4294967296) (hn : n ≤ 1048576) (hk : k < 9223372036854775808) : PartG B n base a k (.slice none 0 0) false := fun W => by
  have := of_decide_eq_false h
  by_cases h1 : a < base
  · exact mpart_less B n base a k W h1 hb
  · by_cases h2 : n < k
    · exact mpart_big B n base a k W (by omega) h2 ha hk
    · exact mpart_more B n base a k W (by omega) (by omega) (by omega) ha hn
theorem partG_q {args : Array Value} {v : Value} {w : World} {m : Nat} (h : ∀ W, Calls Try.prog 88 args W fun e w' => e = .returned v ∧ W = w') :
    Calls Try.prog 88 args (w.drewN m) fun e w' => e = .returned v ∧ ∃ j, w' = w.drewN j :=
  (h _).mono fun e w' ⟨he, hm⟩ => ⟨he, m, hm.symm⟩

def u8G (x : Nat) : Value := .int .u8 (x : Int)
def rowG (l : List Nat) : Array Value := (l.map u8G).toArray
/-- a memory of the program: two banks of bytes -/
structure MemIs (M F R f r : Nat) (Fb Rb : List Nat) (W : World) : Prop where
  c0 : W.cell? ⟨M, 0, none⟩ = some (.int .u32 (f : Nat))
  c2 : W.cell? ⟨M, 2, none⟩ = some (.int .u32 (r : Nat))
  c4 : W.cell? ⟨M, 4, none⟩ = some (.slice (some ⟨F, 0, none⟩) Fb.length Fb.length)
  c5 : W.cell? ⟨M, 5, none⟩ = some (.slice (some ⟨R, 0, none⟩) Rb.length Rb.length)
  hF : W.heap[F]? = some (.cells (rowG Fb) 5 (0, 0))
  hR : W.heap[R]? = some (.cells (rowG Rb) 5 (0, 0))
  fF : ∀ x ∈ Fb, x < 256
  fR : ∀ x ∈ Rb, x < 256
  mF : M ≠ F
  mR : M ≠ R
  fr : F ≠ R
/-- where the banks lie -/
structure Banks (f n1 r n2 : Nat) : Prop where
  a : f + n1 ≤ 4294967296
  b : r + n2 ≤ 4294967296
  c : 4 ≤ n1 ∧ n1 ≤ 1048576
  d : 4 ≤ n2 ∧ n2 ≤ 1048576
  e : f + n1 ≤ r ∨ r + n2 ≤ f
theorem MemIs.like {M F R f r : Nat} {Fb Rb : List Nat} {W W' : World} (h : MemIs M F R f r Fb Rb W) (hl : LikeG W W') : MemIs M F R f r Fb Rb W' :=
  { c0 := (hl.cell _).trans h.c0, c2 := (hl.cell _).trans h.c2, c4 := (hl.cell _).trans h.c4, c5 := (hl.cell _).trans h.c5
    hF := by rw [hl.1]; exact h.hF, hR := by rw [hl.1]; exact h.hR, fF := h.fF, fR := h.fR, mF := h.mF, mR := h.mR, fr := h.fr }

/-- where so many bytes lie -/
def wSl (F R f n1 r n2 a k : Nat) : Value := if inB f n1 a k then .slice (some ⟨F, a - f, none⟩) k (n1 - (a - f)) else if inB r n2 a k then .slice (some ⟨R, a - r, none⟩) k (n2 - (a - r)) else .slice none 0 0
def wIn (f n1 r n2 a k : Nat) : Bool := inB f n1 a k || inB r n2 a k
set_option maxRecDepth 100000 in
set_option maxHeartbeats 1000000 in
theorem within_fst (M F R f r n1 n2 a k : Nat) (W : World) (h0 : W.cell? ⟨M, 0, none⟩ = some (.int .u32 (f : Nat))) (h4 : W.cell? ⟨M, 4, none⟩ = some (.slice (some ⟨F, 0, none⟩) n1 n1)) (sl : Value) (h : PartG F n1 f a k sl true) :
    Calls Try.prog 78 #[.pointer (some ⟨M, 0, none⟩), .int .u32 (a : Nat), .int .i64 (k : Nat)] W fun e w' => e = .returned (.tuple #[sl, .bool true]) ∧ LikeG W w' := by
  go_enter Try.func78, Try.ntmps78
  go_wp2
  go_quiet ((go_at_call 88; exact partG_q h))
  rename_i nq
  go_wp2
  go_ret2
  exact ⟨rfl, .drewN _ _⟩
set_option maxRecDepth 100000 in
set_option maxHeartbeats 1000000 in
theorem within_snd (M F R f r n1 n2 a k : Nat) (W : World) (h0 : W.cell? ⟨M, 0, none⟩ = some (.int .u32 (f : Nat))) (h2 : W.cell? ⟨M, 2, none⟩ = some (.int .u32 (r : Nat))) (h4 : W.cell? ⟨M, 4, none⟩ = some (.slice (some ⟨F, 0, none⟩) n1 n1)) (h5 : W.cell? ⟨M, 5, none⟩ = some (.slice (some ⟨R, 0, none⟩) n2 n2))
    (h : PartG F n1 f a k (.slice none 0 0) false) (sl : Value) (b : Bool) (hk : PartG R n2 r a k sl b) :
    Calls Try.prog 78 #[.pointer (some ⟨M, 0, none⟩), .int .u32 (a : Nat), .int .i64 (k : Nat)] W fun e w' => e = .returned (.tuple #[sl, .bool b]) ∧ LikeG W w' := by
  go_enter Try.func78, Try.ntmps78
  go_wp2
  go_quiet ((go_at_call 88; exact partG_q h))
  rename_i nq
  have HL := LikeG.drewN W nq
  have h2' := (HL.cell _).trans h2
  have h5' := (HL.cell _).trans h5
  clear h0 h2 h4 h5 h
  generalize W.drewN nq = W1 at HL h2' h5'
  go_wp2
  go_quiet ((go_at_call 88; exact partG_q hk))
  rename_i nq2
  go_wp2
  go_ret2
  exact ⟨rfl, HL.trans (.drewN _ _)⟩
theorem within_any {M F R f r : Nat} {Fb Rb : List Nat} {W : World} (h : MemIs M F R f r Fb Rb W) (hb : Banks f Fb.length r Rb.length) (a k : Nat) (ha : a < 4294967296) (hk : 0 < k) (hk2 : k < 9223372036854775808) :
    Calls Try.prog 78 #[.pointer (some ⟨M, 0, none⟩), .int .u32 (a : Nat), .int .i64 (k : Nat)] W fun e w' => e = .returned (.tuple #[wSl F R f Fb.length r Rb.length a k, .bool (wIn f Fb.length r Rb.length a k)]) ∧ LikeG W w' := by
  have := hb.a; have := hb.b; have := hb.c; have := hb.d
  unfold wSl wIn
  by_cases h1 : inB f Fb.length a k = true
  · rw [if_pos h1, h1]
    exact within_fst M F R f r Fb.length Rb.length a k W h.c0 h.c4 _ (partG_in hk h1 ha (by omega))
  · rw [if_neg h1]
    have h1' := Bool.eq_false_iff.2 h1
    rw [h1']
    by_cases h2 : inB r Rb.length a k = true
    · rw [if_pos h2, h2]
      exact within_snd M F R f r Fb.length Rb.length a k W h.c0 h.c2 h.c4 h.c5 (partG_out hk h1' ha (by omega) (by omega) hk2) _ _ (partG_in hk h2 ha (by omega))
    · rw [if_neg h2]
      have h2' := Bool.eq_false_iff.2 h2
      rw [h2']
      exact within_snd M F R f r Fb.length Rb.length a k W h.c0 h.c2 h.c4 h.c5 (partG_out hk h1' ha (by omega) (by omega) hk2) _ _ (partG_out hk h2' ha (by omega) (by omega) hk2)
end Go.Proofs.Ytghclbeoabkgcaa
