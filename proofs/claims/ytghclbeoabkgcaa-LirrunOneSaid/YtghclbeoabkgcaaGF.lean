/- Contract of one step of the document's machine for loop programs, over a memory. -/
import Derived.Test.YtghclbeoabkgcaaLrS
import Derived.Test.YtghclbeoabkgcaaLrOb
import Derived.Test.YtghclbeoabkgcaaLrOc
import Derived.Test.YtghclbeoabkgcaaLrOd
import Derived.Test.YtghclbeoabkgcaaGD
namespace Go.Proofs.Ytghclbeoabkgcaa
open Go Go.RowKit Pl
set_option linter.unusedVariables false

theorem machT_step {B : Nat} {mp : Option Addr} {F : Int} {f : Nat → Int} {s t s' : Int} {w : World} (h : MachT B mp F f s t w) : MachT B mp F f s' t (w.setCell ⟨B, 65, none⟩ (.int .i64 s')) := by
  have ne : ∀ k, k ≠ 65 → (⟨B, 65, none⟩ : Addr) ≠ ⟨B, k, none⟩ := fun k hk e => hk (by cases e; rfl)
  refine ⟨fun k hk => ?_, ?_, ?_, ?_, fun k hk => ?_, ?_, ?_⟩
  · rw [World.cell?_setCell_other (h := ne _ (by omega))]; exact h.v k hk
  · exact World.cell?_setCell_same _ _ _ h.st
  · rw [World.cell?_setCell_other (h := ne _ (by omega))]; exact h.fu
  · rw [World.cell?_setCell_other (h := ne _ (by omega))]; exact h.tr
  · rw [World.frozen?_setCell]; exact h.fz k hk
  · rw [World.size_setCell]; exact h.lt
  · rw [World.cell?_setCell_other (h := ne _ (by omega))]; exact h.m
/-- what a step comes to -/
def OneOf (B X Bs : Nat) (F : Int) (K : Bk) (n2 : Nat) (f : Nat → Int) (s t : Int) (L : List (Nat × Nat)) (v : Value) (w : World) (e : Ending) (w' : World) : Prop :=
  e = .returned (.tuple #[]) ∧ MachT B (some ⟨X, 0, none⟩) F f s t w' ∧ (∃ v', RefIs X Bs K.ff K.Fb.length K.rr n2 L v' w' ∧ Fresh v v' w) ∧ Out (fun j => j = B ∨ RS X v j) w w'
set_option maxRecDepth 100000 in
set_option maxHeartbeats 2000000 in
theorem one_memo (B X Bs D A E : Nat) (o imm F s : Int) (K : Bk) (n2 : Nat) (f : Nat → Int) (L : List (Nat × Nat)) (v : Value) (w : World) (ho1 : 17 ≤ o) (ho2 : o ≤ 22) (hs : 0 ≤ s ∧ s ≤ 100000) (hBX : B ≠ X) (hvB : v.ownBlock ≠ some B) (hlB : B < w.heap.size)
    (MC : Calls Try.prog 80 #[.pointer (some ⟨B, 0, none⟩), .agg #[.int .i64 o, .int .i64 D, .int .i64 A, .int .i64 E, .int .i32 imm]] (w.alloc (.cells #[.int .i64 o, .int .i64 D, .int .i64 A, .int .i64 E, .int .i32 imm] 29)) (MemPost B X Bs F K n2 f s 0 L v (w.alloc (.cells #[.int .i64 o, .int .i64 D, .int .i64 A, .int .i64 E, .int .i32 imm] 29)))) :
    Calls Try.prog 53 #[.pointer (some ⟨B, 0, none⟩), .agg #[.int .i64 o, .int .i64 D, .int .i64 A, .int .i64 E, .int .i32 imm]] w (OneOf B X Bs F K n2 f (s + 1) 0 L v w) := by
  have M := Lib.hid MC
  have t1 : decide (17 ≤ o) = true := by simpa using ho1
  have t2 : decide (o ≤ 22) = true := by simpa using ho2
  have us := IntWalk.i64_in (s + 1) (by omega)
  clear MC
  go_enter Try.func53, Try.ntmps53
  go_wp2_with fail
  refine M.out.mono ?_
  rintro e w1 ⟨rfl, h1, ⟨v1, h2, h3⟩, h4⟩
  have T1 := Lib.hid h1
  have R1 := Lib.hid h2
  have F1 := Lib.hid (show Fresh v v1 w from fun j hj => by
    rcases h3 j hj with g | g
    · exact .inl g
    · exact .inr (by simp at g; omega))
  have O1 := Lib.hid ((Out.of_below (fun j => j = B ∨ RS X v j) ((Below.refl w.heap.size w).alloc (Nat.le_refl _) (.cells #[.int .i64 o, .int .i64 D, .int .i64 A, .int .i64 E, .int .i32 imm] 29))).trans h4)
  clear h1 h2 h3 h4 M
  have ct := T1.out.tr
  have cs := T1.out.st
  have zs := T1.out.fz 65 (by omega)
  go_wp2_with fail
  exact Go.Great.bodyPost_end0 (by rfl) (by rfl) ⟨rfl, machT_step T1.out, ⟨v1, R1.out.out (out_setT B 65 _ w1) (fun e => hBX e.symm) (fun j hj e => by subst e; rcases F1.out j hj with g | g; exact hvB g; omega), F1.out⟩, O1.out.trans ((out_setT B 65 _ w1).mono (fun j h => .inl h))⟩
set_option maxRecDepth 100000 in
set_option maxHeartbeats 2000000 in
theorem one_memt (B X Bs D A E : Nat) (o imm F s t : Int) (K : Bk) (n2 : Nat) (f : Nat → Int) (L : List (Nat × Nat)) (v : Value) (w : World) (ho1 : 17 ≤ o) (ho2 : o ≤ 22) (ht : (t == 0) = false)
    (MC : Calls Try.prog 80 #[.pointer (some ⟨B, 0, none⟩), .agg #[.int .i64 o, .int .i64 D, .int .i64 A, .int .i64 E, .int .i32 imm]] (w.alloc (.cells #[.int .i64 o, .int .i64 D, .int .i64 A, .int .i64 E, .int .i32 imm] 29)) (MemPost B X Bs F K n2 f s t L v (w.alloc (.cells #[.int .i64 o, .int .i64 D, .int .i64 A, .int .i64 E, .int .i32 imm] 29)))) :
    Calls Try.prog 53 #[.pointer (some ⟨B, 0, none⟩), .agg #[.int .i64 o, .int .i64 D, .int .i64 A, .int .i64 E, .int .i32 imm]] w (OneOf B X Bs F K n2 f s t L v w) := by
  have M := Lib.hid MC
  have t1 : decide (17 ≤ o) = true := by simpa using ho1
  have t2 : decide (o ≤ 22) = true := by simpa using ho2
  clear MC
  go_enter Try.func53, Try.ntmps53
  go_wp2_with fail
  refine M.out.mono ?_
  rintro e w1 ⟨rfl, h1, ⟨v1, h2, h3⟩, h4⟩
  have T1 := Lib.hid h1
  have R1 := Lib.hid h2
  have F1 := Lib.hid (show Fresh v v1 w from fun j hj => by
    rcases h3 j hj with g | g
    · exact .inl g
    · exact .inr (by simp at g; omega))
  have O1 := Lib.hid ((Out.of_below (fun j => j = B ∨ RS X v j) ((Below.refl w.heap.size w).alloc (Nat.le_refl _) (.cells #[.int .i64 o, .int .i64 D, .int .i64 A, .int .i64 E, .int .i32 imm] 29))).trans h4)
  clear h1 h2 h3 h4 M
  have ct := T1.out.tr
  go_wp2_with fail
  exact Go.Great.bodyPost_end0 (by rfl) (by rfl) ⟨rfl, T1.out, ⟨v1, R1.out, F1.out⟩, O1.out⟩
end Go.Proofs.Ytghclbeoabkgcaa

namespace Go.Proofs.Ytghclbeoabkgcaa
open Go Go.RowKit Pl
set_option linter.unusedVariables false

def RonePost (B X Bs : Nat) (F : Int) (K : Bk) (n2 : Nat) (r : LD) (s : Int) (L : List (Nat × Nat)) (v : Value) (w : World) (e : Ending) (w' : World) : Prop :=
  e = .returned (.tuple #[]) ∧ MachT B (some ⟨X, 0, none⟩) F r.f (if r.t = 0 then s + 1 else s) r.t w' ∧
  (∃ L' v', RefIs X Bs K.ff K.Fb.length K.rr n2 L' v' w' ∧ Fresh v v' w ∧ Agree K.ff K.rr K.Fb r.b L' ∧ L'.length ≤ L.length + 4) ∧ Out (fun j => j = B ∨ RS X v j) w w'
theorem shT {i : Int} (h : 0 ≤ i ∧ i ≤ 31) : (i % 4294967296 % 32).toNat = i.toNat := by
  rw [show i % 4294967296 % 32 = i by omega]
theorem doT_plain {K : Bk} {x : Q5} {f : Nat → Int} {b : List Nat} {v : Int} (h : x.o ≤ 16 ∨ x.o = 23) (hv : valR x f = v) : doR K x f b = ⟨0, upd f x.d.toNat v, b⟩ := by
  unfold doR
  rw [if_pos h, hv]
theorem rone_plain {B X Bs : Nat} {F : Int} {K : Bk} {n2 : Nat} {f' : Nat → Int} {b : List Nat} {s : Int} {L : List (Nat × Nat)} {v : Value} {w : World} {e : Ending} {w' : World} (hr : RefIs X Bs K.ff K.Fb.length K.rr n2 L v w) (hag : Agree K.ff K.rr K.Fb b L) (hBX : B ≠ X) (hvB : v.ownBlock ≠ some B)
    (h : e = .returned (.tuple #[]) ∧ MachR B (some ⟨X, 0, none⟩) F f' (s + 1) w' ∧ w.grownBy w' (some B)) : RonePost B X Bs F K n2 ⟨0, f', b⟩ s L v w e w' := by
  obtain ⟨h1, h2, h3⟩ := h
  have ho : Out (· = B) w w' := Out.of_grown h3 (fun j h => by cases h; rfl)
  exact ⟨h1, h2.t, ⟨L, v, hr.out ho (fun e => hBX e.symm) (fun j hj e => by subst e; exact hvB hj), .refl _ _, hag, by omega⟩, ho.mono fun j h => .inl h⟩
theorem rone_of {B X Bs : Nat} {F : Int} {K : Bk} {n2 : Nat} {r : LD} {f' : Nat → Int} {s s' t : Int} {L L' : List (Nat × Nat)} {v : Value} {w : World} {e : Ending} {w' : World} (h : OneOf B X Bs F K n2 f' s' t L' v w e w') (e1 : r.t = t) (e2 : r.f = f') (e3 : s' = if t = 0 then s + 1 else s) (hag : Agree K.ff K.rr K.Fb r.b L') (hl : L'.length ≤ L.length + 4) : RonePost B X Bs F K n2 r s L v w e w' := by
  obtain ⟨h1, h2, ⟨v', h3, h4⟩, h5⟩ := h
  subst e1 e2
  exact ⟨h1, by rw [← e3]; exact h2, ⟨L', v', h3, h4, hag, hl⟩, h5⟩
theorem extT_19 (n : Nat) : extR 19 n = sextS (n : Int) 16 := by
  have h : (8 * ((sizeR 19 : Nat) : Int)) = 16 := by decide
  unfold extR
  rw [if_neg (by decide), h]
theorem extT_20 (n : Nat) : extR 20 n = (n : Int) := by
  have h : (8 * ((sizeR 20 : Nat) : Int)) = 32 := by decide
  unfold extR
  rw [if_neg (by decide), h]
  unfold sextS
  rw [if_neg (by decide), if_pos (by decide)]
theorem extT_17 (n : Nat) : extR 17 n = sextS (n : Int) 8 := by
  have h : (8 * ((sizeR 17 : Nat) : Int)) = 8 := by decide
  unfold extR
  rw [if_neg (by decide), h]
theorem extT_18 (n : Nat) : extR 18 n = (n : Int) := by
  unfold extR
  rw [if_pos rfl]
theorem storeS_len (r n2 : Nat) (L : List (Nat × Nat)) (a k x : Nat) (hk : k ≤ 4) : (logS r n2 L a k x).length ≤ L.length + 4 := by
  have := logS_length r n2 L a k x
  omega
theorem case_upT {o k : Int} {P : Prop} (h : k ≤ o) (h1 : o = k → P) (h2 : k + 1 ≤ o → P) : P := by
  by_cases e : o = k
  · exact h1 e
  · exact h2 (by omega)

theorem rona_1 (B X Bs D A E : Nat) (i F s : Int) (K : Bk) (f : Nat → Int) (b : List Nat) (L : List (Nat × Nat)) (v : Value) (w : World) (hD : D < 64) (hA : A < 64) (hE : E < 64) (hsh : 14 ≤ (1 : Int) → (1 : Int) ≤ 16 → 0 ≤ i ∧ i ≤ 31) (hs : 0 ≤ s ∧ s ≤ 1000) (hm : MachR B (some ⟨X, 0, none⟩) F f s w) (hr : RefIs X Bs K.ff K.Fb.length K.rr b.length L v w) (hag : Agree K.ff K.rr K.Fb b L) (hbk : Banks K.ff K.Fb.length K.rr b.length) (hBX : B ≠ X) (hvB : v.ownBlock ≠ some B) (hf : WordsF f) (hl : L.length + 4 ≤ 1000000) (ld : ∀ op : Int, (ldR K ⟨op, D, A, E, i⟩ f b).1 < 4294967296) :
    Calls Try.prog 53 #[.pointer (some ⟨B, 0, none⟩), .agg #[.int .i64 1, .int .i64 D, .int .i64 A, .int .i64 E, .int .i32 i]] w (RonePost B X Bs F K b.length (doR K ⟨1, D, A, E, i⟩ f b) s L v w) := by
  rw [doT_plain (.inl (show (1 : Int) ≤ 16 by decide)) rfl]; exact (one_1 B D A E _ F i f s w hD hA hE hs hm hf).mono fun e w' h => rone_plain hr hag hBX hvB h

theorem rona_2 (B X Bs D A E : Nat) (i F s : Int) (K : Bk) (f : Nat → Int) (b : List Nat) (L : List (Nat × Nat)) (v : Value) (w : World) (hD : D < 64) (hA : A < 64) (hE : E < 64) (hsh : 14 ≤ (2 : Int) → (2 : Int) ≤ 16 → 0 ≤ i ∧ i ≤ 31) (hs : 0 ≤ s ∧ s ≤ 1000) (hm : MachR B (some ⟨X, 0, none⟩) F f s w) (hr : RefIs X Bs K.ff K.Fb.length K.rr b.length L v w) (hag : Agree K.ff K.rr K.Fb b L) (hbk : Banks K.ff K.Fb.length K.rr b.length) (hBX : B ≠ X) (hvB : v.ownBlock ≠ some B) (hf : WordsF f) (hl : L.length + 4 ≤ 1000000) (ld : ∀ op : Int, (ldR K ⟨op, D, A, E, i⟩ f b).1 < 4294967296) :
    Calls Try.prog 53 #[.pointer (some ⟨B, 0, none⟩), .agg #[.int .i64 2, .int .i64 D, .int .i64 A, .int .i64 E, .int .i32 i]] w (RonePost B X Bs F K b.length (doR K ⟨2, D, A, E, i⟩ f b) s L v w) := by
  rw [doT_plain (.inl (show (2 : Int) ≤ 16 by decide)) rfl]; exact (one_2 B D A E _ F i f s w hD hA hE hs hm hf).mono fun e w' h => rone_plain hr hag hBX hvB h

theorem rona_3 (B X Bs D A E : Nat) (i F s : Int) (K : Bk) (f : Nat → Int) (b : List Nat) (L : List (Nat × Nat)) (v : Value) (w : World) (hD : D < 64) (hA : A < 64) (hE : E < 64) (hsh : 14 ≤ (3 : Int) → (3 : Int) ≤ 16 → 0 ≤ i ∧ i ≤ 31) (hs : 0 ≤ s ∧ s ≤ 1000) (hm : MachR B (some ⟨X, 0, none⟩) F f s w) (hr : RefIs X Bs K.ff K.Fb.length K.rr b.length L v w) (hag : Agree K.ff K.rr K.Fb b L) (hbk : Banks K.ff K.Fb.length K.rr b.length) (hBX : B ≠ X) (hvB : v.ownBlock ≠ some B) (hf : WordsF f) (hl : L.length + 4 ≤ 1000000) (ld : ∀ op : Int, (ldR K ⟨op, D, A, E, i⟩ f b).1 < 4294967296) :
    Calls Try.prog 53 #[.pointer (some ⟨B, 0, none⟩), .agg #[.int .i64 3, .int .i64 D, .int .i64 A, .int .i64 E, .int .i32 i]] w (RonePost B X Bs F K b.length (doR K ⟨3, D, A, E, i⟩ f b) s L v w) := by
  rw [doT_plain (.inl (show (3 : Int) ≤ 16 by decide)) rfl]; exact (one_3 B D A E _ F i f s w hD hA hE hs hm hf).mono fun e w' h => rone_plain hr hag hBX hvB h

theorem rona_4 (B X Bs D A E : Nat) (i F s : Int) (K : Bk) (f : Nat → Int) (b : List Nat) (L : List (Nat × Nat)) (v : Value) (w : World) (hD : D < 64) (hA : A < 64) (hE : E < 64) (hsh : 14 ≤ (4 : Int) → (4 : Int) ≤ 16 → 0 ≤ i ∧ i ≤ 31) (hs : 0 ≤ s ∧ s ≤ 1000) (hm : MachR B (some ⟨X, 0, none⟩) F f s w) (hr : RefIs X Bs K.ff K.Fb.length K.rr b.length L v w) (hag : Agree K.ff K.rr K.Fb b L) (hbk : Banks K.ff K.Fb.length K.rr b.length) (hBX : B ≠ X) (hvB : v.ownBlock ≠ some B) (hf : WordsF f) (hl : L.length + 4 ≤ 1000000) (ld : ∀ op : Int, (ldR K ⟨op, D, A, E, i⟩ f b).1 < 4294967296) :
    Calls Try.prog 53 #[.pointer (some ⟨B, 0, none⟩), .agg #[.int .i64 4, .int .i64 D, .int .i64 A, .int .i64 E, .int .i32 i]] w (RonePost B X Bs F K b.length (doR K ⟨4, D, A, E, i⟩ f b) s L v w) := by
  rw [doT_plain (.inl (show (4 : Int) ≤ 16 by decide)) rfl]; exact (one_4 B D A E _ F i f s w hD hA hE hs hm hf).mono fun e w' h => rone_plain hr hag hBX hvB h

theorem rona_5 (B X Bs D A E : Nat) (i F s : Int) (K : Bk) (f : Nat → Int) (b : List Nat) (L : List (Nat × Nat)) (v : Value) (w : World) (hD : D < 64) (hA : A < 64) (hE : E < 64) (hsh : 14 ≤ (5 : Int) → (5 : Int) ≤ 16 → 0 ≤ i ∧ i ≤ 31) (hs : 0 ≤ s ∧ s ≤ 1000) (hm : MachR B (some ⟨X, 0, none⟩) F f s w) (hr : RefIs X Bs K.ff K.Fb.length K.rr b.length L v w) (hag : Agree K.ff K.rr K.Fb b L) (hbk : Banks K.ff K.Fb.length K.rr b.length) (hBX : B ≠ X) (hvB : v.ownBlock ≠ some B) (hf : WordsF f) (hl : L.length + 4 ≤ 1000000) (ld : ∀ op : Int, (ldR K ⟨op, D, A, E, i⟩ f b).1 < 4294967296) :
    Calls Try.prog 53 #[.pointer (some ⟨B, 0, none⟩), .agg #[.int .i64 5, .int .i64 D, .int .i64 A, .int .i64 E, .int .i32 i]] w (RonePost B X Bs F K b.length (doR K ⟨5, D, A, E, i⟩ f b) s L v w) := by
  rw [doT_plain (.inl (show (5 : Int) ≤ 16 by decide)) rfl]; exact (one_5 B D A E _ F i f s w hD hA hE hs hm hf).mono fun e w' h => rone_plain hr hag hBX hvB h

theorem rona_6 (B X Bs D A E : Nat) (i F s : Int) (K : Bk) (f : Nat → Int) (b : List Nat) (L : List (Nat × Nat)) (v : Value) (w : World) (hD : D < 64) (hA : A < 64) (hE : E < 64) (hsh : 14 ≤ (6 : Int) → (6 : Int) ≤ 16 → 0 ≤ i ∧ i ≤ 31) (hs : 0 ≤ s ∧ s ≤ 1000) (hm : MachR B (some ⟨X, 0, none⟩) F f s w) (hr : RefIs X Bs K.ff K.Fb.length K.rr b.length L v w) (hag : Agree K.ff K.rr K.Fb b L) (hbk : Banks K.ff K.Fb.length K.rr b.length) (hBX : B ≠ X) (hvB : v.ownBlock ≠ some B) (hf : WordsF f) (hl : L.length + 4 ≤ 1000000) (ld : ∀ op : Int, (ldR K ⟨op, D, A, E, i⟩ f b).1 < 4294967296) :
    Calls Try.prog 53 #[.pointer (some ⟨B, 0, none⟩), .agg #[.int .i64 6, .int .i64 D, .int .i64 A, .int .i64 E, .int .i32 i]] w (RonePost B X Bs F K b.length (doR K ⟨6, D, A, E, i⟩ f b) s L v w) := by
  rw [doT_plain (.inl (show (6 : Int) ≤ 16 by decide)) rfl]; exact (one_6 B D A E _ F i f s w hD hA hE hs hm hf).mono fun e w' h => rone_plain hr hag hBX hvB h

theorem rona_7 (B X Bs D A E : Nat) (i F s : Int) (K : Bk) (f : Nat → Int) (b : List Nat) (L : List (Nat × Nat)) (v : Value) (w : World) (hD : D < 64) (hA : A < 64) (hE : E < 64) (hsh : 14 ≤ (7 : Int) → (7 : Int) ≤ 16 → 0 ≤ i ∧ i ≤ 31) (hs : 0 ≤ s ∧ s ≤ 1000) (hm : MachR B (some ⟨X, 0, none⟩) F f s w) (hr : RefIs X Bs K.ff K.Fb.length K.rr b.length L v w) (hag : Agree K.ff K.rr K.Fb b L) (hbk : Banks K.ff K.Fb.length K.rr b.length) (hBX : B ≠ X) (hvB : v.ownBlock ≠ some B) (hf : WordsF f) (hl : L.length + 4 ≤ 1000000) (ld : ∀ op : Int, (ldR K ⟨op, D, A, E, i⟩ f b).1 < 4294967296) :
    Calls Try.prog 53 #[.pointer (some ⟨B, 0, none⟩), .agg #[.int .i64 7, .int .i64 D, .int .i64 A, .int .i64 E, .int .i32 i]] w (RonePost B X Bs F K b.length (doR K ⟨7, D, A, E, i⟩ f b) s L v w) := by
  rw [doT_plain (.inl (show (7 : Int) ≤ 16 by decide)) rfl]; exact (one_7 B D A E _ F i f s w hD hA hE hs hm hf).mono fun e w' h => rone_plain hr hag hBX hvB h

theorem rona_8 (B X Bs D A E : Nat) (i F s : Int) (K : Bk) (f : Nat → Int) (b : List Nat) (L : List (Nat × Nat)) (v : Value) (w : World) (hD : D < 64) (hA : A < 64) (hE : E < 64) (hsh : 14 ≤ (8 : Int) → (8 : Int) ≤ 16 → 0 ≤ i ∧ i ≤ 31) (hs : 0 ≤ s ∧ s ≤ 1000) (hm : MachR B (some ⟨X, 0, none⟩) F f s w) (hr : RefIs X Bs K.ff K.Fb.length K.rr b.length L v w) (hag : Agree K.ff K.rr K.Fb b L) (hbk : Banks K.ff K.Fb.length K.rr b.length) (hBX : B ≠ X) (hvB : v.ownBlock ≠ some B) (hf : WordsF f) (hl : L.length + 4 ≤ 1000000) (ld : ∀ op : Int, (ldR K ⟨op, D, A, E, i⟩ f b).1 < 4294967296) :
    Calls Try.prog 53 #[.pointer (some ⟨B, 0, none⟩), .agg #[.int .i64 8, .int .i64 D, .int .i64 A, .int .i64 E, .int .i32 i]] w (RonePost B X Bs F K b.length (doR K ⟨8, D, A, E, i⟩ f b) s L v w) := by
  rw [doT_plain (.inl (show (8 : Int) ≤ 16 by decide)) rfl]; exact (one_8 B D A E _ F i f s w hD hA hE hs hm hf).mono fun e w' h => rone_plain hr hag hBX hvB h

theorem rona_9 (B X Bs D A E : Nat) (i F s : Int) (K : Bk) (f : Nat → Int) (b : List Nat) (L : List (Nat × Nat)) (v : Value) (w : World) (hD : D < 64) (hA : A < 64) (hE : E < 64) (hsh : 14 ≤ (9 : Int) → (9 : Int) ≤ 16 → 0 ≤ i ∧ i ≤ 31) (hs : 0 ≤ s ∧ s ≤ 1000) (hm : MachR B (some ⟨X, 0, none⟩) F f s w) (hr : RefIs X Bs K.ff K.Fb.length K.rr b.length L v w) (hag : Agree K.ff K.rr K.Fb b L) (hbk : Banks K.ff K.Fb.length K.rr b.length) (hBX : B ≠ X) (hvB : v.ownBlock ≠ some B) (hf : WordsF f) (hl : L.length + 4 ≤ 1000000) (ld : ∀ op : Int, (ldR K ⟨op, D, A, E, i⟩ f b).1 < 4294967296) :
    Calls Try.prog 53 #[.pointer (some ⟨B, 0, none⟩), .agg #[.int .i64 9, .int .i64 D, .int .i64 A, .int .i64 E, .int .i32 i]] w (RonePost B X Bs F K b.length (doR K ⟨9, D, A, E, i⟩ f b) s L v w) := by
  rw [doT_plain (.inl (show (9 : Int) ≤ 16 by decide)) rfl]; exact (one_9 B D A E _ F i f s w hD hA hE hs hm hf).mono fun e w' h => rone_plain hr hag hBX hvB h

theorem rona_10 (B X Bs D A E : Nat) (i F s : Int) (K : Bk) (f : Nat → Int) (b : List Nat) (L : List (Nat × Nat)) (v : Value) (w : World) (hD : D < 64) (hA : A < 64) (hE : E < 64) (hsh : 14 ≤ (10 : Int) → (10 : Int) ≤ 16 → 0 ≤ i ∧ i ≤ 31) (hs : 0 ≤ s ∧ s ≤ 1000) (hm : MachR B (some ⟨X, 0, none⟩) F f s w) (hr : RefIs X Bs K.ff K.Fb.length K.rr b.length L v w) (hag : Agree K.ff K.rr K.Fb b L) (hbk : Banks K.ff K.Fb.length K.rr b.length) (hBX : B ≠ X) (hvB : v.ownBlock ≠ some B) (hf : WordsF f) (hl : L.length + 4 ≤ 1000000) (ld : ∀ op : Int, (ldR K ⟨op, D, A, E, i⟩ f b).1 < 4294967296) :
    Calls Try.prog 53 #[.pointer (some ⟨B, 0, none⟩), .agg #[.int .i64 10, .int .i64 D, .int .i64 A, .int .i64 E, .int .i32 i]] w (RonePost B X Bs F K b.length (doR K ⟨10, D, A, E, i⟩ f b) s L v w) := by
  rw [doT_plain (.inl (show (10 : Int) ≤ 16 by decide)) rfl]; exact (one_10 B D A E _ F i f s w hD hA hE hs hm hf).mono fun e w' h => rone_plain hr hag hBX hvB h

theorem rona_11 (B X Bs D A E : Nat) (i F s : Int) (K : Bk) (f : Nat → Int) (b : List Nat) (L : List (Nat × Nat)) (v : Value) (w : World) (hD : D < 64) (hA : A < 64) (hE : E < 64) (hsh : 14 ≤ (11 : Int) → (11 : Int) ≤ 16 → 0 ≤ i ∧ i ≤ 31) (hs : 0 ≤ s ∧ s ≤ 1000) (hm : MachR B (some ⟨X, 0, none⟩) F f s w) (hr : RefIs X Bs K.ff K.Fb.length K.rr b.length L v w) (hag : Agree K.ff K.rr K.Fb b L) (hbk : Banks K.ff K.Fb.length K.rr b.length) (hBX : B ≠ X) (hvB : v.ownBlock ≠ some B) (hf : WordsF f) (hl : L.length + 4 ≤ 1000000) (ld : ∀ op : Int, (ldR K ⟨op, D, A, E, i⟩ f b).1 < 4294967296) :
    Calls Try.prog 53 #[.pointer (some ⟨B, 0, none⟩), .agg #[.int .i64 11, .int .i64 D, .int .i64 A, .int .i64 E, .int .i32 i]] w (RonePost B X Bs F K b.length (doR K ⟨11, D, A, E, i⟩ f b) s L v w) := by
  rw [doT_plain (.inl (show (11 : Int) ≤ 16 by decide)) rfl]; exact (one_11 B D A E _ F i f s w hD hA hE hs hm hf).mono fun e w' h => rone_plain hr hag hBX hvB h

theorem rona_12 (B X Bs D A E : Nat) (i F s : Int) (K : Bk) (f : Nat → Int) (b : List Nat) (L : List (Nat × Nat)) (v : Value) (w : World) (hD : D < 64) (hA : A < 64) (hE : E < 64) (hsh : 14 ≤ (12 : Int) → (12 : Int) ≤ 16 → 0 ≤ i ∧ i ≤ 31) (hs : 0 ≤ s ∧ s ≤ 1000) (hm : MachR B (some ⟨X, 0, none⟩) F f s w) (hr : RefIs X Bs K.ff K.Fb.length K.rr b.length L v w) (hag : Agree K.ff K.rr K.Fb b L) (hbk : Banks K.ff K.Fb.length K.rr b.length) (hBX : B ≠ X) (hvB : v.ownBlock ≠ some B) (hf : WordsF f) (hl : L.length + 4 ≤ 1000000) (ld : ∀ op : Int, (ldR K ⟨op, D, A, E, i⟩ f b).1 < 4294967296) :
    Calls Try.prog 53 #[.pointer (some ⟨B, 0, none⟩), .agg #[.int .i64 12, .int .i64 D, .int .i64 A, .int .i64 E, .int .i32 i]] w (RonePost B X Bs F K b.length (doR K ⟨12, D, A, E, i⟩ f b) s L v w) := by
  rw [doT_plain (.inl (show (12 : Int) ≤ 16 by decide)) rfl]; exact (one_12 B D A E _ F i f s w hD hA hE hs hm hf).mono fun e w' h => rone_plain hr hag hBX hvB h

theorem rona_13 (B X Bs D A E : Nat) (i F s : Int) (K : Bk) (f : Nat → Int) (b : List Nat) (L : List (Nat × Nat)) (v : Value) (w : World) (hD : D < 64) (hA : A < 64) (hE : E < 64) (hsh : 14 ≤ (13 : Int) → (13 : Int) ≤ 16 → 0 ≤ i ∧ i ≤ 31) (hs : 0 ≤ s ∧ s ≤ 1000) (hm : MachR B (some ⟨X, 0, none⟩) F f s w) (hr : RefIs X Bs K.ff K.Fb.length K.rr b.length L v w) (hag : Agree K.ff K.rr K.Fb b L) (hbk : Banks K.ff K.Fb.length K.rr b.length) (hBX : B ≠ X) (hvB : v.ownBlock ≠ some B) (hf : WordsF f) (hl : L.length + 4 ≤ 1000000) (ld : ∀ op : Int, (ldR K ⟨op, D, A, E, i⟩ f b).1 < 4294967296) :
    Calls Try.prog 53 #[.pointer (some ⟨B, 0, none⟩), .agg #[.int .i64 13, .int .i64 D, .int .i64 A, .int .i64 E, .int .i32 i]] w (RonePost B X Bs F K b.length (doR K ⟨13, D, A, E, i⟩ f b) s L v w) := by
  rw [doT_plain (.inl (show (13 : Int) ≤ 16 by decide)) rfl]; exact (one_13 B D A E _ F i f s w hD hA hE hs hm hf).mono fun e w' h => rone_plain hr hag hBX hvB h

theorem rona_14 (B X Bs D A E : Nat) (i F s : Int) (K : Bk) (f : Nat → Int) (b : List Nat) (L : List (Nat × Nat)) (v : Value) (w : World) (hD : D < 64) (hA : A < 64) (hE : E < 64) (hsh : 14 ≤ (14 : Int) → (14 : Int) ≤ 16 → 0 ≤ i ∧ i ≤ 31) (hs : 0 ≤ s ∧ s ≤ 1000) (hm : MachR B (some ⟨X, 0, none⟩) F f s w) (hr : RefIs X Bs K.ff K.Fb.length K.rr b.length L v w) (hag : Agree K.ff K.rr K.Fb b L) (hbk : Banks K.ff K.Fb.length K.rr b.length) (hBX : B ≠ X) (hvB : v.ownBlock ≠ some B) (hf : WordsF f) (hl : L.length + 4 ≤ 1000000) (ld : ∀ op : Int, (ldR K ⟨op, D, A, E, i⟩ f b).1 < 4294967296) :
    Calls Try.prog 53 #[.pointer (some ⟨B, 0, none⟩), .agg #[.int .i64 14, .int .i64 D, .int .i64 A, .int .i64 E, .int .i32 i]] w (RonePost B X Bs F K b.length (doR K ⟨14, D, A, E, i⟩ f b) s L v w) := by
  rw [doT_plain (.inl (show (14 : Int) ≤ 16 by decide)) rfl]; exact (one_14 B D A E _ F i f s w hD hA hE hs hm hf).mono fun e w' h => rone_plain hr hag hBX hvB h

theorem rona_15 (B X Bs D A E : Nat) (i F s : Int) (K : Bk) (f : Nat → Int) (b : List Nat) (L : List (Nat × Nat)) (v : Value) (w : World) (hD : D < 64) (hA : A < 64) (hE : E < 64) (hsh : 14 ≤ (15 : Int) → (15 : Int) ≤ 16 → 0 ≤ i ∧ i ≤ 31) (hs : 0 ≤ s ∧ s ≤ 1000) (hm : MachR B (some ⟨X, 0, none⟩) F f s w) (hr : RefIs X Bs K.ff K.Fb.length K.rr b.length L v w) (hag : Agree K.ff K.rr K.Fb b L) (hbk : Banks K.ff K.Fb.length K.rr b.length) (hBX : B ≠ X) (hvB : v.ownBlock ≠ some B) (hf : WordsF f) (hl : L.length + 4 ≤ 1000000) (ld : ∀ op : Int, (ldR K ⟨op, D, A, E, i⟩ f b).1 < 4294967296) :
    Calls Try.prog 53 #[.pointer (some ⟨B, 0, none⟩), .agg #[.int .i64 15, .int .i64 D, .int .i64 A, .int .i64 E, .int .i32 i]] w (RonePost B X Bs F K b.length (doR K ⟨15, D, A, E, i⟩ f b) s L v w) := by
  rw [doT_plain (.inl (show (15 : Int) ≤ 16 by decide)) rfl]; exact (one_15 B D A E _ F i f s w hD hA hE hs hm hf).mono fun e w' h => rone_plain hr hag hBX hvB h

theorem rona_16 (B X Bs D A E : Nat) (i F s : Int) (K : Bk) (f : Nat → Int) (b : List Nat) (L : List (Nat × Nat)) (v : Value) (w : World) (hD : D < 64) (hA : A < 64) (hE : E < 64) (hsh : 14 ≤ (16 : Int) → (16 : Int) ≤ 16 → 0 ≤ i ∧ i ≤ 31) (hs : 0 ≤ s ∧ s ≤ 1000) (hm : MachR B (some ⟨X, 0, none⟩) F f s w) (hr : RefIs X Bs K.ff K.Fb.length K.rr b.length L v w) (hag : Agree K.ff K.rr K.Fb b L) (hbk : Banks K.ff K.Fb.length K.rr b.length) (hBX : B ≠ X) (hvB : v.ownBlock ≠ some B) (hf : WordsF f) (hl : L.length + 4 ≤ 1000000) (ld : ∀ op : Int, (ldR K ⟨op, D, A, E, i⟩ f b).1 < 4294967296) :
    Calls Try.prog 53 #[.pointer (some ⟨B, 0, none⟩), .agg #[.int .i64 16, .int .i64 D, .int .i64 A, .int .i64 E, .int .i32 i]] w (RonePost B X Bs F K b.length (doR K ⟨16, D, A, E, i⟩ f b) s L v w) := by
  rw [doT_plain (.inl (show (16 : Int) ≤ 16 by decide)) rfl]; exact (one_16 B D A E _ F i f s w hD hA hE hs hm hf).mono fun e w' h => rone_plain hr hag hBX hvB h

theorem rona_17 (B X Bs D A E : Nat) (i F s : Int) (K : Bk) (f : Nat → Int) (b : List Nat) (L : List (Nat × Nat)) (v : Value) (w : World) (hD : D < 64) (hA : A < 64) (hE : E < 64) (hsh : 14 ≤ (17 : Int) → (17 : Int) ≤ 16 → 0 ≤ i ∧ i ≤ 31) (hs : 0 ≤ s ∧ s ≤ 1000) (hm : MachR B (some ⟨X, 0, none⟩) F f s w) (hr : RefIs X Bs K.ff K.Fb.length K.rr b.length L v w) (hag : Agree K.ff K.rr K.Fb b L) (hbk : Banks K.ff K.Fb.length K.rr b.length) (hBX : B ≠ X) (hvB : v.ownBlock ≠ some B) (hf : WordsF f) (hl : L.length + 4 ≤ 1000000) (ld : ∀ op : Int, (ldR K ⟨op, D, A, E, i⟩ f b).1 < 4294967296) :
    Calls Try.prog 53 #[.pointer (some ⟨B, 0, none⟩), .agg #[.int .i64 17, .int .i64 D, .int .i64 A, .int .i64 E, .int .i32 i]] w (RonePost B X Bs F K b.length (doR K ⟨17, D, A, E, i⟩ f b) s L v w) := by
  have bl : Below w.heap.size w (w.alloc (.cells #[.int .i64 17, .int .i64 D, .int .i64 A, .int .i64 E, .int .i32 i] 29)) := (Below.refl _ _).alloc (Nat.le_refl _) _
  have hm1 : MachR B (some ⟨X, 0, none⟩) F f s (w.alloc (.cells #[.int .i64 17, .int .i64 D, .int .i64 A, .int .i64 E, .int .i32 i] 29)) := hm.grown bl
  have hr1 : RefIs X Bs K.ff K.Fb.length K.rr b.length L v (w.alloc (.cells #[.int .i64 17, .int .i64 D, .int .i64 A, .int .i64 E, .int .i32 i] 29)) := hr.out (Out.of_below (fun _ => False) bl) id (fun _ _ => id)
  have hs1 : sizeR 17 = 1 := rfl
  have hc : ((D : Nat) : Int).toNat = D := Int.toNat_natCast D
  have hld : ldR K ⟨17, D, A, E, i⟩ f b = loadR K.ff K.Fb.length K.rr b.length L (atR ⟨17, D, A, E, i⟩ f) 1 := by rw [load_same hag]; unfold ldR; simp only [hs1]
  by_cases ht : (ldR K ⟨17, D, A, E, i⟩ f b).2 = 0
  · have e1 : loadR K.ff K.Fb.length K.rr b.length L (atR ⟨17, D, A, E, i⟩ f) 1 = ((ldR K ⟨17, D, A, E, i⟩ f b).1, 0) := by rw [← hld]; exact Prod.ext rfl ht
    have e2 : doR K ⟨17, D, A, E, i⟩ f b = ⟨0, upd f D (sextS ((ldR K ⟨17, D, A, E, i⟩ f b).1 : Nat) 8), b⟩ := by unfold doR; rw [if_neg (by simp), if_pos (by simp), if_neg (by rw [ht]; simp)]; simp only [extT_17, hc]
    rw [e2]
    exact (one_memo B X Bs D A E 17 i F s K b.length _ L v w (by decide) (by decide) (by omega) hBX hvB hm.lt (rmld_17 B X Bs D A E i F s K b.length f L v _ hD hA hE hm1 hr1 hbk hBX hvB hf hl _ (ld 17) e1)).mono fun e w' h => rone_of h rfl rfl rfl hag (by omega)
  · have e1 : loadR K.ff K.Fb.length K.rr b.length L (atR ⟨17, D, A, E, i⟩ f) 1 = ((ldR K ⟨17, D, A, E, i⟩ f b).1, (ldR K ⟨17, D, A, E, i⟩ f b).2) := by rw [← hld]
    have e2 : doR K ⟨17, D, A, E, i⟩ f b = ⟨(ldR K ⟨17, D, A, E, i⟩ f b).2, f, b⟩ := by unfold doR; rw [if_neg (by simp), if_pos (by simp), if_pos ht]
    rw [e2]
    exact (one_memt B X Bs D A E 17 i F s _ K b.length f L v w (by decide) (by decide) (by simpa using ht) (rmlt_17 B X Bs D A E i F s K b.length f L v _ hD hA hE hm1 hr1 hbk hBX hvB hf hl _ _ (by simpa using ht) e1)).mono fun e w' h => rone_of h rfl rfl (by rw [if_neg ht]) hag (by omega)

theorem rona_18 (B X Bs D A E : Nat) (i F s : Int) (K : Bk) (f : Nat → Int) (b : List Nat) (L : List (Nat × Nat)) (v : Value) (w : World) (hD : D < 64) (hA : A < 64) (hE : E < 64) (hsh : 14 ≤ (18 : Int) → (18 : Int) ≤ 16 → 0 ≤ i ∧ i ≤ 31) (hs : 0 ≤ s ∧ s ≤ 1000) (hm : MachR B (some ⟨X, 0, none⟩) F f s w) (hr : RefIs X Bs K.ff K.Fb.length K.rr b.length L v w) (hag : Agree K.ff K.rr K.Fb b L) (hbk : Banks K.ff K.Fb.length K.rr b.length) (hBX : B ≠ X) (hvB : v.ownBlock ≠ some B) (hf : WordsF f) (hl : L.length + 4 ≤ 1000000) (ld : ∀ op : Int, (ldR K ⟨op, D, A, E, i⟩ f b).1 < 4294967296) :
    Calls Try.prog 53 #[.pointer (some ⟨B, 0, none⟩), .agg #[.int .i64 18, .int .i64 D, .int .i64 A, .int .i64 E, .int .i32 i]] w (RonePost B X Bs F K b.length (doR K ⟨18, D, A, E, i⟩ f b) s L v w) := by
  have bl : Below w.heap.size w (w.alloc (.cells #[.int .i64 18, .int .i64 D, .int .i64 A, .int .i64 E, .int .i32 i] 29)) := (Below.refl _ _).alloc (Nat.le_refl _) _
  have hm1 : MachR B (some ⟨X, 0, none⟩) F f s (w.alloc (.cells #[.int .i64 18, .int .i64 D, .int .i64 A, .int .i64 E, .int .i32 i] 29)) := hm.grown bl
  have hr1 : RefIs X Bs K.ff K.Fb.length K.rr b.length L v (w.alloc (.cells #[.int .i64 18, .int .i64 D, .int .i64 A, .int .i64 E, .int .i32 i] 29)) := hr.out (Out.of_below (fun _ => False) bl) id (fun _ _ => id)
  have hs1 : sizeR 18 = 1 := rfl
  have hc : ((D : Nat) : Int).toNat = D := Int.toNat_natCast D
  have hld : ldR K ⟨18, D, A, E, i⟩ f b = loadR K.ff K.Fb.length K.rr b.length L (atR ⟨18, D, A, E, i⟩ f) 1 := by rw [load_same hag]; unfold ldR; simp only [hs1]
  by_cases ht : (ldR K ⟨18, D, A, E, i⟩ f b).2 = 0
  · have e1 : loadR K.ff K.Fb.length K.rr b.length L (atR ⟨18, D, A, E, i⟩ f) 1 = ((ldR K ⟨18, D, A, E, i⟩ f b).1, 0) := by rw [← hld]; exact Prod.ext rfl ht
    have e2 : doR K ⟨18, D, A, E, i⟩ f b = ⟨0, upd f D (((ldR K ⟨18, D, A, E, i⟩ f b).1 : Nat)), b⟩ := by unfold doR; rw [if_neg (by simp), if_pos (by simp), if_neg (by rw [ht]; simp)]; simp only [extT_18, hc]
    rw [e2]
    exact (one_memo B X Bs D A E 18 i F s K b.length _ L v w (by decide) (by decide) (by omega) hBX hvB hm.lt (rmld_18 B X Bs D A E i F s K b.length f L v _ hD hA hE hm1 hr1 hbk hBX hvB hf hl _ (ld 18) e1)).mono fun e w' h => rone_of h rfl rfl rfl hag (by omega)
  · have e1 : loadR K.ff K.Fb.length K.rr b.length L (atR ⟨18, D, A, E, i⟩ f) 1 = ((ldR K ⟨18, D, A, E, i⟩ f b).1, (ldR K ⟨18, D, A, E, i⟩ f b).2) := by rw [← hld]
    have e2 : doR K ⟨18, D, A, E, i⟩ f b = ⟨(ldR K ⟨18, D, A, E, i⟩ f b).2, f, b⟩ := by unfold doR; rw [if_neg (by simp), if_pos (by simp), if_pos ht]
    rw [e2]
    exact (one_memt B X Bs D A E 18 i F s _ K b.length f L v w (by decide) (by decide) (by simpa using ht) (rmlt_18 B X Bs D A E i F s K b.length f L v _ hD hA hE hm1 hr1 hbk hBX hvB hf hl _ _ (by simpa using ht) e1)).mono fun e w' h => rone_of h rfl rfl (by rw [if_neg ht]) hag (by omega)

theorem rona_19 (B X Bs D A E : Nat) (i F s : Int) (K : Bk) (f : Nat → Int) (b : List Nat) (L : List (Nat × Nat)) (v : Value) (w : World) (hD : D < 64) (hA : A < 64) (hE : E < 64) (hsh : 14 ≤ (19 : Int) → (19 : Int) ≤ 16 → 0 ≤ i ∧ i ≤ 31) (hs : 0 ≤ s ∧ s ≤ 1000) (hm : MachR B (some ⟨X, 0, none⟩) F f s w) (hr : RefIs X Bs K.ff K.Fb.length K.rr b.length L v w) (hag : Agree K.ff K.rr K.Fb b L) (hbk : Banks K.ff K.Fb.length K.rr b.length) (hBX : B ≠ X) (hvB : v.ownBlock ≠ some B) (hf : WordsF f) (hl : L.length + 4 ≤ 1000000) (ld : ∀ op : Int, (ldR K ⟨op, D, A, E, i⟩ f b).1 < 4294967296) :
    Calls Try.prog 53 #[.pointer (some ⟨B, 0, none⟩), .agg #[.int .i64 19, .int .i64 D, .int .i64 A, .int .i64 E, .int .i32 i]] w (RonePost B X Bs F K b.length (doR K ⟨19, D, A, E, i⟩ f b) s L v w) := by
  have bl : Below w.heap.size w (w.alloc (.cells #[.int .i64 19, .int .i64 D, .int .i64 A, .int .i64 E, .int .i32 i] 29)) := (Below.refl _ _).alloc (Nat.le_refl _) _
  have hm1 : MachR B (some ⟨X, 0, none⟩) F f s (w.alloc (.cells #[.int .i64 19, .int .i64 D, .int .i64 A, .int .i64 E, .int .i32 i] 29)) := hm.grown bl
  have hr1 : RefIs X Bs K.ff K.Fb.length K.rr b.length L v (w.alloc (.cells #[.int .i64 19, .int .i64 D, .int .i64 A, .int .i64 E, .int .i32 i] 29)) := hr.out (Out.of_below (fun _ => False) bl) id (fun _ _ => id)
  have hs1 : sizeR 19 = 2 := rfl
  have hc : ((D : Nat) : Int).toNat = D := Int.toNat_natCast D
  have hld : ldR K ⟨19, D, A, E, i⟩ f b = loadR K.ff K.Fb.length K.rr b.length L (atR ⟨19, D, A, E, i⟩ f) 2 := by rw [load_same hag]; unfold ldR; simp only [hs1]
  by_cases ht : (ldR K ⟨19, D, A, E, i⟩ f b).2 = 0
  · have e1 : loadR K.ff K.Fb.length K.rr b.length L (atR ⟨19, D, A, E, i⟩ f) 2 = ((ldR K ⟨19, D, A, E, i⟩ f b).1, 0) := by rw [← hld]; exact Prod.ext rfl ht
    have e2 : doR K ⟨19, D, A, E, i⟩ f b = ⟨0, upd f D (sextS ((ldR K ⟨19, D, A, E, i⟩ f b).1 : Nat) 16), b⟩ := by unfold doR; rw [if_neg (by simp), if_pos (by simp), if_neg (by rw [ht]; simp)]; simp only [extT_19, hc]
    rw [e2]
    exact (one_memo B X Bs D A E 19 i F s K b.length _ L v w (by decide) (by decide) (by omega) hBX hvB hm.lt (rmld_19 B X Bs D A E i F s K b.length f L v _ hD hA hE hm1 hr1 hbk hBX hvB hf hl _ (ld 19) e1)).mono fun e w' h => rone_of h rfl rfl rfl hag (by omega)
  · have e1 : loadR K.ff K.Fb.length K.rr b.length L (atR ⟨19, D, A, E, i⟩ f) 2 = ((ldR K ⟨19, D, A, E, i⟩ f b).1, (ldR K ⟨19, D, A, E, i⟩ f b).2) := by rw [← hld]
    have e2 : doR K ⟨19, D, A, E, i⟩ f b = ⟨(ldR K ⟨19, D, A, E, i⟩ f b).2, f, b⟩ := by unfold doR; rw [if_neg (by simp), if_pos (by simp), if_pos ht]
    rw [e2]
    exact (one_memt B X Bs D A E 19 i F s _ K b.length f L v w (by decide) (by decide) (by simpa using ht) (rmlt_19 B X Bs D A E i F s K b.length f L v _ hD hA hE hm1 hr1 hbk hBX hvB hf hl _ _ (by simpa using ht) e1)).mono fun e w' h => rone_of h rfl rfl (by rw [if_neg ht]) hag (by omega)

theorem rona_20 (B X Bs D A E : Nat) (i F s : Int) (K : Bk) (f : Nat → Int) (b : List Nat) (L : List (Nat × Nat)) (v : Value) (w : World) (hD : D < 64) (hA : A < 64) (hE : E < 64) (hsh : 14 ≤ (20 : Int) → (20 : Int) ≤ 16 → 0 ≤ i ∧ i ≤ 31) (hs : 0 ≤ s ∧ s ≤ 1000) (hm : MachR B (some ⟨X, 0, none⟩) F f s w) (hr : RefIs X Bs K.ff K.Fb.length K.rr b.length L v w) (hag : Agree K.ff K.rr K.Fb b L) (hbk : Banks K.ff K.Fb.length K.rr b.length) (hBX : B ≠ X) (hvB : v.ownBlock ≠ some B) (hf : WordsF f) (hl : L.length + 4 ≤ 1000000) (ld : ∀ op : Int, (ldR K ⟨op, D, A, E, i⟩ f b).1 < 4294967296) :
    Calls Try.prog 53 #[.pointer (some ⟨B, 0, none⟩), .agg #[.int .i64 20, .int .i64 D, .int .i64 A, .int .i64 E, .int .i32 i]] w (RonePost B X Bs F K b.length (doR K ⟨20, D, A, E, i⟩ f b) s L v w) := by
  have bl : Below w.heap.size w (w.alloc (.cells #[.int .i64 20, .int .i64 D, .int .i64 A, .int .i64 E, .int .i32 i] 29)) := (Below.refl _ _).alloc (Nat.le_refl _) _
  have hm1 : MachR B (some ⟨X, 0, none⟩) F f s (w.alloc (.cells #[.int .i64 20, .int .i64 D, .int .i64 A, .int .i64 E, .int .i32 i] 29)) := hm.grown bl
  have hr1 : RefIs X Bs K.ff K.Fb.length K.rr b.length L v (w.alloc (.cells #[.int .i64 20, .int .i64 D, .int .i64 A, .int .i64 E, .int .i32 i] 29)) := hr.out (Out.of_below (fun _ => False) bl) id (fun _ _ => id)
  have hs1 : sizeR 20 = 4 := rfl
  have hc : ((D : Nat) : Int).toNat = D := Int.toNat_natCast D
  have hld : ldR K ⟨20, D, A, E, i⟩ f b = loadR K.ff K.Fb.length K.rr b.length L (atR ⟨20, D, A, E, i⟩ f) 4 := by rw [load_same hag]; unfold ldR; simp only [hs1]
  by_cases ht : (ldR K ⟨20, D, A, E, i⟩ f b).2 = 0
  · have e1 : loadR K.ff K.Fb.length K.rr b.length L (atR ⟨20, D, A, E, i⟩ f) 4 = ((ldR K ⟨20, D, A, E, i⟩ f b).1, 0) := by rw [← hld]; exact Prod.ext rfl ht
    have e2 : doR K ⟨20, D, A, E, i⟩ f b = ⟨0, upd f D (((ldR K ⟨20, D, A, E, i⟩ f b).1 : Nat)), b⟩ := by unfold doR; rw [if_neg (by simp), if_pos (by simp), if_neg (by rw [ht]; simp)]; simp only [extT_20, hc]
    rw [e2]
    exact (one_memo B X Bs D A E 20 i F s K b.length _ L v w (by decide) (by decide) (by omega) hBX hvB hm.lt (rmld_20 B X Bs D A E i F s K b.length f L v _ hD hA hE hm1 hr1 hbk hBX hvB hf hl _ (ld 20) e1)).mono fun e w' h => rone_of h rfl rfl rfl hag (by omega)
  · have e1 : loadR K.ff K.Fb.length K.rr b.length L (atR ⟨20, D, A, E, i⟩ f) 4 = ((ldR K ⟨20, D, A, E, i⟩ f b).1, (ldR K ⟨20, D, A, E, i⟩ f b).2) := by rw [← hld]
    have e2 : doR K ⟨20, D, A, E, i⟩ f b = ⟨(ldR K ⟨20, D, A, E, i⟩ f b).2, f, b⟩ := by unfold doR; rw [if_neg (by simp), if_pos (by simp), if_pos ht]
    rw [e2]
    exact (one_memt B X Bs D A E 20 i F s _ K b.length f L v w (by decide) (by decide) (by simpa using ht) (rmlt_20 B X Bs D A E i F s K b.length f L v _ hD hA hE hm1 hr1 hbk hBX hvB hf hl _ _ (by simpa using ht) e1)).mono fun e w' h => rone_of h rfl rfl (by rw [if_neg ht]) hag (by omega)

theorem rona_21 (B X Bs D A E : Nat) (i F s : Int) (K : Bk) (f : Nat → Int) (b : List Nat) (L : List (Nat × Nat)) (v : Value) (w : World) (hD : D < 64) (hA : A < 64) (hE : E < 64) (hsh : 14 ≤ (21 : Int) → (21 : Int) ≤ 16 → 0 ≤ i ∧ i ≤ 31) (hs : 0 ≤ s ∧ s ≤ 1000) (hm : MachR B (some ⟨X, 0, none⟩) F f s w) (hr : RefIs X Bs K.ff K.Fb.length K.rr b.length L v w) (hag : Agree K.ff K.rr K.Fb b L) (hbk : Banks K.ff K.Fb.length K.rr b.length) (hBX : B ≠ X) (hvB : v.ownBlock ≠ some B) (hf : WordsF f) (hl : L.length + 4 ≤ 1000000) (ld : ∀ op : Int, (ldR K ⟨op, D, A, E, i⟩ f b).1 < 4294967296) :
    Calls Try.prog 53 #[.pointer (some ⟨B, 0, none⟩), .agg #[.int .i64 21, .int .i64 D, .int .i64 A, .int .i64 E, .int .i32 i]] w (RonePost B X Bs F K b.length (doR K ⟨21, D, A, E, i⟩ f b) s L v w) := by
  have bl : Below w.heap.size w (w.alloc (.cells #[.int .i64 21, .int .i64 D, .int .i64 A, .int .i64 E, .int .i32 i] 29)) := (Below.refl _ _).alloc (Nat.le_refl _) _
  have hm1 : MachR B (some ⟨X, 0, none⟩) F f s (w.alloc (.cells #[.int .i64 21, .int .i64 D, .int .i64 A, .int .i64 E, .int .i32 i] 29)) := hm.grown bl
  have hr1 : RefIs X Bs K.ff K.Fb.length K.rr b.length L v (w.alloc (.cells #[.int .i64 21, .int .i64 D, .int .i64 A, .int .i64 E, .int .i32 i] 29)) := hr.out (Out.of_below (fun _ => False) bl) id (fun _ _ => id)
  have hs1 : sizeR 21 = 1 := rfl
  have hc : ((E : Nat) : Int).toNat = E := Int.toNat_natCast E
  have hst : stR K ⟨21, D, A, E, i⟩ f b = storeS K.rr b.length (atR ⟨21, D, A, E, i⟩ f) 1 := by unfold stR; simp only [hs1]
  have e2 : doR K ⟨21, D, A, E, i⟩ f b = ⟨stR K ⟨21, D, A, E, i⟩ f b, f, ramS K.rr b.length b (atR ⟨21, D, A, E, i⟩ f) 1 (f E).toNat⟩ := by
    unfold doR
    rw [if_neg (by simp), if_neg (by simp), if_pos (by simp)]
    by_cases ht : stR K ⟨21, D, A, E, i⟩ f b = 0
    · rw [if_neg (by rw [ht]; simp), ht]; simp only [hs1, hc]
    · rw [if_pos ht]
      unfold ramS
      rw [if_neg (by rw [← hst]; exact ht)]
  rw [e2]
  have MC := rmem_21 B X Bs D A E i F s K b.length f L v _ hD hA hE hm1 hr1 hbk hBX hvB hf hl
  rw [← hst] at MC
  have AG := agree_store hag hbk.e (atR ⟨21, D, A, E, i⟩ f) 1 (f E).toNat
  by_cases ht : stR K ⟨21, D, A, E, i⟩ f b = 0
  · rw [ht] at MC
    exact (one_memo B X Bs D A E 21 i F s K b.length _ _ v w (by decide) (by decide) (by omega) hBX hvB hm.lt MC).mono fun e w' h => rone_of h ht rfl rfl AG (storeS_len _ _ _ _ _ _ (by decide))
  · exact (one_memt B X Bs D A E 21 i F s _ K b.length f _ v w (by decide) (by decide) (by simpa using ht) MC).mono fun e w' h => rone_of h rfl rfl (by rw [if_neg ht]) AG (storeS_len _ _ _ _ _ _ (by decide))

theorem rona_22 (B X Bs D A E : Nat) (i F s : Int) (K : Bk) (f : Nat → Int) (b : List Nat) (L : List (Nat × Nat)) (v : Value) (w : World) (hD : D < 64) (hA : A < 64) (hE : E < 64) (hsh : 14 ≤ (22 : Int) → (22 : Int) ≤ 16 → 0 ≤ i ∧ i ≤ 31) (hs : 0 ≤ s ∧ s ≤ 1000) (hm : MachR B (some ⟨X, 0, none⟩) F f s w) (hr : RefIs X Bs K.ff K.Fb.length K.rr b.length L v w) (hag : Agree K.ff K.rr K.Fb b L) (hbk : Banks K.ff K.Fb.length K.rr b.length) (hBX : B ≠ X) (hvB : v.ownBlock ≠ some B) (hf : WordsF f) (hl : L.length + 4 ≤ 1000000) (ld : ∀ op : Int, (ldR K ⟨op, D, A, E, i⟩ f b).1 < 4294967296) :
    Calls Try.prog 53 #[.pointer (some ⟨B, 0, none⟩), .agg #[.int .i64 22, .int .i64 D, .int .i64 A, .int .i64 E, .int .i32 i]] w (RonePost B X Bs F K b.length (doR K ⟨22, D, A, E, i⟩ f b) s L v w) := by
  have bl : Below w.heap.size w (w.alloc (.cells #[.int .i64 22, .int .i64 D, .int .i64 A, .int .i64 E, .int .i32 i] 29)) := (Below.refl _ _).alloc (Nat.le_refl _) _
  have hm1 : MachR B (some ⟨X, 0, none⟩) F f s (w.alloc (.cells #[.int .i64 22, .int .i64 D, .int .i64 A, .int .i64 E, .int .i32 i] 29)) := hm.grown bl
  have hr1 : RefIs X Bs K.ff K.Fb.length K.rr b.length L v (w.alloc (.cells #[.int .i64 22, .int .i64 D, .int .i64 A, .int .i64 E, .int .i32 i] 29)) := hr.out (Out.of_below (fun _ => False) bl) id (fun _ _ => id)
  have hs1 : sizeR 22 = 4 := rfl
  have hc : ((E : Nat) : Int).toNat = E := Int.toNat_natCast E
  have hst : stR K ⟨22, D, A, E, i⟩ f b = storeS K.rr b.length (atR ⟨22, D, A, E, i⟩ f) 4 := by unfold stR; simp only [hs1]
  have e2 : doR K ⟨22, D, A, E, i⟩ f b = ⟨stR K ⟨22, D, A, E, i⟩ f b, f, ramS K.rr b.length b (atR ⟨22, D, A, E, i⟩ f) 4 (f E).toNat⟩ := by
    unfold doR
    rw [if_neg (by simp), if_neg (by simp), if_pos (by simp)]
    by_cases ht : stR K ⟨22, D, A, E, i⟩ f b = 0
    · rw [if_neg (by rw [ht]; simp), ht]; simp only [hs1, hc]
    · rw [if_pos ht]
      unfold ramS
      rw [if_neg (by rw [← hst]; exact ht)]
  rw [e2]
  have MC := rmem_22 B X Bs D A E i F s K b.length f L v _ hD hA hE hm1 hr1 hbk hBX hvB hf hl
  rw [← hst] at MC
  have AG := agree_store hag hbk.e (atR ⟨22, D, A, E, i⟩ f) 4 (f E).toNat
  by_cases ht : stR K ⟨22, D, A, E, i⟩ f b = 0
  · rw [ht] at MC
    exact (one_memo B X Bs D A E 22 i F s K b.length _ _ v w (by decide) (by decide) (by omega) hBX hvB hm.lt MC).mono fun e w' h => rone_of h ht rfl rfl AG (storeS_len _ _ _ _ _ _ (by decide))
  · exact (one_memt B X Bs D A E 22 i F s _ K b.length f _ v w (by decide) (by decide) (by simpa using ht) MC).mono fun e w' h => rone_of h rfl rfl (by rw [if_neg ht]) AG (storeS_len _ _ _ _ _ _ (by decide))

theorem rone_any (B X Bs : Nat) (F s : Int) (K : Bk) (x : Q5) (f : Nat → Int) (b : List Nat) (L : List (Nat × Nat)) (v : Value) (w : World) (hx : OkR x) (h23 : x.o ≠ 23) (h24 : x.o ≠ 24) (hs : 0 ≤ s ∧ s ≤ 1000) (hm : MachR B (some ⟨X, 0, none⟩) F f s w) (hr : RefIs X Bs K.ff K.Fb.length K.rr b.length L v w) (hag : Agree K.ff K.rr K.Fb b L) (hbk : Banks K.ff K.Fb.length K.rr b.length) (hBX : B ≠ X) (hvB : v.ownBlock ≠ some B) (hf : WordsF f) (hF : ∀ x ∈ K.Fb, x < 256) (hb : ∀ x ∈ b, x < 256) (hl : L.length + 4 ≤ 1000000) :
    Calls Try.prog 53 #[.pointer (some ⟨B, 0, none⟩), .agg #[.int .i64 x.o, .int .i64 x.d, .int .i64 x.a, .int .i64 x.b, .int .i32 x.i]] w (RonePost B X Bs F K b.length (doR K x f b) s L v w) := by
  obtain ⟨o, d, a, c, i⟩ := x
  obtain ⟨ho, hd, ha, hbb, hi, hsh, hlo⟩ := hx
  simp only at ho hd ha hbb hi hsh hlo h24 h23
  obtain ⟨D, rfl⟩ : ∃ D : Nat, d = D := ⟨d.toNat, by omega⟩
  obtain ⟨A, rfl⟩ : ∃ A : Nat, a = A := ⟨a.toNat, by omega⟩
  obtain ⟨E, rfl⟩ : ∃ E : Nat, c = E := ⟨c.toNat, by omega⟩
  have ld : ∀ op : Int, (ldR K ⟨op, D, A, E, i⟩ f b).1 < 4294967296 := fun op => loadS_lt' hF hb _ _ (by rcases sizeR_is op with g | g | g <;> (show sizeR op ≤ 4; omega))
  have lo := ho.1
  refine case_upT lo (fun e => by subst e; exact rona_1 B X Bs D A E i F s K f b L v w (by omega) (by omega) (by omega) hsh hs hm hr hag hbk hBX hvB hf hl ld) (fun lo => ?_)
  refine case_upT lo (fun e => by subst e; exact rona_2 B X Bs D A E i F s K f b L v w (by omega) (by omega) (by omega) hsh hs hm hr hag hbk hBX hvB hf hl ld) (fun lo => ?_)
  refine case_upT lo (fun e => by subst e; exact rona_3 B X Bs D A E i F s K f b L v w (by omega) (by omega) (by omega) hsh hs hm hr hag hbk hBX hvB hf hl ld) (fun lo => ?_)
  refine case_upT lo (fun e => by subst e; exact rona_4 B X Bs D A E i F s K f b L v w (by omega) (by omega) (by omega) hsh hs hm hr hag hbk hBX hvB hf hl ld) (fun lo => ?_)
  refine case_upT lo (fun e => by subst e; exact rona_5 B X Bs D A E i F s K f b L v w (by omega) (by omega) (by omega) hsh hs hm hr hag hbk hBX hvB hf hl ld) (fun lo => ?_)
  refine case_upT lo (fun e => by subst e; exact rona_6 B X Bs D A E i F s K f b L v w (by omega) (by omega) (by omega) hsh hs hm hr hag hbk hBX hvB hf hl ld) (fun lo => ?_)
  refine case_upT lo (fun e => by subst e; exact rona_7 B X Bs D A E i F s K f b L v w (by omega) (by omega) (by omega) hsh hs hm hr hag hbk hBX hvB hf hl ld) (fun lo => ?_)
  refine case_upT lo (fun e => by subst e; exact rona_8 B X Bs D A E i F s K f b L v w (by omega) (by omega) (by omega) hsh hs hm hr hag hbk hBX hvB hf hl ld) (fun lo => ?_)
  refine case_upT lo (fun e => by subst e; exact rona_9 B X Bs D A E i F s K f b L v w (by omega) (by omega) (by omega) hsh hs hm hr hag hbk hBX hvB hf hl ld) (fun lo => ?_)
  refine case_upT lo (fun e => by subst e; exact rona_10 B X Bs D A E i F s K f b L v w (by omega) (by omega) (by omega) hsh hs hm hr hag hbk hBX hvB hf hl ld) (fun lo => ?_)
  refine case_upT lo (fun e => by subst e; exact rona_11 B X Bs D A E i F s K f b L v w (by omega) (by omega) (by omega) hsh hs hm hr hag hbk hBX hvB hf hl ld) (fun lo => ?_)
  refine case_upT lo (fun e => by subst e; exact rona_12 B X Bs D A E i F s K f b L v w (by omega) (by omega) (by omega) hsh hs hm hr hag hbk hBX hvB hf hl ld) (fun lo => ?_)
  refine case_upT lo (fun e => by subst e; exact rona_13 B X Bs D A E i F s K f b L v w (by omega) (by omega) (by omega) hsh hs hm hr hag hbk hBX hvB hf hl ld) (fun lo => ?_)
  refine case_upT lo (fun e => by subst e; exact rona_14 B X Bs D A E i F s K f b L v w (by omega) (by omega) (by omega) hsh hs hm hr hag hbk hBX hvB hf hl ld) (fun lo => ?_)
  refine case_upT lo (fun e => by subst e; exact rona_15 B X Bs D A E i F s K f b L v w (by omega) (by omega) (by omega) hsh hs hm hr hag hbk hBX hvB hf hl ld) (fun lo => ?_)
  refine case_upT lo (fun e => by subst e; exact rona_16 B X Bs D A E i F s K f b L v w (by omega) (by omega) (by omega) hsh hs hm hr hag hbk hBX hvB hf hl ld) (fun lo => ?_)
  refine case_upT lo (fun e => by subst e; exact rona_17 B X Bs D A E i F s K f b L v w (by omega) (by omega) (by omega) hsh hs hm hr hag hbk hBX hvB hf hl ld) (fun lo => ?_)
  refine case_upT lo (fun e => by subst e; exact rona_18 B X Bs D A E i F s K f b L v w (by omega) (by omega) (by omega) hsh hs hm hr hag hbk hBX hvB hf hl ld) (fun lo => ?_)
  refine case_upT lo (fun e => by subst e; exact rona_19 B X Bs D A E i F s K f b L v w (by omega) (by omega) (by omega) hsh hs hm hr hag hbk hBX hvB hf hl ld) (fun lo => ?_)
  refine case_upT lo (fun e => by subst e; exact rona_20 B X Bs D A E i F s K f b L v w (by omega) (by omega) (by omega) hsh hs hm hr hag hbk hBX hvB hf hl ld) (fun lo => ?_)
  refine case_upT lo (fun e => by subst e; exact rona_21 B X Bs D A E i F s K f b L v w (by omega) (by omega) (by omega) hsh hs hm hr hag hbk hBX hvB hf hl ld) (fun lo => ?_)
  refine case_upT lo (fun e => by subst e; exact rona_22 B X Bs D A E i F s K f b L v w (by omega) (by omega) (by omega) hsh hs hm hr hag hbk hBX hvB hf hl ld) (fun lo => ?_)
  exact absurd (show o = 23 ∨ o = 24 by omega) (by omega)
end Go.Proofs.Ytghclbeoabkgcaa

namespace Go.Proofs.Ytghclbeoabkgcaa
open Go Go.RowKit Pl
set_option linter.unusedVariables false

theorem BalC.noW {l : List Q5} {a b : Nat} (h : BalC l a b) : ∀ i x e, a ≤ i → i < b → l[i]? = some x → x.o = 23 → mate l i = some e → NoW l (i + 1) e x.d := by
  induction h with
  | nil => intro i x e h1 h2; omega
  | plain a b x hx h23 h24 _ ih =>
    intro i y e h1 h2 hy hyo hm
    by_cases c : i = a
    · subst c; rw [hx] at hy; cases hy; exact absurd hyo h23
    · exact ih i y e (by omega) h2 hy hyo hm
  | loop a e b x y hx h23 hm hnw _ hy h24 hb i1 i2 =>
    intro i z e' h1 h2 hz hzo hme
    by_cases c1 : i = a
    · subst c1; rw [hx] at hz; cases hz; rw [hm] at hme; cases hme; exact hnw
    by_cases c2 : i < e
    · exact i1 i z e' (by omega) c2 hz hzo hme
    by_cases c3 : i = e
    · subst c3; rw [hy] at hz; cases hz; omega
    · exact i2 i z e' (by omega) h2 hz hzo hme
theorem Prog1.noW {l : List Q5} {E : List Int} (h : Prog1 l E) {i e : Nat} {x : Q5} (hx : l[i]? = some x) (h23 : x.o = 23) (hm : mate l i = some e) : NoW l (i + 1) e x.d := h.bal.noW i x e (Nat.zero_le _) (at_lt hx) hx h23 hm
/-- a loop's counter that is open at a place -/
def OpenC (l : List Q5) (p : Nat) (c : Nat) : Prop := ∃ i x e, l[i]? = some x ∧ x.o = 23 ∧ mate l i = some e ∧ i < p ∧ p ≤ e ∧ x.d = (c : Int)
def Eqv (l : List Q5) (s s' : LS) : Prop := s.p = s'.p ∧ ∀ c, OpenC l s.p c → s.f c = s'.f c
theorem writes_of {x : Q5} (h : canS x = true) (ho : x.o ≤ 20 ∨ x.o = 23) : writesS x = x.d := by
  have h1 := can_op h
  unfold writesS hasD
  rw [h, if_pos]
  simp only [Bool.true_and, decide_eq_true_eq]
  omega
theorem doR_other {K : Bk} {x : Q5} {f : Nat → Int} {b : List Nat} {c : Nat} (h : canS x = true) (hw : writesS x ≠ -1 → writesS x ≠ (c : Int)) : (doR K x f b).f c = f c := by
  have hd := can_d h
  have up : ∀ v, (x.o ≤ 20 ∨ x.o = 23) → upd f x.d.toNat v c = f c := fun v ho => by
    have e := writes_of h ho
    have := hw (by rw [e]; omega)
    unfold upd
    rw [if_neg]
    intro hc
    rw [e] at this
    omega
  unfold doR
  split
  · exact up _ (by omega)
  split
  · split
    · rfl
    · exact up _ (by omega)
  split
  · split <;> rfl
  · rfl
theorem step24 {K : Bk} {l : List Q5} {E : List Int} (hp : Prog1 l E) {s : LS} {x : Q5} (hx : l[s.p]? = some x) (h24 : x.o = 24) : ∃ (i D : Nat) (y : Q5), l[i]? = some y ∧ y.o = 23 ∧ mate l i = some s.p ∧ y.d = (D : Int) ∧ D < 64 ∧
    stepL K l E s = (0, ⟨if (s.f D - 1) % 4294967296 = 0 then s.p + 1 else i + 1, upd s.f D ((s.f D - 1) % 4294967296), s.b⟩) := by
  obtain ⟨_, g2, g3⟩ := ends_facts hp.E
  obtain ⟨i, y, hy, hyo, hmt⟩ := g3 s.p x hx h24
  obtain ⟨k, hk, hE1, hE2⟩ := g2 i y hy hyo
  rw [hmt] at hk
  have hk' : s.p = k := by injection hk
  rw [← hk'] at hE2
  have oky := (hp.ok y (List.mem_of_getElem? hy)).d
  obtain ⟨D, hD⟩ : ∃ D : Nat, y.d = D := ⟨y.d.toNat, by omega⟩
  have e1 : bgL E s.p = i := by unfold bgL; rw [List.getD, hE2]; rfl
  have e2 : cnL l E s.p = D := by unfold cnL dOf; rw [e1, hy]; simp [hD]
  refine ⟨i, D, y, hy, hyo, hmt, hD, by omega, ?_⟩
  rw [stepL_at hx]
  unfold stepX
  rw [if_pos h24, e1, e2]
theorem step_plain {K : Bk} {l : List Q5} {E : List Int} {s : LS} {x : Q5} (hx : l[s.p]? = some x) (h24 : x.o ≠ 24) : stepL K l E s = if (doR K x s.f s.b).t ≠ 0 then ((doR K x s.f s.b).t, s) else (0, ⟨s.p + 1, (doR K x s.f s.b).f, (doR K x s.f s.b).b⟩) := by
  rw [stepL_at hx]
  unfold stepX
  rw [if_neg h24]
theorem eqv_step {K : Bk} {l : List Q5} {E : List Int} (hp : Prog1 l E) {s s' : LS} (h : Eqv l s s') (hl : s.p < l.length) (h1 : (stepL K l E s).1 = 0) (h2 : (stepL K l E s').1 = 0) : Eqv l (stepL K l E s).2 (stepL K l E s').2 := by
  obtain ⟨hpp, hf⟩ := h
  obtain ⟨x, hx⟩ := lookup hl
  have hx' : l[s'.p]? = some x := by rw [← hpp]; exact hx
  have hcx := hp.cn x (List.mem_of_getElem? hx)
  by_cases h24 : x.o = 24
  · obtain ⟨i, D, y, hy, hyo, hm, hD, hD64, e1⟩ := step24 (K := K) hp hx h24
    obtain ⟨i', D', y', hy', hyo', hm', hD', _, e2⟩ := step24 (K := K) hp hx' h24
    have hi : i = i' := by
      obtain ⟨_, g2, _⟩ := ends_facts hp.E
      obtain ⟨k, hk, _, q1⟩ := g2 i y hy hyo
      obtain ⟨k', hk', _, q2⟩ := g2 i' y' hy' hyo'
      rw [hm] at hk
      rw [hm'] at hk'
      have a1 : s.p = k := by injection hk
      have a2 : s'.p = k' := by injection hk'
      rw [← a1] at q1
      rw [← a2, ← hpp, q1] at q2
      have := Option.some.inj q2
      omega
    subst hi
    rw [hy] at hy'
    cases hy'
    have hDD : D = D' := by rw [hD] at hD'; omega
    subst hDD
    have hip := (mate_ge hm).1
    have hv : s.f D = s'.f D := hf D ⟨i, y, s.p, hy, hyo, hm, hip, Nat.le_refl _, hD⟩
    rw [e1, e2, ← hpp, ← hv]
    refine ⟨rfl, ?_⟩
    intro c hc
    show upd s.f D _ c = upd s'.f D _ c
    unfold upd
    by_cases hcD : c = D
    · rw [if_pos hcD, if_pos hcD]
    · rw [if_neg hcD, if_neg hcD]
      obtain ⟨j, z, e, hz, hzo, hme, hj1, hj2, hzd⟩ := hc
      simp only at hj1 hj2
      refine hf c ⟨j, z, e, hz, hzo, hme, ?_, ?_, hzd⟩
      · split at hj1
        · by_cases q : j = s.p
          · subst q; rw [hx] at hz; cases hz; omega
          · omega
        · omega
      · split at hj2
        · omega
        · rename_i hne
          rw [if_neg hne] at hj1
          by_cases q : j = i
          · subst q; rw [hy] at hz; cases hz; rw [hD] at hzd; omega
          · obtain ⟨k, hk, hkb⟩ := (bal_mate hme).inner i y (by omega) (by omega) hy hyo
            rw [hm] at hk
            have : s.p = k := by injection hk
            omega
  · rw [step_plain hx h24] at h1 ⊢
    rw [step_plain hx' h24] at h2 ⊢
    have t1 : (doR K x s.f s.b).t = 0 := by
      by_cases q : (doR K x s.f s.b).t = 0
      · exact q
      · rw [if_pos q] at h1; exact absurd h1 q
    have t2 : (doR K x s'.f s'.b).t = 0 := by
      by_cases q : (doR K x s'.f s'.b).t = 0
      · exact q
      · rw [if_pos q] at h2; exact absurd h2 q
    rw [if_neg (by rw [t1]; simp), if_neg (by rw [t2]; simp)]
    refine ⟨by show s.p + 1 = s'.p + 1; omega, ?_⟩
    intro c hc
    obtain ⟨j, z, e, hz, hzo, hme, hj1, hj2, hzd⟩ := hc
    simp only at hj1 hj2
    show (doR K x s.f s.b).f c = (doR K x s'.f s'.b).f c
    by_cases q : j = s.p
    · subst q
      rw [hx] at hz
      cases hz
      have e1 : ∀ (f : Nat → Int) (b : List Nat), (doR K x f b).f c = x.i % 4294967296 := fun f b => by
        unfold doR
        rw [if_pos (.inr hzo)]
        show upd f x.d.toNat (valR x f) c = _
        unfold upd valR
        rw [if_pos (by omega), if_pos (.inr hzo)]
      rw [e1, e1]
    · have hnw := hp.noW hz hzo hme s.p x (by omega) (by omega) hx h24
      rw [doR_other hcx (by rw [← hzd]; exact hnw), doR_other hcx (by rw [← hzd]; exact hnw)]
      exact hf c ⟨j, z, e, hz, hzo, hme, by omega, by omega, hzd⟩
theorem many {K : Bk} {l : List Q5} {E : List Int} (hp : Prog1 l E) : ∀ (k : Nat) (s s' : LS), Eqv l s s' → (runL K l E k s).t = 0 → (runL K l E k s').t = 0 → (runL K l E k s).n = (runL K l E k s').n := by
  intro k
  induction k with
  | zero => intro s s' _ _ _; rfl
  | succ k ih =>
    intro s s' h h1 h2
    rw [runL_succ] at h1 h2 ⊢
    rw [runL_succ]
    have hpp := h.1
    by_cases hl : l.length ≤ s.p
    · rw [if_pos hl, if_pos (by omega)]
    · have hl' : ¬ l.length ≤ s'.p := by omega
      rw [if_neg hl] at h1 ⊢
      rw [if_neg hl'] at h2 ⊢
      by_cases t1 : (stepL K l E s).1 = 0
      · by_cases t2 : (stepL K l E s').1 = 0
        · rw [if_neg (by rw [t1]; simp)] at h1 ⊢
          rw [if_neg (by rw [t2]; simp)] at h2 ⊢
          show _ + 1 = _ + 1
          rw [ih _ _ (eqv_step hp h (by omega) t1 t2) h1 h2]
        · rw [if_pos t2] at h2; exact absurd h2 t2
      · rw [if_pos t1] at h1; exact absurd h1 t1
theorem ite_bdW {c : Prop} [Decidable c] {a b : Int} (h1 : c → 0 ≤ a ∧ a < 4294967296) (h2 : ¬ c → 0 ≤ b ∧ b < 4294967296) : 0 ≤ (if c then a else b) ∧ (if c then a else b) < 4294967296 := by
  split
  · exact h1 (by assumption)
  · exact h2 (by assumption)
theorem sextS_bdW (x n : Int) (h0 : 0 ≤ x) (h1 : x < 4294967296) : 0 ≤ sextS x n ∧ sextS x n < 4294967296 := by
  unfold sextS; repeat' (apply ite_bdW <;> intro _)
  all_goals omega
theorem words_doRV {K : Bk} {x : Q5} {f : Nat → Int} {b : List Nat} (hf : WordsF f) (hF : ∀ x ∈ K.Fb, x < 256) (hR : ∀ x ∈ b, x < 256) : WordsF (doR K x f b).f := by
  unfold doR
  split
  · refine wordsF_upd hf _ ?_
    unfold valR
    split
    · exact ⟨Int.emod_nonneg _ (by omega), Int.emod_lt_of_pos _ (by omega)⟩
    split
    · exact hf _
    · refine aluS_bd (hf _).1 (hf _).2 ?_ ?_
      · split
        · exact Int.emod_nonneg _ (by omega)
        · exact (hf _).1
      · split
        · exact Int.emod_lt_of_pos _ (by omega)
        · exact (hf _).2
  split
  · split
    · exact hf
    · refine wordsF_upd hf _ ?_
      have h : (ldR K x f b).1 < 4294967296 := loadS_lt' hF hR _ _ (by rcases sizeR_is x.o with g | g | g <;> omega)
      unfold extR
      split
      · omega
      · exact sextS_bdW _ _ (by omega) (by omega)
  split
  · split <;> exact hf
  · exact hf
theorem len_doRV {K : Bk} {x : Q5} {f : Nat → Int} {b : List Nat} : (doR K x f b).b.length = b.length := by
  unfold doR
  split
  · rfl
  split
  · split <;> rfl
  split
  · split
    · rfl
    · exact ramS_length _ _ _ _ _
  · rfl
theorem trap_doRV {K : Bk} {x : Q5} {f : Nat → Int} {b : List Nat} (h : (doR K x f b).t ≠ 0) : (doR K x f b).f = f ∧ (doR K x f b).b = b := by
  unfold doR at h ⊢
  split
  · rename_i g; rw [if_pos g] at h; exact absurd rfl h
  · rename_i g
    rw [if_neg g] at h
    split
    · rename_i g2
      rw [if_pos g2] at h
      split
      · exact ⟨rfl, rfl⟩
      · rename_i g3; rw [if_neg g3] at h; exact absurd rfl h
    · rename_i g2
      rw [if_neg g2] at h
      split
      · rename_i g3
        rw [if_pos g3] at h
        split
        · exact ⟨rfl, rfl⟩
        · rename_i g4; rw [if_neg g4] at h; exact absurd rfl h
      · exact ⟨rfl, rfl⟩
end Go.Proofs.Ytghclbeoabkgcaa
