/- Contract of lirrun's do at any step that is no loop's end, over a memory. -/
import Derived.Test.YtghclbeoabkgcaaLrE
import Derived.Test.YtghclbeoabkgcaaLrDb
import Derived.Test.YtghclbeoabkgcaaLrDc
import Derived.Test.YtghclbeoabkgcaaLrDd
namespace Go.Proofs.Ytghclbeoabkgcaa
open Go Go.RowKit Pl
set_option linter.unusedVariables false

theorem ld_of {B M F R : Nat} {K : Bk} {f' : Nat → Int} {b : List Nat} {W : World} {e : Ending} {w' : World} (hmem : MemIs M F R K.ff K.rr K.Fb b W) (hB : B ≠ M ∧ B ≠ F ∧ B ≠ R) (h : e = .returned (.int .i64 0) ∧ MachV B (some ⟨M, 0, none⟩) f' w' ∧ W.grownBy w' (some B)) : LdPost B M F R K ⟨0, f', b⟩ W e w' := by
  obtain ⟨h1, h2, h3⟩ := h
  have ho : Out (· = B) W w' := Out.of_grown h3 (fun j h => by cases h; rfl)
  exact ⟨h1, h2, hmem.out ho (fun e => hB.1 e.symm) (fun e => hB.2.1 e.symm) (fun e => hB.2.2 e.symm), ho.mono (fun j h => .inl h)⟩
theorem shR {i : Int} (h : 0 ≤ i ∧ i ≤ 31) : (i % 4294967296 % 32).toNat = i.toNat := by
  rw [show i % 4294967296 % 32 = i by omega]
theorem doR_plain {K : Bk} {x : Q5} {f : Nat → Int} {b : List Nat} {v : Int} (h : x.o ≤ 16 ∨ x.o = 23) (hv : valR x f = v) : doR K x f b = ⟨0, upd f x.d.toNat v, b⟩ := by
  unfold doR
  rw [if_pos h, hv]
theorem extR_19 (n : Nat) : extR 19 n = sextS (n : Int) 16 := by
  have h : (8 * ((sizeR 19 : Nat) : Int)) = 16 := by decide
  unfold extR
  rw [if_neg (by decide), h]
theorem extR_20 (n : Nat) : extR 20 n = sextS (n : Int) 32 := by
  have h : (8 * ((sizeR 20 : Nat) : Int)) = 32 := by decide
  unfold extR
  rw [if_neg (by decide), h]
theorem case_up {o k : Int} {P : Prop} (h : k ≤ o) (h1 : o = k → P) (h2 : k + 1 ≤ o → P) : P := by
  by_cases e : o = k
  · exact h1 e
  · exact h2 (by omega)
theorem doa_1 (B M F R D A E : Nat) (i : Int) (K : Bk) (f : Nat → Int) (b : List Nat) (W : World) (hd : D < 64) (ha : A < 64) (hbb : E < 64) (hsh : 14 ≤ (1 : Int) → (1 : Int) ≤ 16 → 0 ≤ i ∧ i ≤ 31) (hm : MachV B (some ⟨M, 0, none⟩) f W) (hmem : MemIs M F R K.ff K.rr K.Fb b W) (hb : Banks K.ff K.Fb.length K.rr b.length) (hB : B ≠ M ∧ B ≠ F ∧ B ≠ R) (hf : WordsF f) (ld : ∀ op : Int, (ldR K ⟨op, D, A, E, i⟩ f b).1 < 4294967296) :
    Calls Try.prog 42 #[.pointer (some ⟨B, 0, none⟩), .agg #[.int .i64 1, .int .i64 D, .int .i64 A, .int .i64 E, .int .i32 i]] W (LdPost B M F R K (doR K ⟨1, D, A, E, i⟩ f b) W) := by
  rw [doR_plain (.inl (show (1 : Int) ≤ 16 by decide)) rfl]; exact (do_1 B D A E _ i f W (by omega) (by omega) (by omega) hm hf).mono fun e w' h => ld_of hmem hB h
theorem doa_2 (B M F R D A E : Nat) (i : Int) (K : Bk) (f : Nat → Int) (b : List Nat) (W : World) (hd : D < 64) (ha : A < 64) (hbb : E < 64) (hsh : 14 ≤ (2 : Int) → (2 : Int) ≤ 16 → 0 ≤ i ∧ i ≤ 31) (hm : MachV B (some ⟨M, 0, none⟩) f W) (hmem : MemIs M F R K.ff K.rr K.Fb b W) (hb : Banks K.ff K.Fb.length K.rr b.length) (hB : B ≠ M ∧ B ≠ F ∧ B ≠ R) (hf : WordsF f) (ld : ∀ op : Int, (ldR K ⟨op, D, A, E, i⟩ f b).1 < 4294967296) :
    Calls Try.prog 42 #[.pointer (some ⟨B, 0, none⟩), .agg #[.int .i64 2, .int .i64 D, .int .i64 A, .int .i64 E, .int .i32 i]] W (LdPost B M F R K (doR K ⟨2, D, A, E, i⟩ f b) W) := by
  rw [doR_plain (.inl (show (2 : Int) ≤ 16 by decide)) rfl]; exact (do_2 B D A E _ i f W (by omega) (by omega) (by omega) hm hf).mono fun e w' h => ld_of hmem hB h
theorem doa_3 (B M F R D A E : Nat) (i : Int) (K : Bk) (f : Nat → Int) (b : List Nat) (W : World) (hd : D < 64) (ha : A < 64) (hbb : E < 64) (hsh : 14 ≤ (3 : Int) → (3 : Int) ≤ 16 → 0 ≤ i ∧ i ≤ 31) (hm : MachV B (some ⟨M, 0, none⟩) f W) (hmem : MemIs M F R K.ff K.rr K.Fb b W) (hb : Banks K.ff K.Fb.length K.rr b.length) (hB : B ≠ M ∧ B ≠ F ∧ B ≠ R) (hf : WordsF f) (ld : ∀ op : Int, (ldR K ⟨op, D, A, E, i⟩ f b).1 < 4294967296) :
    Calls Try.prog 42 #[.pointer (some ⟨B, 0, none⟩), .agg #[.int .i64 3, .int .i64 D, .int .i64 A, .int .i64 E, .int .i32 i]] W (LdPost B M F R K (doR K ⟨3, D, A, E, i⟩ f b) W) := by
  rw [doR_plain (.inl (show (3 : Int) ≤ 16 by decide)) rfl]; exact (do_3 B D A E _ i f W (by omega) (by omega) (by omega) hm hf).mono fun e w' h => ld_of hmem hB h
theorem doa_4 (B M F R D A E : Nat) (i : Int) (K : Bk) (f : Nat → Int) (b : List Nat) (W : World) (hd : D < 64) (ha : A < 64) (hbb : E < 64) (hsh : 14 ≤ (4 : Int) → (4 : Int) ≤ 16 → 0 ≤ i ∧ i ≤ 31) (hm : MachV B (some ⟨M, 0, none⟩) f W) (hmem : MemIs M F R K.ff K.rr K.Fb b W) (hb : Banks K.ff K.Fb.length K.rr b.length) (hB : B ≠ M ∧ B ≠ F ∧ B ≠ R) (hf : WordsF f) (ld : ∀ op : Int, (ldR K ⟨op, D, A, E, i⟩ f b).1 < 4294967296) :
    Calls Try.prog 42 #[.pointer (some ⟨B, 0, none⟩), .agg #[.int .i64 4, .int .i64 D, .int .i64 A, .int .i64 E, .int .i32 i]] W (LdPost B M F R K (doR K ⟨4, D, A, E, i⟩ f b) W) := by
  rw [doR_plain (.inl (show (4 : Int) ≤ 16 by decide)) rfl]; exact (do_4 B D A E _ i f W (by omega) (by omega) (by omega) hm hf).mono fun e w' h => ld_of hmem hB h
theorem doa_5 (B M F R D A E : Nat) (i : Int) (K : Bk) (f : Nat → Int) (b : List Nat) (W : World) (hd : D < 64) (ha : A < 64) (hbb : E < 64) (hsh : 14 ≤ (5 : Int) → (5 : Int) ≤ 16 → 0 ≤ i ∧ i ≤ 31) (hm : MachV B (some ⟨M, 0, none⟩) f W) (hmem : MemIs M F R K.ff K.rr K.Fb b W) (hb : Banks K.ff K.Fb.length K.rr b.length) (hB : B ≠ M ∧ B ≠ F ∧ B ≠ R) (hf : WordsF f) (ld : ∀ op : Int, (ldR K ⟨op, D, A, E, i⟩ f b).1 < 4294967296) :
    Calls Try.prog 42 #[.pointer (some ⟨B, 0, none⟩), .agg #[.int .i64 5, .int .i64 D, .int .i64 A, .int .i64 E, .int .i32 i]] W (LdPost B M F R K (doR K ⟨5, D, A, E, i⟩ f b) W) := by
  rw [doR_plain (.inl (show (5 : Int) ≤ 16 by decide)) rfl]; exact (do_5 B D A E _ i f W (by omega) (by omega) (by omega) hm hf).mono fun e w' h => ld_of hmem hB h
theorem doa_6 (B M F R D A E : Nat) (i : Int) (K : Bk) (f : Nat → Int) (b : List Nat) (W : World) (hd : D < 64) (ha : A < 64) (hbb : E < 64) (hsh : 14 ≤ (6 : Int) → (6 : Int) ≤ 16 → 0 ≤ i ∧ i ≤ 31) (hm : MachV B (some ⟨M, 0, none⟩) f W) (hmem : MemIs M F R K.ff K.rr K.Fb b W) (hb : Banks K.ff K.Fb.length K.rr b.length) (hB : B ≠ M ∧ B ≠ F ∧ B ≠ R) (hf : WordsF f) (ld : ∀ op : Int, (ldR K ⟨op, D, A, E, i⟩ f b).1 < 4294967296) :
    Calls Try.prog 42 #[.pointer (some ⟨B, 0, none⟩), .agg #[.int .i64 6, .int .i64 D, .int .i64 A, .int .i64 E, .int .i32 i]] W (LdPost B M F R K (doR K ⟨6, D, A, E, i⟩ f b) W) := by
  rw [doR_plain (.inl (show (6 : Int) ≤ 16 by decide)) rfl]; exact (do_6 B D A E _ i f W (by omega) (by omega) (by omega) hm hf).mono fun e w' h => ld_of hmem hB h
theorem doa_7 (B M F R D A E : Nat) (i : Int) (K : Bk) (f : Nat → Int) (b : List Nat) (W : World) (hd : D < 64) (ha : A < 64) (hbb : E < 64) (hsh : 14 ≤ (7 : Int) → (7 : Int) ≤ 16 → 0 ≤ i ∧ i ≤ 31) (hm : MachV B (some ⟨M, 0, none⟩) f W) (hmem : MemIs M F R K.ff K.rr K.Fb b W) (hb : Banks K.ff K.Fb.length K.rr b.length) (hB : B ≠ M ∧ B ≠ F ∧ B ≠ R) (hf : WordsF f) (ld : ∀ op : Int, (ldR K ⟨op, D, A, E, i⟩ f b).1 < 4294967296) :
    Calls Try.prog 42 #[.pointer (some ⟨B, 0, none⟩), .agg #[.int .i64 7, .int .i64 D, .int .i64 A, .int .i64 E, .int .i32 i]] W (LdPost B M F R K (doR K ⟨7, D, A, E, i⟩ f b) W) := by
  rw [doR_plain (.inl (show (7 : Int) ≤ 16 by decide)) rfl]; exact (do_7 B D A E _ i f W (by omega) (by omega) (by omega) hm hf).mono fun e w' h => ld_of hmem hB h
theorem doa_8 (B M F R D A E : Nat) (i : Int) (K : Bk) (f : Nat → Int) (b : List Nat) (W : World) (hd : D < 64) (ha : A < 64) (hbb : E < 64) (hsh : 14 ≤ (8 : Int) → (8 : Int) ≤ 16 → 0 ≤ i ∧ i ≤ 31) (hm : MachV B (some ⟨M, 0, none⟩) f W) (hmem : MemIs M F R K.ff K.rr K.Fb b W) (hb : Banks K.ff K.Fb.length K.rr b.length) (hB : B ≠ M ∧ B ≠ F ∧ B ≠ R) (hf : WordsF f) (ld : ∀ op : Int, (ldR K ⟨op, D, A, E, i⟩ f b).1 < 4294967296) :
    Calls Try.prog 42 #[.pointer (some ⟨B, 0, none⟩), .agg #[.int .i64 8, .int .i64 D, .int .i64 A, .int .i64 E, .int .i32 i]] W (LdPost B M F R K (doR K ⟨8, D, A, E, i⟩ f b) W) := by
  rw [doR_plain (.inl (show (8 : Int) ≤ 16 by decide)) rfl]; exact (do_8 B D A E _ i f W (by omega) (by omega) (by omega) hm hf).mono fun e w' h => ld_of hmem hB h
theorem doa_9 (B M F R D A E : Nat) (i : Int) (K : Bk) (f : Nat → Int) (b : List Nat) (W : World) (hd : D < 64) (ha : A < 64) (hbb : E < 64) (hsh : 14 ≤ (9 : Int) → (9 : Int) ≤ 16 → 0 ≤ i ∧ i ≤ 31) (hm : MachV B (some ⟨M, 0, none⟩) f W) (hmem : MemIs M F R K.ff K.rr K.Fb b W) (hb : Banks K.ff K.Fb.length K.rr b.length) (hB : B ≠ M ∧ B ≠ F ∧ B ≠ R) (hf : WordsF f) (ld : ∀ op : Int, (ldR K ⟨op, D, A, E, i⟩ f b).1 < 4294967296) :
    Calls Try.prog 42 #[.pointer (some ⟨B, 0, none⟩), .agg #[.int .i64 9, .int .i64 D, .int .i64 A, .int .i64 E, .int .i32 i]] W (LdPost B M F R K (doR K ⟨9, D, A, E, i⟩ f b) W) := by
  rw [doR_plain (.inl (show (9 : Int) ≤ 16 by decide)) rfl]; exact (do_9 B D A E _ i f W (by omega) (by omega) (by omega) hm hf).mono fun e w' h => ld_of hmem hB h
theorem doa_10 (B M F R D A E : Nat) (i : Int) (K : Bk) (f : Nat → Int) (b : List Nat) (W : World) (hd : D < 64) (ha : A < 64) (hbb : E < 64) (hsh : 14 ≤ (10 : Int) → (10 : Int) ≤ 16 → 0 ≤ i ∧ i ≤ 31) (hm : MachV B (some ⟨M, 0, none⟩) f W) (hmem : MemIs M F R K.ff K.rr K.Fb b W) (hb : Banks K.ff K.Fb.length K.rr b.length) (hB : B ≠ M ∧ B ≠ F ∧ B ≠ R) (hf : WordsF f) (ld : ∀ op : Int, (ldR K ⟨op, D, A, E, i⟩ f b).1 < 4294967296) :
    Calls Try.prog 42 #[.pointer (some ⟨B, 0, none⟩), .agg #[.int .i64 10, .int .i64 D, .int .i64 A, .int .i64 E, .int .i32 i]] W (LdPost B M F R K (doR K ⟨10, D, A, E, i⟩ f b) W) := by
  rw [doR_plain (.inl (show (10 : Int) ≤ 16 by decide)) rfl]; exact (do_10 B D A E _ i f W (by omega) (by omega) (by omega) hm hf).mono fun e w' h => ld_of hmem hB h
theorem doa_11 (B M F R D A E : Nat) (i : Int) (K : Bk) (f : Nat → Int) (b : List Nat) (W : World) (hd : D < 64) (ha : A < 64) (hbb : E < 64) (hsh : 14 ≤ (11 : Int) → (11 : Int) ≤ 16 → 0 ≤ i ∧ i ≤ 31) (hm : MachV B (some ⟨M, 0, none⟩) f W) (hmem : MemIs M F R K.ff K.rr K.Fb b W) (hb : Banks K.ff K.Fb.length K.rr b.length) (hB : B ≠ M ∧ B ≠ F ∧ B ≠ R) (hf : WordsF f) (ld : ∀ op : Int, (ldR K ⟨op, D, A, E, i⟩ f b).1 < 4294967296) :
    Calls Try.prog 42 #[.pointer (some ⟨B, 0, none⟩), .agg #[.int .i64 11, .int .i64 D, .int .i64 A, .int .i64 E, .int .i32 i]] W (LdPost B M F R K (doR K ⟨11, D, A, E, i⟩ f b) W) := by
  rw [doR_plain (.inl (show (11 : Int) ≤ 16 by decide)) rfl]; exact (do_11 B D A E _ i f W (by omega) (by omega) (by omega) hm hf).mono fun e w' h => ld_of hmem hB h
theorem doa_12 (B M F R D A E : Nat) (i : Int) (K : Bk) (f : Nat → Int) (b : List Nat) (W : World) (hd : D < 64) (ha : A < 64) (hbb : E < 64) (hsh : 14 ≤ (12 : Int) → (12 : Int) ≤ 16 → 0 ≤ i ∧ i ≤ 31) (hm : MachV B (some ⟨M, 0, none⟩) f W) (hmem : MemIs M F R K.ff K.rr K.Fb b W) (hb : Banks K.ff K.Fb.length K.rr b.length) (hB : B ≠ M ∧ B ≠ F ∧ B ≠ R) (hf : WordsF f) (ld : ∀ op : Int, (ldR K ⟨op, D, A, E, i⟩ f b).1 < 4294967296) :
    Calls Try.prog 42 #[.pointer (some ⟨B, 0, none⟩), .agg #[.int .i64 12, .int .i64 D, .int .i64 A, .int .i64 E, .int .i32 i]] W (LdPost B M F R K (doR K ⟨12, D, A, E, i⟩ f b) W) := by
  rw [doR_plain (.inl (show (12 : Int) ≤ 16 by decide)) rfl]; exact (do_12 B D A E _ i f W (by omega) (by omega) (by omega) hm hf).mono fun e w' h => ld_of hmem hB h
theorem doa_13 (B M F R D A E : Nat) (i : Int) (K : Bk) (f : Nat → Int) (b : List Nat) (W : World) (hd : D < 64) (ha : A < 64) (hbb : E < 64) (hsh : 14 ≤ (13 : Int) → (13 : Int) ≤ 16 → 0 ≤ i ∧ i ≤ 31) (hm : MachV B (some ⟨M, 0, none⟩) f W) (hmem : MemIs M F R K.ff K.rr K.Fb b W) (hb : Banks K.ff K.Fb.length K.rr b.length) (hB : B ≠ M ∧ B ≠ F ∧ B ≠ R) (hf : WordsF f) (ld : ∀ op : Int, (ldR K ⟨op, D, A, E, i⟩ f b).1 < 4294967296) :
    Calls Try.prog 42 #[.pointer (some ⟨B, 0, none⟩), .agg #[.int .i64 13, .int .i64 D, .int .i64 A, .int .i64 E, .int .i32 i]] W (LdPost B M F R K (doR K ⟨13, D, A, E, i⟩ f b) W) := by
  rw [doR_plain (.inl (show (13 : Int) ≤ 16 by decide)) (v := (f A + i) % 4294967296) (by show (f A + i % 4294967296) % 4294967296 = _; omega)]; exact (do_13 B D A E _ i f W (by omega) (by omega) (by omega) hm hf).mono fun e w' h => ld_of hmem hB h
theorem doa_14 (B M F R D A E : Nat) (i : Int) (K : Bk) (f : Nat → Int) (b : List Nat) (W : World) (hd : D < 64) (ha : A < 64) (hbb : E < 64) (hsh : 14 ≤ (14 : Int) → (14 : Int) ≤ 16 → 0 ≤ i ∧ i ≤ 31) (hm : MachV B (some ⟨M, 0, none⟩) f W) (hmem : MemIs M F R K.ff K.rr K.Fb b W) (hb : Banks K.ff K.Fb.length K.rr b.length) (hB : B ≠ M ∧ B ≠ F ∧ B ≠ R) (hf : WordsF f) (ld : ∀ op : Int, (ldR K ⟨op, D, A, E, i⟩ f b).1 < 4294967296) :
    Calls Try.prog 42 #[.pointer (some ⟨B, 0, none⟩), .agg #[.int .i64 14, .int .i64 D, .int .i64 A, .int .i64 E, .int .i32 i]] W (LdPost B M F R K (doR K ⟨14, D, A, E, i⟩ f b) W) := by
  have hi' := hsh (by omega) (by omega)
  rw [doR_plain (.inl (show (14 : Int) ≤ 16 by decide)) (v := f A * 2 ^ i.toNat % 4294967296) (by show f A * 2 ^ (i % 4294967296 % 32).toNat % 4294967296 = _; rw [shR hi'])]; exact (do_14 B D A E _ i f W (by omega) (by omega) (by omega) hm hf hi').mono fun e w' h => ld_of hmem hB h
theorem doa_15 (B M F R D A E : Nat) (i : Int) (K : Bk) (f : Nat → Int) (b : List Nat) (W : World) (hd : D < 64) (ha : A < 64) (hbb : E < 64) (hsh : 14 ≤ (15 : Int) → (15 : Int) ≤ 16 → 0 ≤ i ∧ i ≤ 31) (hm : MachV B (some ⟨M, 0, none⟩) f W) (hmem : MemIs M F R K.ff K.rr K.Fb b W) (hb : Banks K.ff K.Fb.length K.rr b.length) (hB : B ≠ M ∧ B ≠ F ∧ B ≠ R) (hf : WordsF f) (ld : ∀ op : Int, (ldR K ⟨op, D, A, E, i⟩ f b).1 < 4294967296) :
    Calls Try.prog 42 #[.pointer (some ⟨B, 0, none⟩), .agg #[.int .i64 15, .int .i64 D, .int .i64 A, .int .i64 E, .int .i32 i]] W (LdPost B M F R K (doR K ⟨15, D, A, E, i⟩ f b) W) := by
  have hi' := hsh (by omega) (by omega)
  rw [doR_plain (.inl (show (15 : Int) ≤ 16 by decide)) (v := f A / 2 ^ i.toNat) (by show f A / 2 ^ (i % 4294967296 % 32).toNat = _; rw [shR hi'])]; exact (do_15 B D A E _ i f W (by omega) (by omega) (by omega) hm hf hi').mono fun e w' h => ld_of hmem hB h
theorem doa_16 (B M F R D A E : Nat) (i : Int) (K : Bk) (f : Nat → Int) (b : List Nat) (W : World) (hd : D < 64) (ha : A < 64) (hbb : E < 64) (hsh : 14 ≤ (16 : Int) → (16 : Int) ≤ 16 → 0 ≤ i ∧ i ≤ 31) (hm : MachV B (some ⟨M, 0, none⟩) f W) (hmem : MemIs M F R K.ff K.rr K.Fb b W) (hb : Banks K.ff K.Fb.length K.rr b.length) (hB : B ≠ M ∧ B ≠ F ∧ B ≠ R) (hf : WordsF f) (ld : ∀ op : Int, (ldR K ⟨op, D, A, E, i⟩ f b).1 < 4294967296) :
    Calls Try.prog 42 #[.pointer (some ⟨B, 0, none⟩), .agg #[.int .i64 16, .int .i64 D, .int .i64 A, .int .i64 E, .int .i32 i]] W (LdPost B M F R K (doR K ⟨16, D, A, E, i⟩ f b) W) := by
  have hi' := hsh (by omega) (by omega)
  rw [doR_plain (.inl (show (16 : Int) ≤ 16 by decide)) (v := sg (f A) / 2 ^ i.toNat % 4294967296) (by show sg (f A) / 2 ^ (i % 4294967296 % 32).toNat % 4294967296 = _; rw [shR hi'])]; exact (do_16 B D A E _ i f W (by omega) (by omega) (by omega) hm hf hi').mono fun e w' h => ld_of hmem hB h
theorem doa_17 (B M F R D A E : Nat) (i : Int) (K : Bk) (f : Nat → Int) (b : List Nat) (W : World) (hd : D < 64) (ha : A < 64) (hbb : E < 64) (hsh : 14 ≤ (17 : Int) → (17 : Int) ≤ 16 → 0 ≤ i ∧ i ≤ 31) (hm : MachV B (some ⟨M, 0, none⟩) f W) (hmem : MemIs M F R K.ff K.rr K.Fb b W) (hb : Banks K.ff K.Fb.length K.rr b.length) (hB : B ≠ M ∧ B ≠ F ∧ B ≠ R) (hf : WordsF f) (ld : ∀ op : Int, (ldR K ⟨op, D, A, E, i⟩ f b).1 < 4294967296) :
    Calls Try.prog 42 #[.pointer (some ⟨B, 0, none⟩), .agg #[.int .i64 17, .int .i64 D, .int .i64 A, .int .i64 E, .int .i32 i]] W (LdPost B M F R K (doR K ⟨17, D, A, E, i⟩ f b) W) := by
  by_cases ht : (ldR K ⟨17, D, A, E, i⟩ f b).2 = 0
  · have e1 : ldR K ⟨17, D, A, E, i⟩ f b = ((ldR K ⟨17, D, A, E, i⟩ f b).1, 0) := Prod.ext rfl ht
    have e2 : doR K ⟨17, D, A, E, i⟩ f b = ⟨0, upd f D (sextS ((ldR K ⟨17, D, A, E, i⟩ f b).1 : Nat) 8), b⟩ := by unfold doR; rw [if_neg (by simp), if_pos (by simp), if_neg (by rw [ht]; simp)]; rfl
    rw [e2]; exact dov_17 B M F R D A E i K f b W (by omega) (by omega) (by omega) hm hmem hb hB hf _ (ld 17) e1
  · have e2 : doR K ⟨17, D, A, E, i⟩ f b = ⟨(ldR K ⟨17, D, A, E, i⟩ f b).2, f, b⟩ := by unfold doR; rw [if_neg (by simp), if_pos (by simp), if_pos ht]
    rw [e2]; exact dot_17 B M F R D A E i K f b W (by omega) (by omega) (by omega) hm hmem hb hB hf _ _ (by simpa using ht) rfl
theorem doa_18 (B M F R D A E : Nat) (i : Int) (K : Bk) (f : Nat → Int) (b : List Nat) (W : World) (hd : D < 64) (ha : A < 64) (hbb : E < 64) (hsh : 14 ≤ (18 : Int) → (18 : Int) ≤ 16 → 0 ≤ i ∧ i ≤ 31) (hm : MachV B (some ⟨M, 0, none⟩) f W) (hmem : MemIs M F R K.ff K.rr K.Fb b W) (hb : Banks K.ff K.Fb.length K.rr b.length) (hB : B ≠ M ∧ B ≠ F ∧ B ≠ R) (hf : WordsF f) (ld : ∀ op : Int, (ldR K ⟨op, D, A, E, i⟩ f b).1 < 4294967296) :
    Calls Try.prog 42 #[.pointer (some ⟨B, 0, none⟩), .agg #[.int .i64 18, .int .i64 D, .int .i64 A, .int .i64 E, .int .i32 i]] W (LdPost B M F R K (doR K ⟨18, D, A, E, i⟩ f b) W) := by
  by_cases ht : (ldR K ⟨18, D, A, E, i⟩ f b).2 = 0
  · have e1 : ldR K ⟨18, D, A, E, i⟩ f b = ((ldR K ⟨18, D, A, E, i⟩ f b).1, 0) := Prod.ext rfl ht
    have e2 : doR K ⟨18, D, A, E, i⟩ f b = ⟨0, upd f D (((ldR K ⟨18, D, A, E, i⟩ f b).1 : Nat)), b⟩ := by unfold doR; rw [if_neg (by simp), if_pos (by simp), if_neg (by rw [ht]; simp)]; rfl
    rw [e2]; exact dov_18 B M F R D A E i K f b W (by omega) (by omega) (by omega) hm hmem hb hB hf _ (ld 18) e1
  · have e2 : doR K ⟨18, D, A, E, i⟩ f b = ⟨(ldR K ⟨18, D, A, E, i⟩ f b).2, f, b⟩ := by unfold doR; rw [if_neg (by simp), if_pos (by simp), if_pos ht]
    rw [e2]; exact dot_18 B M F R D A E i K f b W (by omega) (by omega) (by omega) hm hmem hb hB hf _ _ (by simpa using ht) rfl
theorem doa_19 (B M F R D A E : Nat) (i : Int) (K : Bk) (f : Nat → Int) (b : List Nat) (W : World) (hd : D < 64) (ha : A < 64) (hbb : E < 64) (hsh : 14 ≤ (19 : Int) → (19 : Int) ≤ 16 → 0 ≤ i ∧ i ≤ 31) (hm : MachV B (some ⟨M, 0, none⟩) f W) (hmem : MemIs M F R K.ff K.rr K.Fb b W) (hb : Banks K.ff K.Fb.length K.rr b.length) (hB : B ≠ M ∧ B ≠ F ∧ B ≠ R) (hf : WordsF f) (ld : ∀ op : Int, (ldR K ⟨op, D, A, E, i⟩ f b).1 < 4294967296) :
    Calls Try.prog 42 #[.pointer (some ⟨B, 0, none⟩), .agg #[.int .i64 19, .int .i64 D, .int .i64 A, .int .i64 E, .int .i32 i]] W (LdPost B M F R K (doR K ⟨19, D, A, E, i⟩ f b) W) := by
  by_cases ht : (ldR K ⟨19, D, A, E, i⟩ f b).2 = 0
  · have e1 : ldR K ⟨19, D, A, E, i⟩ f b = ((ldR K ⟨19, D, A, E, i⟩ f b).1, 0) := Prod.ext rfl ht
    have e2 : doR K ⟨19, D, A, E, i⟩ f b = ⟨0, upd f D (sextS ((ldR K ⟨19, D, A, E, i⟩ f b).1 : Nat) 16), b⟩ := by unfold doR; rw [if_neg (by simp), if_pos (by simp), if_neg (by rw [ht]; simp)]; simp only [extR_19, Int.toNat_natCast]
    rw [e2]; exact dov_19 B M F R D A E i K f b W (by omega) (by omega) (by omega) hm hmem hb hB hf _ (ld 19) e1
  · have e2 : doR K ⟨19, D, A, E, i⟩ f b = ⟨(ldR K ⟨19, D, A, E, i⟩ f b).2, f, b⟩ := by unfold doR; rw [if_neg (by simp), if_pos (by simp), if_pos ht]
    rw [e2]; exact dot_19 B M F R D A E i K f b W (by omega) (by omega) (by omega) hm hmem hb hB hf _ _ (by simpa using ht) rfl
theorem doa_20 (B M F R D A E : Nat) (i : Int) (K : Bk) (f : Nat → Int) (b : List Nat) (W : World) (hd : D < 64) (ha : A < 64) (hbb : E < 64) (hsh : 14 ≤ (20 : Int) → (20 : Int) ≤ 16 → 0 ≤ i ∧ i ≤ 31) (hm : MachV B (some ⟨M, 0, none⟩) f W) (hmem : MemIs M F R K.ff K.rr K.Fb b W) (hb : Banks K.ff K.Fb.length K.rr b.length) (hB : B ≠ M ∧ B ≠ F ∧ B ≠ R) (hf : WordsF f) (ld : ∀ op : Int, (ldR K ⟨op, D, A, E, i⟩ f b).1 < 4294967296) :
    Calls Try.prog 42 #[.pointer (some ⟨B, 0, none⟩), .agg #[.int .i64 20, .int .i64 D, .int .i64 A, .int .i64 E, .int .i32 i]] W (LdPost B M F R K (doR K ⟨20, D, A, E, i⟩ f b) W) := by
  by_cases ht : (ldR K ⟨20, D, A, E, i⟩ f b).2 = 0
  · have e1 : ldR K ⟨20, D, A, E, i⟩ f b = ((ldR K ⟨20, D, A, E, i⟩ f b).1, 0) := Prod.ext rfl ht
    have e2 : doR K ⟨20, D, A, E, i⟩ f b = ⟨0, upd f D (sextS ((ldR K ⟨20, D, A, E, i⟩ f b).1 : Nat) 32), b⟩ := by unfold doR; rw [if_neg (by simp), if_pos (by simp), if_neg (by rw [ht]; simp)]; simp only [extR_20, Int.toNat_natCast]
    rw [e2]; exact dov_20 B M F R D A E i K f b W (by omega) (by omega) (by omega) hm hmem hb hB hf _ (ld 20) e1
  · have e2 : doR K ⟨20, D, A, E, i⟩ f b = ⟨(ldR K ⟨20, D, A, E, i⟩ f b).2, f, b⟩ := by unfold doR; rw [if_neg (by simp), if_pos (by simp), if_pos ht]
    rw [e2]; exact dot_20 B M F R D A E i K f b W (by omega) (by omega) (by omega) hm hmem hb hB hf _ _ (by simpa using ht) rfl
theorem doa_21 (B M F R D A E : Nat) (i : Int) (K : Bk) (f : Nat → Int) (b : List Nat) (W : World) (hd : D < 64) (ha : A < 64) (hbb : E < 64) (hsh : 14 ≤ (21 : Int) → (21 : Int) ≤ 16 → 0 ≤ i ∧ i ≤ 31) (hm : MachV B (some ⟨M, 0, none⟩) f W) (hmem : MemIs M F R K.ff K.rr K.Fb b W) (hb : Banks K.ff K.Fb.length K.rr b.length) (hB : B ≠ M ∧ B ≠ F ∧ B ≠ R) (hf : WordsF f) (ld : ∀ op : Int, (ldR K ⟨op, D, A, E, i⟩ f b).1 < 4294967296) :
    Calls Try.prog 42 #[.pointer (some ⟨B, 0, none⟩), .agg #[.int .i64 21, .int .i64 D, .int .i64 A, .int .i64 E, .int .i32 i]] W (LdPost B M F R K (doR K ⟨21, D, A, E, i⟩ f b) W) := by
  have hs : sizeR 21 = 1 := rfl
  have hc : ((E : Nat) : Int).toNat = E := Int.toNat_natCast E
  have hst : stR K ⟨21, D, A, E, i⟩ f b = storeS K.rr b.length (atR ⟨21, D, A, E, i⟩ f) 1 := by unfold stR; simp only [hs]
  have e2 : doR K ⟨21, D, A, E, i⟩ f b = ⟨stR K ⟨21, D, A, E, i⟩ f b, f, ramS K.rr b.length b (atR ⟨21, D, A, E, i⟩ f) 1 (f E).toNat⟩ := by
    unfold doR
    rw [if_neg (by simp), if_neg (by simp), if_pos (by simp)]
    by_cases ht : stR K ⟨21, D, A, E, i⟩ f b = 0
    · rw [if_neg (by rw [ht]; simp), ht]; simp only [hs, hc]
    · rw [if_pos ht]
      unfold ramS
      rw [if_neg (by rw [← hst]; exact ht)]
  rw [e2]; exact dos_21 B M F R D A E i K f b W (by omega) (by omega) (by omega) hm hmem hb hB hf
theorem doa_22 (B M F R D A E : Nat) (i : Int) (K : Bk) (f : Nat → Int) (b : List Nat) (W : World) (hd : D < 64) (ha : A < 64) (hbb : E < 64) (hsh : 14 ≤ (22 : Int) → (22 : Int) ≤ 16 → 0 ≤ i ∧ i ≤ 31) (hm : MachV B (some ⟨M, 0, none⟩) f W) (hmem : MemIs M F R K.ff K.rr K.Fb b W) (hb : Banks K.ff K.Fb.length K.rr b.length) (hB : B ≠ M ∧ B ≠ F ∧ B ≠ R) (hf : WordsF f) (ld : ∀ op : Int, (ldR K ⟨op, D, A, E, i⟩ f b).1 < 4294967296) :
    Calls Try.prog 42 #[.pointer (some ⟨B, 0, none⟩), .agg #[.int .i64 22, .int .i64 D, .int .i64 A, .int .i64 E, .int .i32 i]] W (LdPost B M F R K (doR K ⟨22, D, A, E, i⟩ f b) W) := by
  have hs : sizeR 22 = 4 := rfl
  have hc : ((E : Nat) : Int).toNat = E := Int.toNat_natCast E
  have hst : stR K ⟨22, D, A, E, i⟩ f b = storeS K.rr b.length (atR ⟨22, D, A, E, i⟩ f) 4 := by unfold stR; simp only [hs]
  have e2 : doR K ⟨22, D, A, E, i⟩ f b = ⟨stR K ⟨22, D, A, E, i⟩ f b, f, ramS K.rr b.length b (atR ⟨22, D, A, E, i⟩ f) 4 (f E).toNat⟩ := by
    unfold doR
    rw [if_neg (by simp), if_neg (by simp), if_pos (by simp)]
    by_cases ht : stR K ⟨22, D, A, E, i⟩ f b = 0
    · rw [if_neg (by rw [ht]; simp), ht]; simp only [hs, hc]
    · rw [if_pos ht]
      unfold ramS
      rw [if_neg (by rw [← hst]; exact ht)]
  rw [e2]; exact dos_22 B M F R D A E i K f b W (by omega) (by omega) (by omega) hm hmem hb hB hf
theorem doa_23 (B M F R D A E : Nat) (i : Int) (K : Bk) (f : Nat → Int) (b : List Nat) (W : World) (hd : D < 64) (ha : A < 64) (hbb : E < 64) (hsh : 14 ≤ (23 : Int) → (23 : Int) ≤ 16 → 0 ≤ i ∧ i ≤ 31) (hm : MachV B (some ⟨M, 0, none⟩) f W) (hmem : MemIs M F R K.ff K.rr K.Fb b W) (hb : Banks K.ff K.Fb.length K.rr b.length) (hB : B ≠ M ∧ B ≠ F ∧ B ≠ R) (hf : WordsF f) (ld : ∀ op : Int, (ldR K ⟨op, D, A, E, i⟩ f b).1 < 4294967296) :
    Calls Try.prog 42 #[.pointer (some ⟨B, 0, none⟩), .agg #[.int .i64 23, .int .i64 D, .int .i64 A, .int .i64 E, .int .i32 i]] W (LdPost B M F R K (doR K ⟨23, D, A, E, i⟩ f b) W) := by
  rw [doR_plain (.inr rfl) rfl]; exact (do_23 B D A E _ i f W (by omega) (by omega) (by omega) hm hf).mono fun e w' h => ld_of hmem hB h
set_option maxRecDepth 100000 in
theorem dov_any (B M F R : Nat) (K : Bk) (x : Q5) (f : Nat → Int) (b : List Nat) (W : World) (hx : OkR x) (h24 : x.o ≠ 24) (hm : MachV B (some ⟨M, 0, none⟩) f W) (hmem : MemIs M F R K.ff K.rr K.Fb b W) (hb : Banks K.ff K.Fb.length K.rr b.length) (hB : B ≠ M ∧ B ≠ F ∧ B ≠ R) (hf : WordsF f) :
    Calls Try.prog 42 #[.pointer (some ⟨B, 0, none⟩), .agg #[.int .i64 x.o, .int .i64 x.d, .int .i64 x.a, .int .i64 x.b, .int .i32 x.i]] W (LdPost B M F R K (doR K x f b) W) := by
  obtain ⟨o, d, a, c, i⟩ := x
  obtain ⟨ho, hd, ha, hbb, hi, hsh, hlo⟩ := hx
  simp only at ho hd ha hbb hi hsh hlo h24
  obtain ⟨D, rfl⟩ : ∃ D : Nat, d = D := ⟨d.toNat, by omega⟩
  obtain ⟨A, rfl⟩ : ∃ A : Nat, a = A := ⟨a.toNat, by omega⟩
  obtain ⟨E, rfl⟩ : ∃ E : Nat, c = E := ⟨c.toNat, by omega⟩
  have ld : ∀ op : Int, (ldR K ⟨op, D, A, E, i⟩ f b).1 < 4294967296 := fun op => loadS_lt' hmem.fF hmem.fR _ _ (by rcases sizeR_is op with g | g | g <;> (show sizeR op ≤ 4; omega))
  have lo := ho.1
  refine case_up lo (fun e => by subst e; exact doa_1 B M F R D A E i K f b W (by omega) (by omega) (by omega) hsh hm hmem hb hB hf ld) (fun lo => ?_)
  refine case_up lo (fun e => by subst e; exact doa_2 B M F R D A E i K f b W (by omega) (by omega) (by omega) hsh hm hmem hb hB hf ld) (fun lo => ?_)
  refine case_up lo (fun e => by subst e; exact doa_3 B M F R D A E i K f b W (by omega) (by omega) (by omega) hsh hm hmem hb hB hf ld) (fun lo => ?_)
  refine case_up lo (fun e => by subst e; exact doa_4 B M F R D A E i K f b W (by omega) (by omega) (by omega) hsh hm hmem hb hB hf ld) (fun lo => ?_)
  refine case_up lo (fun e => by subst e; exact doa_5 B M F R D A E i K f b W (by omega) (by omega) (by omega) hsh hm hmem hb hB hf ld) (fun lo => ?_)
  refine case_up lo (fun e => by subst e; exact doa_6 B M F R D A E i K f b W (by omega) (by omega) (by omega) hsh hm hmem hb hB hf ld) (fun lo => ?_)
  refine case_up lo (fun e => by subst e; exact doa_7 B M F R D A E i K f b W (by omega) (by omega) (by omega) hsh hm hmem hb hB hf ld) (fun lo => ?_)
  refine case_up lo (fun e => by subst e; exact doa_8 B M F R D A E i K f b W (by omega) (by omega) (by omega) hsh hm hmem hb hB hf ld) (fun lo => ?_)
  refine case_up lo (fun e => by subst e; exact doa_9 B M F R D A E i K f b W (by omega) (by omega) (by omega) hsh hm hmem hb hB hf ld) (fun lo => ?_)
  refine case_up lo (fun e => by subst e; exact doa_10 B M F R D A E i K f b W (by omega) (by omega) (by omega) hsh hm hmem hb hB hf ld) (fun lo => ?_)
  refine case_up lo (fun e => by subst e; exact doa_11 B M F R D A E i K f b W (by omega) (by omega) (by omega) hsh hm hmem hb hB hf ld) (fun lo => ?_)
  refine case_up lo (fun e => by subst e; exact doa_12 B M F R D A E i K f b W (by omega) (by omega) (by omega) hsh hm hmem hb hB hf ld) (fun lo => ?_)
  refine case_up lo (fun e => by subst e; exact doa_13 B M F R D A E i K f b W (by omega) (by omega) (by omega) hsh hm hmem hb hB hf ld) (fun lo => ?_)
  refine case_up lo (fun e => by subst e; exact doa_14 B M F R D A E i K f b W (by omega) (by omega) (by omega) hsh hm hmem hb hB hf ld) (fun lo => ?_)
  refine case_up lo (fun e => by subst e; exact doa_15 B M F R D A E i K f b W (by omega) (by omega) (by omega) hsh hm hmem hb hB hf ld) (fun lo => ?_)
  refine case_up lo (fun e => by subst e; exact doa_16 B M F R D A E i K f b W (by omega) (by omega) (by omega) hsh hm hmem hb hB hf ld) (fun lo => ?_)
  refine case_up lo (fun e => by subst e; exact doa_17 B M F R D A E i K f b W (by omega) (by omega) (by omega) hsh hm hmem hb hB hf ld) (fun lo => ?_)
  refine case_up lo (fun e => by subst e; exact doa_18 B M F R D A E i K f b W (by omega) (by omega) (by omega) hsh hm hmem hb hB hf ld) (fun lo => ?_)
  refine case_up lo (fun e => by subst e; exact doa_19 B M F R D A E i K f b W (by omega) (by omega) (by omega) hsh hm hmem hb hB hf ld) (fun lo => ?_)
  refine case_up lo (fun e => by subst e; exact doa_20 B M F R D A E i K f b W (by omega) (by omega) (by omega) hsh hm hmem hb hB hf ld) (fun lo => ?_)
  refine case_up lo (fun e => by subst e; exact doa_21 B M F R D A E i K f b W (by omega) (by omega) (by omega) hsh hm hmem hb hB hf ld) (fun lo => ?_)
  refine case_up lo (fun e => by subst e; exact doa_22 B M F R D A E i K f b W (by omega) (by omega) (by omega) hsh hm hmem hb hB hf ld) (fun lo => ?_)
  refine case_up lo (fun e => by subst e; exact doa_23 B M F R D A E i K f b W (by omega) (by omega) (by omega) hsh hm hmem hb hB hf ld) (fun lo => ?_)
  exact absurd (show o = 24 by omega) h24
end Go.Proofs.Ytghclbeoabkgcaa
