/- Contracts of lirrun's load, and of its do at loads and stores. -/
import Derived.Test.YtlieapapmkbbgaaLrDa
import Derived.Test.YtlieapapmkbbgaaGD
namespace Go.Proofs.Ytlieapapmkbbgaa
open Go Go.RowKit Pl
set_option linter.unusedVariables false

theorem MachV.out {B : Nat} {mp : Option Addr} {f : Nat → Int} {S : Nat → Prop} {w w' : World} (h : MachV B mp f w) (ho : Out S w w') (hS : ¬ S B) : MachV B mp f w' :=
  ⟨fun k hk => (ho.cell (by exact h.lt) hS).trans (h.v k hk), (ho.cell (by exact h.lt) hS).trans h.m, fun k hk => (World.frozen?_of_block (ho.block _ h.lt hS)).trans (h.fz k hk), Nat.lt_of_lt_of_le h.lt ho.size⟩
theorem MachV.like {B : Nat} {mp : Option Addr} {f : Nat → Int} {w w' : World} (h : MachV B mp f w) (ho : LikeG w w') : MachV B mp f w' := h.out (ho.out (fun _ => False)) id
theorem out_setB (B k : Nat) (v : Value) (W : World) : Out (· = B) W (W.setCell ⟨B, k, none⟩ v) :=
  Out.of_grown (grownS_set (World.grownBy.refl W (some B))) (fun j h => by cases h; rfl)
def LdPost (B M F R : Nat) (K : Bk) (r : LD) (W : World) (e : Ending) (w' : World) : Prop :=
  e = .returned (.int .i64 r.t) ∧ MachV B (some ⟨M, 0, none⟩) r.f w' ∧ MemIs M F R K.ff K.rr K.Fb r.b w' ∧ Out (fun j => j = B ∨ j = R) W w'

set_option maxRecDepth 100000 in
set_option maxHeartbeats 2000000 in
theorem ldv_17 (B M F R D A E : Nat) (imm : Int) (K : Bk) (f : Nat → Int) (b : List Nat) (W : World) (hD : D < 64) (hm : MachV B (some ⟨M, 0, none⟩) f W) (hmem : MemIs M F R K.ff K.rr K.Fb b W) (hb : Banks K.ff K.Fb.length K.rr b.length) (hB : B ≠ M ∧ B ≠ F ∧ B ≠ R) (a n : Nat) (ha : a < 4294967296) (hn : n < 4294967296) (hl : loadS K.ff K.Fb.length K.rr b.length K.Fb b a 1 = (n, 0)) :
    Calls Try.prog 33 #[.pointer (some ⟨B, 0, none⟩), .agg #[.int .i64 17, .int .i64 D, .int .i64 A, .int .i64 E, .int .i32 imm], .int .u32 (a : Nat)] W (LdPost B M F R K ⟨0, upd f D (sextS (n : Nat) 8), b⟩ W) := by
  have cm := hm.m
  have lt := hm.lt
  have B0 : Below W.heap.size W (W.alloc (.cells #[.int .i64 17, .int .i64 D, .int .i64 A, .int .i64 E, .int .i32 imm] 46)) := (Below.refl _ _).alloc (Nat.le_refl _) _
  have O0 := Lib.hid (Out.of_below (fun j => j = B ∨ j = R) B0)
  have MM := Lib.hid ((hmem.out (Out.of_below (fun _ => False) B0)) id id id)
  have HM := Lib.hid (hm.grown B0)
  have LO := Lib.hid (load_any MM.out hb a 1 ha (by decide))
  rw [hl] at LO
  have gD : (D : Int) < 64 := by omega
  have pD : (0 : Int) ≤ (D : Int) := by omega
  clear hm hmem hl B0
  go_enter Try.func33, Try.ntmps33
  go_wp2_with fail
  refine LO.out.mono ?_
  rintro e w2 ⟨rfl, lk⟩
  have H2 := Lib.hid (HM.out.like lk)
  have M2 := Lib.hid (MM.out.like lk)
  have O2 := Lib.hid (O0.out.trans (lk.out _))
  have c1 : w2.cell? ⟨W.heap.size, 1, none⟩ = some (.int .i64 D) := (lk.cell _).trans (by simp)
  have c0 : w2.cell? ⟨W.heap.size, 0, none⟩ = some (.int .i64 17) := (lk.cell _).trans (by simp)
  clear lk LO MM HM O0 cm
  have SX := Lib.hid (fun w => num_sext (n : Nat) 8 w (by omega) (by omega))
  have cD := H2.out.v D hD
  have zD := H2.out.fz D (by omega)
  go_wp2_with fail
  refine (SX.out _).mono ?_
  rintro e w3 ⟨rfl, rfl⟩
  go_wp2_with fail
  go_region
  have M3 := Lib.hid ((machV_set (x := sextS (n : Nat) 8) H2.out hD).drew)
  have O3 := Lib.hid (show Out (fun j => j = B ∨ j = R) W (w2.setCell ⟨B, D, none⟩ (.int .u32 (sextS (n : Nat) 8))).drew from (O2.out.trans ((out_setB B D _ w2).mono (fun j h => .inl h))).trans (Out.of_below _ ((Below.refl _ _).drew)))
  have N3 := Lib.hid (show MemIs M F R K.ff K.rr K.Fb b (w2.setCell ⟨B, D, none⟩ (.int .u32 (sextS (n : Nat) 8))).drew from (M2.out.out (out_setB B D _ w2) (fun e => hB.1 e.symm) (fun e => hB.2.1 e.symm) (fun e => hB.2.2 e.symm)).out (Out.of_below (fun _ => False) ((Below.refl _ _).drew)) id id id)
  generalize World.drew (World.setCell _ _ _) = W3 at *
  clear c0 c1 cD zD
  go_wp2_with fail
  go_ret
  exact ⟨rfl, M3.out, N3.out, O3.out⟩

set_option maxRecDepth 100000 in
set_option maxHeartbeats 2000000 in
theorem ldt_17 (B M F R D A E : Nat) (imm : Int) (K : Bk) (f : Nat → Int) (b : List Nat) (W : World) (hD : D < 64) (hm : MachV B (some ⟨M, 0, none⟩) f W) (hmem : MemIs M F R K.ff K.rr K.Fb b W) (hb : Banks K.ff K.Fb.length K.rr b.length) (hB : B ≠ M ∧ B ≠ F ∧ B ≠ R) (a n : Nat) (t : Int) (ha : a < 4294967296) (ht : (t == 0) = false) (hl : loadS K.ff K.Fb.length K.rr b.length K.Fb b a 1 = (n, t)) :
    Calls Try.prog 33 #[.pointer (some ⟨B, 0, none⟩), .agg #[.int .i64 17, .int .i64 D, .int .i64 A, .int .i64 E, .int .i32 imm], .int .u32 (a : Nat)] W (LdPost B M F R K ⟨t, f, b⟩ W) := by
  have cm := hm.m
  have lt := hm.lt
  have B0 : Below W.heap.size W (W.alloc (.cells #[.int .i64 17, .int .i64 D, .int .i64 A, .int .i64 E, .int .i32 imm] 46)) := (Below.refl _ _).alloc (Nat.le_refl _) _
  have O0 := Lib.hid (Out.of_below (fun j => j = B ∨ j = R) B0)
  have MM := Lib.hid ((hmem.out (Out.of_below (fun _ => False) B0)) id id id)
  have HM := Lib.hid (hm.grown B0)
  have LO := Lib.hid (load_any MM.out hb a 1 ha (by decide))
  rw [hl] at LO
  have gD : (D : Int) < 64 := by omega
  have pD : (0 : Int) ≤ (D : Int) := by omega
  clear hm hmem hl B0
  go_enter Try.func33, Try.ntmps33
  go_wp2_with fail
  refine LO.out.mono ?_
  rintro e w2 ⟨rfl, lk⟩
  have H2 := Lib.hid (HM.out.like lk)
  have M2 := Lib.hid (MM.out.like lk)
  have O2 := Lib.hid (O0.out.trans (lk.out _))
  have c1 : w2.cell? ⟨W.heap.size, 1, none⟩ = some (.int .i64 D) := (lk.cell _).trans (by simp)
  have c0 : w2.cell? ⟨W.heap.size, 0, none⟩ = some (.int .i64 17) := (lk.cell _).trans (by simp)
  clear lk LO MM HM O0 cm
  have ht2 : (t != 0) = true := by simp at ht ⊢; exact ht
  go_wp2_with fail
  go_ret
  exact ⟨rfl, H2.out, M2.out, O2.out⟩

set_option maxRecDepth 100000 in
set_option maxHeartbeats 2000000 in
theorem dov_17 (B M F R D A E : Nat) (imm : Int) (K : Bk) (f : Nat → Int) (b : List Nat) (W : World) (hD : D < 64) (hA : A < 64) (hE : E < 64) (hm : MachV B (some ⟨M, 0, none⟩) f W) (hmem : MemIs M F R K.ff K.rr K.Fb b W) (hb : Banks K.ff K.Fb.length K.rr b.length) (hB : B ≠ M ∧ B ≠ F ∧ B ≠ R) (hf : WordsF f) (n : Nat) (hn : n < 4294967296) (hl : ldR K ⟨17, D, A, E, imm⟩ f b = (n, 0)) :
    Calls Try.prog 20 #[.pointer (some ⟨B, 0, none⟩), .agg #[.int .i64 17, .int .i64 D, .int .i64 A, .int .i64 E, .int .i32 imm]] W (LdPost B M F R K ⟨0, upd f D (sextS (n : Nat) 8), b⟩ W) := by
  have cA := hm.v A hA
  have cE := hm.v E hE
  have lt := hm.lt
  have gA : (A : Int) < 64 := by omega
  have gE : (E : Int) < 64 := by omega
  have pA : (0 : Int) ≤ (A : Int) := by omega
  have pE : (0 : Int) ≤ (E : Int) := by omega
  have AT := Lib.hid (atR_int ⟨17, D, A, E, imm⟩ f)
  simp only [Int.toNat_natCast] at AT
  have B0 : Below W.heap.size W ((W.alloc (.cells #[.int .i64 17, .int .i64 D, .int .i64 A, .int .i64 E, .int .i32 imm] 46)).drew) := ((Below.refl _ _).alloc (Nat.le_refl _) _).drew
  have O0 := Lib.hid (Out.of_below (fun j => j = B ∨ j = R) B0)
  have MM := Lib.hid ((hmem.out (Out.of_below (fun _ => False) B0)) id id id)
  have HM := Lib.hid (hm.grown B0)
  have LO := Lib.hid (ldv_17 B M F R D A E imm K f b _ hD HM.out MM.out hb hB (atR ⟨17, D, A, E, imm⟩ f) n (atR_lt _ _) hn hl)
  clear hm hmem hl B0
  go_enter Try.func20, Try.ntmps20
  go_wp2_with fail
  go_region
  have bx : ∀ j v, (#[.int .i64 17, .int .i64 D, .int .i64 A, .int .i64 E, .int .i32 imm] : Array Value)[j]? = some v → ((W.alloc (.cells #[.int .i64 17, .int .i64 D, .int .i64 A, .int .i64 E, .int .i32 imm] 46)).drew).cell? ⟨W.heap.size, j, none⟩ = some v := fun j v h => by rw [World.cell?_drew, World.cell?_alloc_new]; exact h
  have x0 := bx 0 _ rfl
  have x1 := bx 1 _ rfl
  have x2 := bx 2 _ rfl
  have x3 := bx 3 _ rfl
  have x4 := bx 4 _ rfl
  generalize World.drew (World.alloc _ _) = W1 at *
  clear cA cE bx
  go_wp2_with fail
  rw [← AT.out]
  refine LO.out.mono ?_
  rintro e w2 ⟨rfl, h1, h2, h3⟩
  have H1 := Lib.hid h1
  have H2 := Lib.hid h2
  have H3 := Lib.hid (O0.out.trans h3)
  clear h1 h2 h3 x0 x1 x2 x3 x4
  go_wp2_with fail
  go_ret
  exact ⟨rfl, H1.out, H2.out, H3.out⟩

set_option maxRecDepth 100000 in
set_option maxHeartbeats 2000000 in
theorem dot_17 (B M F R D A E : Nat) (imm : Int) (K : Bk) (f : Nat → Int) (b : List Nat) (W : World) (hD : D < 64) (hA : A < 64) (hE : E < 64) (hm : MachV B (some ⟨M, 0, none⟩) f W) (hmem : MemIs M F R K.ff K.rr K.Fb b W) (hb : Banks K.ff K.Fb.length K.rr b.length) (hB : B ≠ M ∧ B ≠ F ∧ B ≠ R) (hf : WordsF f) (n : Nat) (t : Int) (ht : (t == 0) = false) (hl : ldR K ⟨17, D, A, E, imm⟩ f b = (n, t)) :
    Calls Try.prog 20 #[.pointer (some ⟨B, 0, none⟩), .agg #[.int .i64 17, .int .i64 D, .int .i64 A, .int .i64 E, .int .i32 imm]] W (LdPost B M F R K ⟨t, f, b⟩ W) := by
  have cA := hm.v A hA
  have cE := hm.v E hE
  have lt := hm.lt
  have gA : (A : Int) < 64 := by omega
  have gE : (E : Int) < 64 := by omega
  have pA : (0 : Int) ≤ (A : Int) := by omega
  have pE : (0 : Int) ≤ (E : Int) := by omega
  have AT := Lib.hid (atR_int ⟨17, D, A, E, imm⟩ f)
  simp only [Int.toNat_natCast] at AT
  have B0 : Below W.heap.size W ((W.alloc (.cells #[.int .i64 17, .int .i64 D, .int .i64 A, .int .i64 E, .int .i32 imm] 46)).drew) := ((Below.refl _ _).alloc (Nat.le_refl _) _).drew
  have O0 := Lib.hid (Out.of_below (fun j => j = B ∨ j = R) B0)
  have MM := Lib.hid ((hmem.out (Out.of_below (fun _ => False) B0)) id id id)
  have HM := Lib.hid (hm.grown B0)
  have LO := Lib.hid (ldt_17 B M F R D A E imm K f b _ hD HM.out MM.out hb hB (atR ⟨17, D, A, E, imm⟩ f) n t (atR_lt _ _) ht hl)
  clear hm hmem hl B0
  go_enter Try.func20, Try.ntmps20
  go_wp2_with fail
  go_region
  have bx : ∀ j v, (#[.int .i64 17, .int .i64 D, .int .i64 A, .int .i64 E, .int .i32 imm] : Array Value)[j]? = some v → ((W.alloc (.cells #[.int .i64 17, .int .i64 D, .int .i64 A, .int .i64 E, .int .i32 imm] 46)).drew).cell? ⟨W.heap.size, j, none⟩ = some v := fun j v h => by rw [World.cell?_drew, World.cell?_alloc_new]; exact h
  have x0 := bx 0 _ rfl
  have x1 := bx 1 _ rfl
  have x2 := bx 2 _ rfl
  have x3 := bx 3 _ rfl
  have x4 := bx 4 _ rfl
  generalize World.drew (World.alloc _ _) = W1 at *
  clear cA cE bx
  go_wp2_with fail
  rw [← AT.out]
  refine LO.out.mono ?_
  rintro e w2 ⟨rfl, h1, h2, h3⟩
  have H1 := Lib.hid h1
  have H2 := Lib.hid h2
  have H3 := Lib.hid (O0.out.trans h3)
  clear h1 h2 h3 x0 x1 x2 x3 x4
  go_wp2_with fail
  go_ret
  exact ⟨rfl, H1.out, H2.out, H3.out⟩

set_option maxRecDepth 100000 in
set_option maxHeartbeats 2000000 in
theorem ldv_18 (B M F R D A E : Nat) (imm : Int) (K : Bk) (f : Nat → Int) (b : List Nat) (W : World) (hD : D < 64) (hm : MachV B (some ⟨M, 0, none⟩) f W) (hmem : MemIs M F R K.ff K.rr K.Fb b W) (hb : Banks K.ff K.Fb.length K.rr b.length) (hB : B ≠ M ∧ B ≠ F ∧ B ≠ R) (a n : Nat) (ha : a < 4294967296) (hn : n < 4294967296) (hl : loadS K.ff K.Fb.length K.rr b.length K.Fb b a 1 = (n, 0)) :
    Calls Try.prog 33 #[.pointer (some ⟨B, 0, none⟩), .agg #[.int .i64 18, .int .i64 D, .int .i64 A, .int .i64 E, .int .i32 imm], .int .u32 (a : Nat)] W (LdPost B M F R K ⟨0, upd f D ((n : Nat)), b⟩ W) := by
  have cm := hm.m
  have lt := hm.lt
  have B0 : Below W.heap.size W (W.alloc (.cells #[.int .i64 18, .int .i64 D, .int .i64 A, .int .i64 E, .int .i32 imm] 46)) := (Below.refl _ _).alloc (Nat.le_refl _) _
  have O0 := Lib.hid (Out.of_below (fun j => j = B ∨ j = R) B0)
  have MM := Lib.hid ((hmem.out (Out.of_below (fun _ => False) B0)) id id id)
  have HM := Lib.hid (hm.grown B0)
  have LO := Lib.hid (load_any MM.out hb a 1 ha (by decide))
  rw [hl] at LO
  have gD : (D : Int) < 64 := by omega
  have pD : (0 : Int) ≤ (D : Int) := by omega
  clear hm hmem hl B0
  go_enter Try.func33, Try.ntmps33
  go_wp2_with fail
  refine LO.out.mono ?_
  rintro e w2 ⟨rfl, lk⟩
  have H2 := Lib.hid (HM.out.like lk)
  have M2 := Lib.hid (MM.out.like lk)
  have O2 := Lib.hid (O0.out.trans (lk.out _))
  have c1 : w2.cell? ⟨W.heap.size, 1, none⟩ = some (.int .i64 D) := (lk.cell _).trans (by simp)
  have c0 : w2.cell? ⟨W.heap.size, 0, none⟩ = some (.int .i64 18) := (lk.cell _).trans (by simp)
  clear lk LO MM HM O0 cm
  have cD := H2.out.v D hD
  have zD := H2.out.fz D (by omega)
  go_wp2_with fail
  go_region
  have M3 := Lib.hid ((machV_set (x := (n : Nat)) H2.out hD).drew)
  have O3 := Lib.hid (show Out (fun j => j = B ∨ j = R) W (w2.setCell ⟨B, D, none⟩ (.int .u32 ((n : Nat)))).drew from (O2.out.trans ((out_setB B D _ w2).mono (fun j h => .inl h))).trans (Out.of_below _ ((Below.refl _ _).drew)))
  have N3 := Lib.hid (show MemIs M F R K.ff K.rr K.Fb b (w2.setCell ⟨B, D, none⟩ (.int .u32 ((n : Nat)))).drew from (M2.out.out (out_setB B D _ w2) (fun e => hB.1 e.symm) (fun e => hB.2.1 e.symm) (fun e => hB.2.2 e.symm)).out (Out.of_below (fun _ => False) ((Below.refl _ _).drew)) id id id)
  generalize World.drew (World.setCell _ _ _) = W3 at *
  clear c0 c1 cD zD
  go_wp2_with fail
  go_ret
  exact ⟨rfl, M3.out, N3.out, O3.out⟩

set_option maxRecDepth 100000 in
set_option maxHeartbeats 2000000 in
theorem ldt_18 (B M F R D A E : Nat) (imm : Int) (K : Bk) (f : Nat → Int) (b : List Nat) (W : World) (hD : D < 64) (hm : MachV B (some ⟨M, 0, none⟩) f W) (hmem : MemIs M F R K.ff K.rr K.Fb b W) (hb : Banks K.ff K.Fb.length K.rr b.length) (hB : B ≠ M ∧ B ≠ F ∧ B ≠ R) (a n : Nat) (t : Int) (ha : a < 4294967296) (ht : (t == 0) = false) (hl : loadS K.ff K.Fb.length K.rr b.length K.Fb b a 1 = (n, t)) :
    Calls Try.prog 33 #[.pointer (some ⟨B, 0, none⟩), .agg #[.int .i64 18, .int .i64 D, .int .i64 A, .int .i64 E, .int .i32 imm], .int .u32 (a : Nat)] W (LdPost B M F R K ⟨t, f, b⟩ W) := by
  have cm := hm.m
  have lt := hm.lt
  have B0 : Below W.heap.size W (W.alloc (.cells #[.int .i64 18, .int .i64 D, .int .i64 A, .int .i64 E, .int .i32 imm] 46)) := (Below.refl _ _).alloc (Nat.le_refl _) _
  have O0 := Lib.hid (Out.of_below (fun j => j = B ∨ j = R) B0)
  have MM := Lib.hid ((hmem.out (Out.of_below (fun _ => False) B0)) id id id)
  have HM := Lib.hid (hm.grown B0)
  have LO := Lib.hid (load_any MM.out hb a 1 ha (by decide))
  rw [hl] at LO
  have gD : (D : Int) < 64 := by omega
  have pD : (0 : Int) ≤ (D : Int) := by omega
  clear hm hmem hl B0
  go_enter Try.func33, Try.ntmps33
  go_wp2_with fail
  refine LO.out.mono ?_
  rintro e w2 ⟨rfl, lk⟩
  have H2 := Lib.hid (HM.out.like lk)
  have M2 := Lib.hid (MM.out.like lk)
  have O2 := Lib.hid (O0.out.trans (lk.out _))
  have c1 : w2.cell? ⟨W.heap.size, 1, none⟩ = some (.int .i64 D) := (lk.cell _).trans (by simp)
  have c0 : w2.cell? ⟨W.heap.size, 0, none⟩ = some (.int .i64 18) := (lk.cell _).trans (by simp)
  clear lk LO MM HM O0 cm
  have ht2 : (t != 0) = true := by simp at ht ⊢; exact ht
  go_wp2_with fail
  go_ret
  exact ⟨rfl, H2.out, M2.out, O2.out⟩

set_option maxRecDepth 100000 in
set_option maxHeartbeats 2000000 in
theorem dov_18 (B M F R D A E : Nat) (imm : Int) (K : Bk) (f : Nat → Int) (b : List Nat) (W : World) (hD : D < 64) (hA : A < 64) (hE : E < 64) (hm : MachV B (some ⟨M, 0, none⟩) f W) (hmem : MemIs M F R K.ff K.rr K.Fb b W) (hb : Banks K.ff K.Fb.length K.rr b.length) (hB : B ≠ M ∧ B ≠ F ∧ B ≠ R) (hf : WordsF f) (n : Nat) (hn : n < 4294967296) (hl : ldR K ⟨18, D, A, E, imm⟩ f b = (n, 0)) :
    Calls Try.prog 20 #[.pointer (some ⟨B, 0, none⟩), .agg #[.int .i64 18, .int .i64 D, .int .i64 A, .int .i64 E, .int .i32 imm]] W (LdPost B M F R K ⟨0, upd f D ((n : Nat)), b⟩ W) := by
  have cA := hm.v A hA
  have cE := hm.v E hE
  have lt := hm.lt
  have gA : (A : Int) < 64 := by omega
  have gE : (E : Int) < 64 := by omega
  have pA : (0 : Int) ≤ (A : Int) := by omega
  have pE : (0 : Int) ≤ (E : Int) := by omega
  have AT := Lib.hid (atR_int ⟨18, D, A, E, imm⟩ f)
  simp only [Int.toNat_natCast] at AT
  have B0 : Below W.heap.size W ((W.alloc (.cells #[.int .i64 18, .int .i64 D, .int .i64 A, .int .i64 E, .int .i32 imm] 46)).drew) := ((Below.refl _ _).alloc (Nat.le_refl _) _).drew
  have O0 := Lib.hid (Out.of_below (fun j => j = B ∨ j = R) B0)
  have MM := Lib.hid ((hmem.out (Out.of_below (fun _ => False) B0)) id id id)
  have HM := Lib.hid (hm.grown B0)
  have LO := Lib.hid (ldv_18 B M F R D A E imm K f b _ hD HM.out MM.out hb hB (atR ⟨18, D, A, E, imm⟩ f) n (atR_lt _ _) hn hl)
  clear hm hmem hl B0
  go_enter Try.func20, Try.ntmps20
  go_wp2_with fail
  go_region
  have bx : ∀ j v, (#[.int .i64 18, .int .i64 D, .int .i64 A, .int .i64 E, .int .i32 imm] : Array Value)[j]? = some v → ((W.alloc (.cells #[.int .i64 18, .int .i64 D, .int .i64 A, .int .i64 E, .int .i32 imm] 46)).drew).cell? ⟨W.heap.size, j, none⟩ = some v := fun j v h => by rw [World.cell?_drew, World.cell?_alloc_new]; exact h
  have x0 := bx 0 _ rfl
  have x1 := bx 1 _ rfl
  have x2 := bx 2 _ rfl
  have x3 := bx 3 _ rfl
  have x4 := bx 4 _ rfl
  generalize World.drew (World.alloc _ _) = W1 at *
  clear cA cE bx
  go_wp2_with fail
  rw [← AT.out]
  refine LO.out.mono ?_
  rintro e w2 ⟨rfl, h1, h2, h3⟩
  have H1 := Lib.hid h1
  have H2 := Lib.hid h2
  have H3 := Lib.hid (O0.out.trans h3)
  clear h1 h2 h3 x0 x1 x2 x3 x4
  go_wp2_with fail
  go_ret
  exact ⟨rfl, H1.out, H2.out, H3.out⟩

set_option maxRecDepth 100000 in
set_option maxHeartbeats 2000000 in
theorem dot_18 (B M F R D A E : Nat) (imm : Int) (K : Bk) (f : Nat → Int) (b : List Nat) (W : World) (hD : D < 64) (hA : A < 64) (hE : E < 64) (hm : MachV B (some ⟨M, 0, none⟩) f W) (hmem : MemIs M F R K.ff K.rr K.Fb b W) (hb : Banks K.ff K.Fb.length K.rr b.length) (hB : B ≠ M ∧ B ≠ F ∧ B ≠ R) (hf : WordsF f) (n : Nat) (t : Int) (ht : (t == 0) = false) (hl : ldR K ⟨18, D, A, E, imm⟩ f b = (n, t)) :
    Calls Try.prog 20 #[.pointer (some ⟨B, 0, none⟩), .agg #[.int .i64 18, .int .i64 D, .int .i64 A, .int .i64 E, .int .i32 imm]] W (LdPost B M F R K ⟨t, f, b⟩ W) := by
  have cA := hm.v A hA
  have cE := hm.v E hE
  have lt := hm.lt
  have gA : (A : Int) < 64 := by omega
  have gE : (E : Int) < 64 := by omega
  have pA : (0 : Int) ≤ (A : Int) := by omega
  have pE : (0 : Int) ≤ (E : Int) := by omega
  have AT := Lib.hid (atR_int ⟨18, D, A, E, imm⟩ f)
  simp only [Int.toNat_natCast] at AT
  have B0 : Below W.heap.size W ((W.alloc (.cells #[.int .i64 18, .int .i64 D, .int .i64 A, .int .i64 E, .int .i32 imm] 46)).drew) := ((Below.refl _ _).alloc (Nat.le_refl _) _).drew
  have O0 := Lib.hid (Out.of_below (fun j => j = B ∨ j = R) B0)
  have MM := Lib.hid ((hmem.out (Out.of_below (fun _ => False) B0)) id id id)
  have HM := Lib.hid (hm.grown B0)
  have LO := Lib.hid (ldt_18 B M F R D A E imm K f b _ hD HM.out MM.out hb hB (atR ⟨18, D, A, E, imm⟩ f) n t (atR_lt _ _) ht hl)
  clear hm hmem hl B0
  go_enter Try.func20, Try.ntmps20
  go_wp2_with fail
  go_region
  have bx : ∀ j v, (#[.int .i64 18, .int .i64 D, .int .i64 A, .int .i64 E, .int .i32 imm] : Array Value)[j]? = some v → ((W.alloc (.cells #[.int .i64 18, .int .i64 D, .int .i64 A, .int .i64 E, .int .i32 imm] 46)).drew).cell? ⟨W.heap.size, j, none⟩ = some v := fun j v h => by rw [World.cell?_drew, World.cell?_alloc_new]; exact h
  have x0 := bx 0 _ rfl
  have x1 := bx 1 _ rfl
  have x2 := bx 2 _ rfl
  have x3 := bx 3 _ rfl
  have x4 := bx 4 _ rfl
  generalize World.drew (World.alloc _ _) = W1 at *
  clear cA cE bx
  go_wp2_with fail
  rw [← AT.out]
  refine LO.out.mono ?_
  rintro e w2 ⟨rfl, h1, h2, h3⟩
  have H1 := Lib.hid h1
  have H2 := Lib.hid h2
  have H3 := Lib.hid (O0.out.trans h3)
  clear h1 h2 h3 x0 x1 x2 x3 x4
  go_wp2_with fail
  go_ret
  exact ⟨rfl, H1.out, H2.out, H3.out⟩

set_option maxRecDepth 100000 in
set_option maxHeartbeats 2000000 in
theorem ldv_19 (B M F R D A E : Nat) (imm : Int) (K : Bk) (f : Nat → Int) (b : List Nat) (W : World) (hD : D < 64) (hm : MachV B (some ⟨M, 0, none⟩) f W) (hmem : MemIs M F R K.ff K.rr K.Fb b W) (hb : Banks K.ff K.Fb.length K.rr b.length) (hB : B ≠ M ∧ B ≠ F ∧ B ≠ R) (a n : Nat) (ha : a < 4294967296) (hn : n < 4294967296) (hl : loadS K.ff K.Fb.length K.rr b.length K.Fb b a 2 = (n, 0)) :
    Calls Try.prog 33 #[.pointer (some ⟨B, 0, none⟩), .agg #[.int .i64 19, .int .i64 D, .int .i64 A, .int .i64 E, .int .i32 imm], .int .u32 (a : Nat)] W (LdPost B M F R K ⟨0, upd f D (sextS (n : Nat) 16), b⟩ W) := by
  have cm := hm.m
  have lt := hm.lt
  have B0 : Below W.heap.size W (W.alloc (.cells #[.int .i64 19, .int .i64 D, .int .i64 A, .int .i64 E, .int .i32 imm] 46)) := (Below.refl _ _).alloc (Nat.le_refl _) _
  have O0 := Lib.hid (Out.of_below (fun j => j = B ∨ j = R) B0)
  have MM := Lib.hid ((hmem.out (Out.of_below (fun _ => False) B0)) id id id)
  have HM := Lib.hid (hm.grown B0)
  have LO := Lib.hid (load_any MM.out hb a 2 ha (by decide))
  rw [hl] at LO
  have gD : (D : Int) < 64 := by omega
  have pD : (0 : Int) ≤ (D : Int) := by omega
  clear hm hmem hl B0
  go_enter Try.func33, Try.ntmps33
  go_wp2_with fail
  refine LO.out.mono ?_
  rintro e w2 ⟨rfl, lk⟩
  have H2 := Lib.hid (HM.out.like lk)
  have M2 := Lib.hid (MM.out.like lk)
  have O2 := Lib.hid (O0.out.trans (lk.out _))
  have c1 : w2.cell? ⟨W.heap.size, 1, none⟩ = some (.int .i64 D) := (lk.cell _).trans (by simp)
  have c0 : w2.cell? ⟨W.heap.size, 0, none⟩ = some (.int .i64 19) := (lk.cell _).trans (by simp)
  clear lk LO MM HM O0 cm
  have SX := Lib.hid (fun w => num_sext (n : Nat) 16 w (by omega) (by omega))
  have cD := H2.out.v D hD
  have zD := H2.out.fz D (by omega)
  go_wp2_with fail
  refine (SX.out _).mono ?_
  rintro e w3 ⟨rfl, rfl⟩
  go_wp2_with fail
  go_region
  have M3 := Lib.hid ((machV_set (x := sextS (n : Nat) 16) H2.out hD).drew)
  have O3 := Lib.hid (show Out (fun j => j = B ∨ j = R) W (w2.setCell ⟨B, D, none⟩ (.int .u32 (sextS (n : Nat) 16))).drew from (O2.out.trans ((out_setB B D _ w2).mono (fun j h => .inl h))).trans (Out.of_below _ ((Below.refl _ _).drew)))
  have N3 := Lib.hid (show MemIs M F R K.ff K.rr K.Fb b (w2.setCell ⟨B, D, none⟩ (.int .u32 (sextS (n : Nat) 16))).drew from (M2.out.out (out_setB B D _ w2) (fun e => hB.1 e.symm) (fun e => hB.2.1 e.symm) (fun e => hB.2.2 e.symm)).out (Out.of_below (fun _ => False) ((Below.refl _ _).drew)) id id id)
  generalize World.drew (World.setCell _ _ _) = W3 at *
  clear c0 c1 cD zD
  go_wp2_with fail
  go_ret
  exact ⟨rfl, M3.out, N3.out, O3.out⟩

set_option maxRecDepth 100000 in
set_option maxHeartbeats 2000000 in
theorem ldt_19 (B M F R D A E : Nat) (imm : Int) (K : Bk) (f : Nat → Int) (b : List Nat) (W : World) (hD : D < 64) (hm : MachV B (some ⟨M, 0, none⟩) f W) (hmem : MemIs M F R K.ff K.rr K.Fb b W) (hb : Banks K.ff K.Fb.length K.rr b.length) (hB : B ≠ M ∧ B ≠ F ∧ B ≠ R) (a n : Nat) (t : Int) (ha : a < 4294967296) (ht : (t == 0) = false) (hl : loadS K.ff K.Fb.length K.rr b.length K.Fb b a 2 = (n, t)) :
    Calls Try.prog 33 #[.pointer (some ⟨B, 0, none⟩), .agg #[.int .i64 19, .int .i64 D, .int .i64 A, .int .i64 E, .int .i32 imm], .int .u32 (a : Nat)] W (LdPost B M F R K ⟨t, f, b⟩ W) := by
  have cm := hm.m
  have lt := hm.lt
  have B0 : Below W.heap.size W (W.alloc (.cells #[.int .i64 19, .int .i64 D, .int .i64 A, .int .i64 E, .int .i32 imm] 46)) := (Below.refl _ _).alloc (Nat.le_refl _) _
  have O0 := Lib.hid (Out.of_below (fun j => j = B ∨ j = R) B0)
  have MM := Lib.hid ((hmem.out (Out.of_below (fun _ => False) B0)) id id id)
  have HM := Lib.hid (hm.grown B0)
  have LO := Lib.hid (load_any MM.out hb a 2 ha (by decide))
  rw [hl] at LO
  have gD : (D : Int) < 64 := by omega
  have pD : (0 : Int) ≤ (D : Int) := by omega
  clear hm hmem hl B0
  go_enter Try.func33, Try.ntmps33
  go_wp2_with fail
  refine LO.out.mono ?_
  rintro e w2 ⟨rfl, lk⟩
  have H2 := Lib.hid (HM.out.like lk)
  have M2 := Lib.hid (MM.out.like lk)
  have O2 := Lib.hid (O0.out.trans (lk.out _))
  have c1 : w2.cell? ⟨W.heap.size, 1, none⟩ = some (.int .i64 D) := (lk.cell _).trans (by simp)
  have c0 : w2.cell? ⟨W.heap.size, 0, none⟩ = some (.int .i64 19) := (lk.cell _).trans (by simp)
  clear lk LO MM HM O0 cm
  have ht2 : (t != 0) = true := by simp at ht ⊢; exact ht
  go_wp2_with fail
  go_ret
  exact ⟨rfl, H2.out, M2.out, O2.out⟩

set_option maxRecDepth 100000 in
set_option maxHeartbeats 2000000 in
theorem dov_19 (B M F R D A E : Nat) (imm : Int) (K : Bk) (f : Nat → Int) (b : List Nat) (W : World) (hD : D < 64) (hA : A < 64) (hE : E < 64) (hm : MachV B (some ⟨M, 0, none⟩) f W) (hmem : MemIs M F R K.ff K.rr K.Fb b W) (hb : Banks K.ff K.Fb.length K.rr b.length) (hB : B ≠ M ∧ B ≠ F ∧ B ≠ R) (hf : WordsF f) (n : Nat) (hn : n < 4294967296) (hl : ldR K ⟨19, D, A, E, imm⟩ f b = (n, 0)) :
    Calls Try.prog 20 #[.pointer (some ⟨B, 0, none⟩), .agg #[.int .i64 19, .int .i64 D, .int .i64 A, .int .i64 E, .int .i32 imm]] W (LdPost B M F R K ⟨0, upd f D (sextS (n : Nat) 16), b⟩ W) := by
  have cA := hm.v A hA
  have cE := hm.v E hE
  have lt := hm.lt
  have gA : (A : Int) < 64 := by omega
  have gE : (E : Int) < 64 := by omega
  have pA : (0 : Int) ≤ (A : Int) := by omega
  have pE : (0 : Int) ≤ (E : Int) := by omega
  have AT := Lib.hid (atR_int ⟨19, D, A, E, imm⟩ f)
  simp only [Int.toNat_natCast] at AT
  have B0 : Below W.heap.size W ((W.alloc (.cells #[.int .i64 19, .int .i64 D, .int .i64 A, .int .i64 E, .int .i32 imm] 46)).drew) := ((Below.refl _ _).alloc (Nat.le_refl _) _).drew
  have O0 := Lib.hid (Out.of_below (fun j => j = B ∨ j = R) B0)
  have MM := Lib.hid ((hmem.out (Out.of_below (fun _ => False) B0)) id id id)
  have HM := Lib.hid (hm.grown B0)
  have LO := Lib.hid (ldv_19 B M F R D A E imm K f b _ hD HM.out MM.out hb hB (atR ⟨19, D, A, E, imm⟩ f) n (atR_lt _ _) hn hl)
  clear hm hmem hl B0
  go_enter Try.func20, Try.ntmps20
  go_wp2_with fail
  go_region
  have bx : ∀ j v, (#[.int .i64 19, .int .i64 D, .int .i64 A, .int .i64 E, .int .i32 imm] : Array Value)[j]? = some v → ((W.alloc (.cells #[.int .i64 19, .int .i64 D, .int .i64 A, .int .i64 E, .int .i32 imm] 46)).drew).cell? ⟨W.heap.size, j, none⟩ = some v := fun j v h => by rw [World.cell?_drew, World.cell?_alloc_new]; exact h
  have x0 := bx 0 _ rfl
  have x1 := bx 1 _ rfl
  have x2 := bx 2 _ rfl
  have x3 := bx 3 _ rfl
  have x4 := bx 4 _ rfl
  generalize World.drew (World.alloc _ _) = W1 at *
  clear cA cE bx
  go_wp2_with fail
  rw [← AT.out]
  refine LO.out.mono ?_
  rintro e w2 ⟨rfl, h1, h2, h3⟩
  have H1 := Lib.hid h1
  have H2 := Lib.hid h2
  have H3 := Lib.hid (O0.out.trans h3)
  clear h1 h2 h3 x0 x1 x2 x3 x4
  go_wp2_with fail
  go_ret
  exact ⟨rfl, H1.out, H2.out, H3.out⟩

set_option maxRecDepth 100000 in
set_option maxHeartbeats 2000000 in
theorem dot_19 (B M F R D A E : Nat) (imm : Int) (K : Bk) (f : Nat → Int) (b : List Nat) (W : World) (hD : D < 64) (hA : A < 64) (hE : E < 64) (hm : MachV B (some ⟨M, 0, none⟩) f W) (hmem : MemIs M F R K.ff K.rr K.Fb b W) (hb : Banks K.ff K.Fb.length K.rr b.length) (hB : B ≠ M ∧ B ≠ F ∧ B ≠ R) (hf : WordsF f) (n : Nat) (t : Int) (ht : (t == 0) = false) (hl : ldR K ⟨19, D, A, E, imm⟩ f b = (n, t)) :
    Calls Try.prog 20 #[.pointer (some ⟨B, 0, none⟩), .agg #[.int .i64 19, .int .i64 D, .int .i64 A, .int .i64 E, .int .i32 imm]] W (LdPost B M F R K ⟨t, f, b⟩ W) := by
  have cA := hm.v A hA
  have cE := hm.v E hE
  have lt := hm.lt
  have gA : (A : Int) < 64 := by omega
  have gE : (E : Int) < 64 := by omega
  have pA : (0 : Int) ≤ (A : Int) := by omega
  have pE : (0 : Int) ≤ (E : Int) := by omega
  have AT := Lib.hid (atR_int ⟨19, D, A, E, imm⟩ f)
  simp only [Int.toNat_natCast] at AT
  have B0 : Below W.heap.size W ((W.alloc (.cells #[.int .i64 19, .int .i64 D, .int .i64 A, .int .i64 E, .int .i32 imm] 46)).drew) := ((Below.refl _ _).alloc (Nat.le_refl _) _).drew
  have O0 := Lib.hid (Out.of_below (fun j => j = B ∨ j = R) B0)
  have MM := Lib.hid ((hmem.out (Out.of_below (fun _ => False) B0)) id id id)
  have HM := Lib.hid (hm.grown B0)
  have LO := Lib.hid (ldt_19 B M F R D A E imm K f b _ hD HM.out MM.out hb hB (atR ⟨19, D, A, E, imm⟩ f) n t (atR_lt _ _) ht hl)
  clear hm hmem hl B0
  go_enter Try.func20, Try.ntmps20
  go_wp2_with fail
  go_region
  have bx : ∀ j v, (#[.int .i64 19, .int .i64 D, .int .i64 A, .int .i64 E, .int .i32 imm] : Array Value)[j]? = some v → ((W.alloc (.cells #[.int .i64 19, .int .i64 D, .int .i64 A, .int .i64 E, .int .i32 imm] 46)).drew).cell? ⟨W.heap.size, j, none⟩ = some v := fun j v h => by rw [World.cell?_drew, World.cell?_alloc_new]; exact h
  have x0 := bx 0 _ rfl
  have x1 := bx 1 _ rfl
  have x2 := bx 2 _ rfl
  have x3 := bx 3 _ rfl
  have x4 := bx 4 _ rfl
  generalize World.drew (World.alloc _ _) = W1 at *
  clear cA cE bx
  go_wp2_with fail
  rw [← AT.out]
  refine LO.out.mono ?_
  rintro e w2 ⟨rfl, h1, h2, h3⟩
  have H1 := Lib.hid h1
  have H2 := Lib.hid h2
  have H3 := Lib.hid (O0.out.trans h3)
  clear h1 h2 h3 x0 x1 x2 x3 x4
  go_wp2_with fail
  go_ret
  exact ⟨rfl, H1.out, H2.out, H3.out⟩

set_option maxRecDepth 100000 in
set_option maxHeartbeats 2000000 in
theorem ldv_20 (B M F R D A E : Nat) (imm : Int) (K : Bk) (f : Nat → Int) (b : List Nat) (W : World) (hD : D < 64) (hm : MachV B (some ⟨M, 0, none⟩) f W) (hmem : MemIs M F R K.ff K.rr K.Fb b W) (hb : Banks K.ff K.Fb.length K.rr b.length) (hB : B ≠ M ∧ B ≠ F ∧ B ≠ R) (a n : Nat) (ha : a < 4294967296) (hn : n < 4294967296) (hl : loadS K.ff K.Fb.length K.rr b.length K.Fb b a 4 = (n, 0)) :
    Calls Try.prog 33 #[.pointer (some ⟨B, 0, none⟩), .agg #[.int .i64 20, .int .i64 D, .int .i64 A, .int .i64 E, .int .i32 imm], .int .u32 (a : Nat)] W (LdPost B M F R K ⟨0, upd f D (sextS (n : Nat) 32), b⟩ W) := by
  have cm := hm.m
  have lt := hm.lt
  have B0 : Below W.heap.size W (W.alloc (.cells #[.int .i64 20, .int .i64 D, .int .i64 A, .int .i64 E, .int .i32 imm] 46)) := (Below.refl _ _).alloc (Nat.le_refl _) _
  have O0 := Lib.hid (Out.of_below (fun j => j = B ∨ j = R) B0)
  have MM := Lib.hid ((hmem.out (Out.of_below (fun _ => False) B0)) id id id)
  have HM := Lib.hid (hm.grown B0)
  have LO := Lib.hid (load_any MM.out hb a 4 ha (by decide))
  rw [hl] at LO
  have gD : (D : Int) < 64 := by omega
  have pD : (0 : Int) ≤ (D : Int) := by omega
  clear hm hmem hl B0
  go_enter Try.func33, Try.ntmps33
  go_wp2_with fail
  refine LO.out.mono ?_
  rintro e w2 ⟨rfl, lk⟩
  have H2 := Lib.hid (HM.out.like lk)
  have M2 := Lib.hid (MM.out.like lk)
  have O2 := Lib.hid (O0.out.trans (lk.out _))
  have c1 : w2.cell? ⟨W.heap.size, 1, none⟩ = some (.int .i64 D) := (lk.cell _).trans (by simp)
  have c0 : w2.cell? ⟨W.heap.size, 0, none⟩ = some (.int .i64 20) := (lk.cell _).trans (by simp)
  clear lk LO MM HM O0 cm
  have SX := Lib.hid (fun w => num_sext (n : Nat) 32 w (by omega) (by omega))
  have cD := H2.out.v D hD
  have zD := H2.out.fz D (by omega)
  go_wp2_with fail
  refine (SX.out _).mono ?_
  rintro e w3 ⟨rfl, rfl⟩
  go_wp2_with fail
  go_region
  have M3 := Lib.hid ((machV_set (x := sextS (n : Nat) 32) H2.out hD).drew)
  have O3 := Lib.hid (show Out (fun j => j = B ∨ j = R) W (w2.setCell ⟨B, D, none⟩ (.int .u32 (sextS (n : Nat) 32))).drew from (O2.out.trans ((out_setB B D _ w2).mono (fun j h => .inl h))).trans (Out.of_below _ ((Below.refl _ _).drew)))
  have N3 := Lib.hid (show MemIs M F R K.ff K.rr K.Fb b (w2.setCell ⟨B, D, none⟩ (.int .u32 (sextS (n : Nat) 32))).drew from (M2.out.out (out_setB B D _ w2) (fun e => hB.1 e.symm) (fun e => hB.2.1 e.symm) (fun e => hB.2.2 e.symm)).out (Out.of_below (fun _ => False) ((Below.refl _ _).drew)) id id id)
  generalize World.drew (World.setCell _ _ _) = W3 at *
  clear c0 c1 cD zD
  go_wp2_with fail
  go_ret
  exact ⟨rfl, M3.out, N3.out, O3.out⟩

set_option maxRecDepth 100000 in
set_option maxHeartbeats 2000000 in
theorem ldt_20 (B M F R D A E : Nat) (imm : Int) (K : Bk) (f : Nat → Int) (b : List Nat) (W : World) (hD : D < 64) (hm : MachV B (some ⟨M, 0, none⟩) f W) (hmem : MemIs M F R K.ff K.rr K.Fb b W) (hb : Banks K.ff K.Fb.length K.rr b.length) (hB : B ≠ M ∧ B ≠ F ∧ B ≠ R) (a n : Nat) (t : Int) (ha : a < 4294967296) (ht : (t == 0) = false) (hl : loadS K.ff K.Fb.length K.rr b.length K.Fb b a 4 = (n, t)) :
    Calls Try.prog 33 #[.pointer (some ⟨B, 0, none⟩), .agg #[.int .i64 20, .int .i64 D, .int .i64 A, .int .i64 E, .int .i32 imm], .int .u32 (a : Nat)] W (LdPost B M F R K ⟨t, f, b⟩ W) := by
  have cm := hm.m
  have lt := hm.lt
  have B0 : Below W.heap.size W (W.alloc (.cells #[.int .i64 20, .int .i64 D, .int .i64 A, .int .i64 E, .int .i32 imm] 46)) := (Below.refl _ _).alloc (Nat.le_refl _) _
  have O0 := Lib.hid (Out.of_below (fun j => j = B ∨ j = R) B0)
  have MM := Lib.hid ((hmem.out (Out.of_below (fun _ => False) B0)) id id id)
  have HM := Lib.hid (hm.grown B0)
  have LO := Lib.hid (load_any MM.out hb a 4 ha (by decide))
  rw [hl] at LO
  have gD : (D : Int) < 64 := by omega
  have pD : (0 : Int) ≤ (D : Int) := by omega
  clear hm hmem hl B0
  go_enter Try.func33, Try.ntmps33
  go_wp2_with fail
  refine LO.out.mono ?_
  rintro e w2 ⟨rfl, lk⟩
  have H2 := Lib.hid (HM.out.like lk)
  have M2 := Lib.hid (MM.out.like lk)
  have O2 := Lib.hid (O0.out.trans (lk.out _))
  have c1 : w2.cell? ⟨W.heap.size, 1, none⟩ = some (.int .i64 D) := (lk.cell _).trans (by simp)
  have c0 : w2.cell? ⟨W.heap.size, 0, none⟩ = some (.int .i64 20) := (lk.cell _).trans (by simp)
  clear lk LO MM HM O0 cm
  have ht2 : (t != 0) = true := by simp at ht ⊢; exact ht
  go_wp2_with fail
  go_ret
  exact ⟨rfl, H2.out, M2.out, O2.out⟩

set_option maxRecDepth 100000 in
set_option maxHeartbeats 2000000 in
theorem dov_20 (B M F R D A E : Nat) (imm : Int) (K : Bk) (f : Nat → Int) (b : List Nat) (W : World) (hD : D < 64) (hA : A < 64) (hE : E < 64) (hm : MachV B (some ⟨M, 0, none⟩) f W) (hmem : MemIs M F R K.ff K.rr K.Fb b W) (hb : Banks K.ff K.Fb.length K.rr b.length) (hB : B ≠ M ∧ B ≠ F ∧ B ≠ R) (hf : WordsF f) (n : Nat) (hn : n < 4294967296) (hl : ldR K ⟨20, D, A, E, imm⟩ f b = (n, 0)) :
    Calls Try.prog 20 #[.pointer (some ⟨B, 0, none⟩), .agg #[.int .i64 20, .int .i64 D, .int .i64 A, .int .i64 E, .int .i32 imm]] W (LdPost B M F R K ⟨0, upd f D (sextS (n : Nat) 32), b⟩ W) := by
  have cA := hm.v A hA
  have cE := hm.v E hE
  have lt := hm.lt
  have gA : (A : Int) < 64 := by omega
  have gE : (E : Int) < 64 := by omega
  have pA : (0 : Int) ≤ (A : Int) := by omega
  have pE : (0 : Int) ≤ (E : Int) := by omega
  have AT := Lib.hid (atR_int ⟨20, D, A, E, imm⟩ f)
  simp only [Int.toNat_natCast] at AT
  have B0 : Below W.heap.size W ((W.alloc (.cells #[.int .i64 20, .int .i64 D, .int .i64 A, .int .i64 E, .int .i32 imm] 46)).drew) := ((Below.refl _ _).alloc (Nat.le_refl _) _).drew
  have O0 := Lib.hid (Out.of_below (fun j => j = B ∨ j = R) B0)
  have MM := Lib.hid ((hmem.out (Out.of_below (fun _ => False) B0)) id id id)
  have HM := Lib.hid (hm.grown B0)
  have LO := Lib.hid (ldv_20 B M F R D A E imm K f b _ hD HM.out MM.out hb hB (atR ⟨20, D, A, E, imm⟩ f) n (atR_lt _ _) hn hl)
  clear hm hmem hl B0
  go_enter Try.func20, Try.ntmps20
  go_wp2_with fail
  go_region
  have bx : ∀ j v, (#[.int .i64 20, .int .i64 D, .int .i64 A, .int .i64 E, .int .i32 imm] : Array Value)[j]? = some v → ((W.alloc (.cells #[.int .i64 20, .int .i64 D, .int .i64 A, .int .i64 E, .int .i32 imm] 46)).drew).cell? ⟨W.heap.size, j, none⟩ = some v := fun j v h => by rw [World.cell?_drew, World.cell?_alloc_new]; exact h
  have x0 := bx 0 _ rfl
  have x1 := bx 1 _ rfl
  have x2 := bx 2 _ rfl
  have x3 := bx 3 _ rfl
  have x4 := bx 4 _ rfl
  generalize World.drew (World.alloc _ _) = W1 at *
  clear cA cE bx
  go_wp2_with fail
  rw [← AT.out]
  refine LO.out.mono ?_
  rintro e w2 ⟨rfl, h1, h2, h3⟩
  have H1 := Lib.hid h1
  have H2 := Lib.hid h2
  have H3 := Lib.hid (O0.out.trans h3)
  clear h1 h2 h3 x0 x1 x2 x3 x4
  go_wp2_with fail
  go_ret
  exact ⟨rfl, H1.out, H2.out, H3.out⟩

set_option maxRecDepth 100000 in
set_option maxHeartbeats 2000000 in
theorem dot_20 (B M F R D A E : Nat) (imm : Int) (K : Bk) (f : Nat → Int) (b : List Nat) (W : World) (hD : D < 64) (hA : A < 64) (hE : E < 64) (hm : MachV B (some ⟨M, 0, none⟩) f W) (hmem : MemIs M F R K.ff K.rr K.Fb b W) (hb : Banks K.ff K.Fb.length K.rr b.length) (hB : B ≠ M ∧ B ≠ F ∧ B ≠ R) (hf : WordsF f) (n : Nat) (t : Int) (ht : (t == 0) = false) (hl : ldR K ⟨20, D, A, E, imm⟩ f b = (n, t)) :
    Calls Try.prog 20 #[.pointer (some ⟨B, 0, none⟩), .agg #[.int .i64 20, .int .i64 D, .int .i64 A, .int .i64 E, .int .i32 imm]] W (LdPost B M F R K ⟨t, f, b⟩ W) := by
  have cA := hm.v A hA
  have cE := hm.v E hE
  have lt := hm.lt
  have gA : (A : Int) < 64 := by omega
  have gE : (E : Int) < 64 := by omega
  have pA : (0 : Int) ≤ (A : Int) := by omega
  have pE : (0 : Int) ≤ (E : Int) := by omega
  have AT := Lib.hid (atR_int ⟨20, D, A, E, imm⟩ f)
  simp only [Int.toNat_natCast] at AT
  have B0 : Below W.heap.size W ((W.alloc (.cells #[.int .i64 20, .int .i64 D, .int .i64 A, .int .i64 E, .int .i32 imm] 46)).drew) := ((Below.refl _ _).alloc (Nat.le_refl _) _).drew
  have O0 := Lib.hid (Out.of_below (fun j => j = B ∨ j = R) B0)
  have MM := Lib.hid ((hmem.out (Out.of_below (fun _ => False) B0)) id id id)
  have HM := Lib.hid (hm.grown B0)
  have LO := Lib.hid (ldt_20 B M F R D A E imm K f b _ hD HM.out MM.out hb hB (atR ⟨20, D, A, E, imm⟩ f) n t (atR_lt _ _) ht hl)
  clear hm hmem hl B0
  go_enter Try.func20, Try.ntmps20
  go_wp2_with fail
  go_region
  have bx : ∀ j v, (#[.int .i64 20, .int .i64 D, .int .i64 A, .int .i64 E, .int .i32 imm] : Array Value)[j]? = some v → ((W.alloc (.cells #[.int .i64 20, .int .i64 D, .int .i64 A, .int .i64 E, .int .i32 imm] 46)).drew).cell? ⟨W.heap.size, j, none⟩ = some v := fun j v h => by rw [World.cell?_drew, World.cell?_alloc_new]; exact h
  have x0 := bx 0 _ rfl
  have x1 := bx 1 _ rfl
  have x2 := bx 2 _ rfl
  have x3 := bx 3 _ rfl
  have x4 := bx 4 _ rfl
  generalize World.drew (World.alloc _ _) = W1 at *
  clear cA cE bx
  go_wp2_with fail
  rw [← AT.out]
  refine LO.out.mono ?_
  rintro e w2 ⟨rfl, h1, h2, h3⟩
  have H1 := Lib.hid h1
  have H2 := Lib.hid h2
  have H3 := Lib.hid (O0.out.trans h3)
  clear h1 h2 h3 x0 x1 x2 x3 x4
  go_wp2_with fail
  go_ret
  exact ⟨rfl, H1.out, H2.out, H3.out⟩

set_option maxRecDepth 100000 in
set_option maxHeartbeats 2000000 in
theorem dos_21 (B M F R D A E : Nat) (imm : Int) (K : Bk) (f : Nat → Int) (b : List Nat) (W : World) (hD : D < 64) (hA : A < 64) (hE : E < 64) (hm : MachV B (some ⟨M, 0, none⟩) f W) (hmem : MemIs M F R K.ff K.rr K.Fb b W) (hb : Banks K.ff K.Fb.length K.rr b.length) (hB : B ≠ M ∧ B ≠ F ∧ B ≠ R) (hf : WordsF f) :
    Calls Try.prog 20 #[.pointer (some ⟨B, 0, none⟩), .agg #[.int .i64 21, .int .i64 D, .int .i64 A, .int .i64 E, .int .i32 imm]] W (LdPost B M F R K ⟨stR K ⟨21, D, A, E, imm⟩ f b, f, ramS K.rr b.length b (atR ⟨21, D, A, E, imm⟩ f) 1 (f E).toNat⟩ W) := by
  have cA := hm.v A hA
  have cE := hm.v E hE
  have cm := hm.m
  have lt := hm.lt
  have fE := hf E
  have gA : (A : Int) < 64 := by omega
  have gE : (E : Int) < 64 := by omega
  have pA : (0 : Int) ≤ (A : Int) := by omega
  have pE : (0 : Int) ≤ (E : Int) := by omega
  have AT := Lib.hid (atR_int ⟨21, D, A, E, imm⟩ f)
  simp only [Int.toNat_natCast] at AT
  have FE := Lib.hid (show ((f E).toNat : Int) = f E by omega)
  have B0 : Below W.heap.size W ((W.alloc (.cells #[.int .i64 21, .int .i64 D, .int .i64 A, .int .i64 E, .int .i32 imm] 46)).drew) := ((Below.refl _ _).alloc (Nat.le_refl _) _).drew
  have O0 := Lib.hid (Out.of_below (fun j => j = B ∨ j = R) B0)
  have MM := Lib.hid ((hmem.out (Out.of_below (fun _ => False) B0)) id id id)
  have HM := Lib.hid (hm.grown B0)
  have ST := Lib.hid (store_any MM.out hb (atR ⟨21, D, A, E, imm⟩ f) 1 (f E).toNat (atR_lt _ _) (by decide) (by omega))
  clear hm hmem B0 fE
  go_enter Try.func20, Try.ntmps20
  go_wp2_with fail
  go_region
  have bx : ∀ j v, (#[.int .i64 21, .int .i64 D, .int .i64 A, .int .i64 E, .int .i32 imm] : Array Value)[j]? = some v → ((W.alloc (.cells #[.int .i64 21, .int .i64 D, .int .i64 A, .int .i64 E, .int .i32 imm] 46)).drew).cell? ⟨W.heap.size, j, none⟩ = some v := fun j v h => by rw [World.cell?_drew, World.cell?_alloc_new]; exact h
  have x0 := bx 0 _ rfl
  have xm : ((W.alloc (.cells #[.int .i64 21, .int .i64 D, .int .i64 A, .int .i64 E, .int .i32 imm] 46)).drew).cell? ⟨B, 64, none⟩ = some (.pointer (some ⟨M, 0, none⟩)) := HM.out.m
  generalize World.drew (World.alloc _ _) = W1 at *
  clear cA cE bx cm
  go_wp2_with fail
  rw [← AT.out, ← FE.out]
  refine ST.out.mono ?_
  rintro e w2 ⟨rfl, h2, h3⟩
  have H1 := Lib.hid (HM.out.out h3 hB.2.2)
  have H2 := Lib.hid h2
  have H3 := Lib.hid (O0.out.trans (h3.mono (fun j h => .inr h)))
  clear h2 h3 x0 xm
  go_wp2_with fail
  go_ret
  exact ⟨rfl, H1.out, H2.out, H3.out⟩

set_option maxRecDepth 100000 in
set_option maxHeartbeats 2000000 in
theorem dos_22 (B M F R D A E : Nat) (imm : Int) (K : Bk) (f : Nat → Int) (b : List Nat) (W : World) (hD : D < 64) (hA : A < 64) (hE : E < 64) (hm : MachV B (some ⟨M, 0, none⟩) f W) (hmem : MemIs M F R K.ff K.rr K.Fb b W) (hb : Banks K.ff K.Fb.length K.rr b.length) (hB : B ≠ M ∧ B ≠ F ∧ B ≠ R) (hf : WordsF f) :
    Calls Try.prog 20 #[.pointer (some ⟨B, 0, none⟩), .agg #[.int .i64 22, .int .i64 D, .int .i64 A, .int .i64 E, .int .i32 imm]] W (LdPost B M F R K ⟨stR K ⟨22, D, A, E, imm⟩ f b, f, ramS K.rr b.length b (atR ⟨22, D, A, E, imm⟩ f) 4 (f E).toNat⟩ W) := by
  have cA := hm.v A hA
  have cE := hm.v E hE
  have cm := hm.m
  have lt := hm.lt
  have fE := hf E
  have gA : (A : Int) < 64 := by omega
  have gE : (E : Int) < 64 := by omega
  have pA : (0 : Int) ≤ (A : Int) := by omega
  have pE : (0 : Int) ≤ (E : Int) := by omega
  have AT := Lib.hid (atR_int ⟨22, D, A, E, imm⟩ f)
  simp only [Int.toNat_natCast] at AT
  have FE := Lib.hid (show ((f E).toNat : Int) = f E by omega)
  have B0 : Below W.heap.size W ((W.alloc (.cells #[.int .i64 22, .int .i64 D, .int .i64 A, .int .i64 E, .int .i32 imm] 46)).drew) := ((Below.refl _ _).alloc (Nat.le_refl _) _).drew
  have O0 := Lib.hid (Out.of_below (fun j => j = B ∨ j = R) B0)
  have MM := Lib.hid ((hmem.out (Out.of_below (fun _ => False) B0)) id id id)
  have HM := Lib.hid (hm.grown B0)
  have ST := Lib.hid (store_any MM.out hb (atR ⟨22, D, A, E, imm⟩ f) 4 (f E).toNat (atR_lt _ _) (by decide) (by omega))
  clear hm hmem B0 fE
  go_enter Try.func20, Try.ntmps20
  go_wp2_with fail
  go_region
  have bx : ∀ j v, (#[.int .i64 22, .int .i64 D, .int .i64 A, .int .i64 E, .int .i32 imm] : Array Value)[j]? = some v → ((W.alloc (.cells #[.int .i64 22, .int .i64 D, .int .i64 A, .int .i64 E, .int .i32 imm] 46)).drew).cell? ⟨W.heap.size, j, none⟩ = some v := fun j v h => by rw [World.cell?_drew, World.cell?_alloc_new]; exact h
  have x0 := bx 0 _ rfl
  have xm : ((W.alloc (.cells #[.int .i64 22, .int .i64 D, .int .i64 A, .int .i64 E, .int .i32 imm] 46)).drew).cell? ⟨B, 64, none⟩ = some (.pointer (some ⟨M, 0, none⟩)) := HM.out.m
  generalize World.drew (World.alloc _ _) = W1 at *
  clear cA cE bx cm
  go_wp2_with fail
  rw [← AT.out, ← FE.out]
  refine ST.out.mono ?_
  rintro e w2 ⟨rfl, h2, h3⟩
  have H1 := Lib.hid (HM.out.out h3 hB.2.2)
  have H2 := Lib.hid h2
  have H3 := Lib.hid (O0.out.trans (h3.mono (fun j h => .inr h)))
  clear h2 h3 x0 xm
  go_wp2_with fail
  go_ret
  exact ⟨rfl, H1.out, H2.out, H3.out⟩
end Go.Proofs.Ytlieapapmkbbgaa
