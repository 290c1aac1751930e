/- Contracts of the document's machine for loop programs at loads and stores. -/
import Derived.Test.YtghclbeoabkgcaaLrOa
import Derived.Test.YtghclbeoabkgcaaGD
import Derived.Test.YtghclbeoabkgcaaGA
namespace Go.Proofs.Ytghclbeoabkgcaa
open Go Go.RowKit Pl
set_option linter.unusedVariables false

/-- the machine in its block, with any trap -/
structure MachT (B : Nat) (mp : Option Addr) (F : Int) (f : Nat → Int) (s t : Int) (w : World) : Prop where
  v : ∀ k, k < 64 → w.cell? ⟨B, 1 + k, none⟩ = some (.int .u32 (f k))
  st : w.cell? ⟨B, 65, none⟩ = some (.int .i64 s)
  fu : w.cell? ⟨B, 66, none⟩ = some (.int .i64 F)
  tr : w.cell? ⟨B, 67, none⟩ = some (.int .i64 t)
  fz : ∀ k, k < 68 → w.frozen? ⟨B, k, none⟩ = false
  lt : B < w.heap.size
  m : w.cell? ⟨B, 0, none⟩ = some (.pointer mp)
theorem MachR.t {B : Nat} {mp : Option Addr} {F : Int} {f : Nat → Int} {s : Int} {w : World} (h : MachR B mp F f s w) : MachT B mp F f s 0 w := ⟨h.v, h.st, h.fu, h.tr, h.fz, h.lt, h.m⟩
theorem MachT.r {B : Nat} {mp : Option Addr} {F : Int} {f : Nat → Int} {s : Int} {w : World} (h : MachT B mp F f s 0 w) : MachR B mp F f s w := ⟨h.v, h.st, h.fu, h.tr, h.fz, h.lt, h.m⟩
theorem MachT.out {B : Nat} {mp : Option Addr} {F : Int} {f : Nat → Int} {s t : Int} {S : Nat → Prop} {w w' : World} (h : MachT B mp F f s t w) (ho : Out S w w') (hS : ¬ S B) : MachT B mp F f s t w' :=
  ⟨fun k hk => (ho.cell (by exact h.lt) hS).trans (h.v k hk), (ho.cell (by exact h.lt) hS).trans h.st, (ho.cell (by exact h.lt) hS).trans h.fu, (ho.cell (by exact h.lt) hS).trans h.tr, fun k hk => (World.frozen?_of_block (ho.block _ h.lt hS)).trans (h.fz k hk), Nat.lt_of_lt_of_le h.lt ho.size, (ho.cell (by exact h.lt) hS).trans h.m⟩
theorem machT_trap {B : Nat} {mp : Option Addr} {F : Int} {f : Nat → Int} {s t t' : Int} {w : World} (h : MachT B mp F f s t w) : MachT B mp F f s t' (w.setCell ⟨B, 67, none⟩ (.int .i64 t')) := by
  have ne : ∀ k, k ≠ 67 → (⟨B, 67, none⟩ : Addr) ≠ ⟨B, k, none⟩ := fun k hk e => hk (by cases e; rfl)
  refine ⟨fun k hk => ?_, ?_, ?_, ?_, fun k hk => ?_, ?_, ?_⟩
  · rw [World.cell?_setCell_other (h := ne _ (by omega))]; exact h.v k hk
  · rw [World.cell?_setCell_other (h := ne _ (by omega))]; exact h.st
  · rw [World.cell?_setCell_other (h := ne _ (by omega))]; exact h.fu
  · exact World.cell?_setCell_same _ _ _ h.tr
  · rw [World.frozen?_setCell]; exact h.fz k hk
  · rw [World.size_setCell]; exact h.lt
  · rw [World.cell?_setCell_other (h := ne _ (by omega))]; exact h.m
theorem machT_set {B D : Nat} {mp : Option Addr} {F : Int} {f : Nat → Int} {s t x : Int} {w : World} (h : MachT B mp F f s t w) (hD : D < 64) : MachT B mp F (upd f D x) s t (w.setCell ⟨B, 1 + D, none⟩ (.int .u32 x)) := by
  have ne : ∀ k, k ≠ 1 + D → (⟨B, 1 + D, none⟩ : Addr) ≠ ⟨B, k, none⟩ := fun k hk e => hk (by cases e; rfl)
  refine ⟨fun k hk => ?_, ?_, ?_, ?_, fun k hk => ?_, ?_, ?_⟩
  · unfold upd
    by_cases g : k = D
    · subst g; rw [if_pos rfl]; exact World.cell?_setCell_same _ _ _ (h.v k hk)
    · rw [if_neg g, World.cell?_setCell_other (h := ne _ (by omega))]; exact h.v k hk
  · rw [World.cell?_setCell_other (h := ne _ (by omega))]; exact h.st
  · rw [World.cell?_setCell_other (h := ne _ (by omega))]; exact h.fu
  · rw [World.cell?_setCell_other (h := ne _ (by omega))]; exact h.tr
  · rw [World.frozen?_setCell]; exact h.fz k hk
  · rw [World.size_setCell]; exact h.lt
  · rw [World.cell?_setCell_other (h := ne _ (by omega))]; exact h.m
theorem out_setT (B k : Nat) (v : Value) (W : World) : Out (· = B) W (W.setCell ⟨B, k, none⟩ v) := Out.of_grown (grown_set (World.grownBy.refl W (some B))) (fun j h => by cases h; rfl)
/-- what a load or a store comes to -/
def MemPost (B X Bs : Nat) (F : Int) (K : Bk) (n2 : Nat) (f : Nat → Int) (s t : Int) (L : List (Nat × Nat)) (v : Value) (w : World) (e : Ending) (w' : World) : Prop :=
  e = .returned (.tuple #[]) ∧ MachT B (some ⟨X, 0, none⟩) F f s t w' ∧ (∃ v', RefIs X Bs K.ff K.Fb.length K.rr n2 L v' w' ∧ Fresh v v' w) ∧ Out (fun j => j = B ∨ RS X v j) w w'

set_option maxRecDepth 100000 in
set_option maxHeartbeats 4000000 in
theorem rmld_17 (B X Bs D A E : Nat) (imm F s : Int) (K : Bk) (n2 : Nat) (f : Nat → Int) (L : List (Nat × Nat)) (v : Value) (w : World) (hD : D < 64) (hA : A < 64) (hE : E < 64) (hm : MachR B (some ⟨X, 0, none⟩) F f s w) (hr : RefIs X Bs K.ff K.Fb.length K.rr n2 L v w) (hbk : Banks K.ff K.Fb.length K.rr n2) (hBX : B ≠ X) (hvB : v.ownBlock ≠ some B) (hf : WordsF f) (hs : L.length + 4 ≤ 1000000) (n : Nat) (hn : n < 4294967296) (hl : loadR K.ff K.Fb.length K.rr n2 L (atR ⟨17, D, A, E, imm⟩ f) 1 = (n, 0)) :
    Calls Try.prog 80 #[.pointer (some ⟨B, 0, none⟩), .agg #[.int .i64 17, .int .i64 D, .int .i64 A, .int .i64 E, .int .i32 imm]] w (MemPost B X Bs F K n2 (upd f D (sextS (n : Nat) 8)) s 0 L v w) := by
  have cA := hm.v A hA
  have cE := hm.v E hE
  have cm := hm.m
  have lt := hm.lt
  have fE := hf E
  have gA : (A : Int) < 64 := by omega
  have gE : (E : Int) < 64 := by omega
  have gD : (D : Int) < 64 := by omega
  have pA : (0 : Int) ≤ (A : Int) := by omega
  have pE : (0 : Int) ≤ (E : Int) := by omega
  have pD : (0 : Int) ≤ (D : Int) := by omega
  have AT := Lib.hid (atR_int ⟨17, D, A, E, imm⟩ f)
  simp only [Int.toNat_natCast] at AT
  have B0 : Below w.heap.size w ((w.alloc (.cells #[.int .i64 17, .int .i64 D, .int .i64 A, .int .i64 E, .int .i32 imm] 29)).drew) := ((Below.refl _ _).alloc (Nat.le_refl _) _).drew
  have HB0 := Lib.hid B0
  have HR := Lib.hid (hr.out (Out.of_below (fun _ => False) B0) id (fun _ _ => id))
  have HM := Lib.hid (hm.grown B0)
  have HF := Lib.hid hf
  have FE := Lib.hid (show ((f E).toNat : Int) = f E by omega)
  have FE2 := Lib.hid (show (f E).toNat < 4294967296 by omega)
  clear hm hr B0 hf fE
  go_enter Try.func80, Try.ntmps80
  go_wp2_with fail
  go_region
  have bx : ∀ j v, (#[.int .i64 17, .int .i64 D, .int .i64 A, .int .i64 E, .int .i32 imm] : Array Value)[j]? = some v → ((w.alloc (.cells #[.int .i64 17, .int .i64 D, .int .i64 A, .int .i64 E, .int .i32 imm] 29)).drew).cell? ⟨w.heap.size, j, none⟩ = some v := fun j v h => by rw [World.cell?_drew, World.cell?_alloc_new]; exact h
  have x0 := bx 0 _ rfl
  have x1 := bx 1 _ rfl
  have x3 := bx 3 _ rfl
  have c0 : ((w.alloc (.cells #[.int .i64 17, .int .i64 D, .int .i64 A, .int .i64 E, .int .i32 imm] 29)).drew).cell? ⟨B, 0, none⟩ = some (.pointer (some ⟨X, 0, none⟩)) := HM.out.m
  have cV : ((w.alloc (.cells #[.int .i64 17, .int .i64 D, .int .i64 A, .int .i64 E, .int .i32 imm] 29)).drew).cell? ⟨B, 1 + E, none⟩ = some (.int .u32 (f E)) := HM.out.v E hE
  have z1 : w.heap.size < ((w.alloc (.cells #[.int .i64 17, .int .i64 D, .int .i64 A, .int .i64 E, .int .i32 imm] 29)).drew).heap.size := by simp
  have zB := HM.out.lt
  generalize World.drew (World.alloc _ _) = W at *
  clear cA cE cm bx
  have BV := Lib.hid (show Below W.heap.size W ((W.alloc (.cells #[.int .i64 1, .int .i64 1, .int .i64 2, .int .i64 4] 3)).alloc (.cells #[.bool true, .bool false, .bool true, .bool false] 4)) from ((Below.refl _ _).alloc (Nat.le_refl _) _).alloc (by simp) _)
  have HV := Lib.hid (HR.out.out (Out.of_below (fun _ => False) BV.out) id (fun _ _ => id))
  have MV := Lib.hid (HM.out.grown BV.out)
  have RW := Lib.hid (HV.out.out (Out.of_below (fun _ => False) (Below.refl (((W.alloc (.cells #[.int .i64 1, .int .i64 1, .int .i64 2, .int .i64 4] 3)).alloc (.cells #[.bool true, .bool false, .bool true, .bool false] 4))).heap.size _).drew) id (fun _ _ => id))
  have LO := Lib.hid (rload_any RW.out hbk (atR ⟨17, D, A, E, imm⟩ f) 1 (atR_lt _ _) (by decide))
  rw [hl] at LO
  have y0 : (((W.alloc (.cells #[.int .i64 1, .int .i64 1, .int .i64 2, .int .i64 4] 3)).alloc (.cells #[.bool true, .bool false, .bool true, .bool false] 4))).cell? ⟨w.heap.size, 0, none⟩ = some (.int .i64 17) := (BV.out.cell (by exact z1)).trans x0
  have y1 : (((W.alloc (.cells #[.int .i64 1, .int .i64 1, .int .i64 2, .int .i64 4] 3)).alloc (.cells #[.bool true, .bool false, .bool true, .bool false] 4))).cell? ⟨w.heap.size, 1, none⟩ = some (.int .i64 D) := (BV.out.cell (by exact z1)).trans x1
  have e0 : (((W.alloc (.cells #[.int .i64 1, .int .i64 1, .int .i64 2, .int .i64 4] 3)).alloc (.cells #[.bool true, .bool false, .bool true, .bool false] 4))).cell? ⟨B, 0, none⟩ = some (.pointer (some ⟨X, 0, none⟩)) := (BV.out.cell (by exact zB)).trans c0
  have i0 : (((W.alloc (.cells #[.int .i64 1, .int .i64 1, .int .i64 2, .int .i64 4] 3)).alloc (.cells #[.bool true, .bool false, .bool true, .bool false] 4))).cell? ⟨W.heap.size, 0, none⟩ = some (.int .i64 1) := by rw [World.cell?_alloc_past _ _ _ (by simp), World.cell?_alloc_new]; rfl
  have s0 : (((W.alloc (.cells #[.int .i64 1, .int .i64 1, .int .i64 2, .int .i64 4] 3)).alloc (.cells #[.bool true, .bool false, .bool true, .bool false] 4))).cell? ⟨W.heap.size + 1, 0, none⟩ = some (.bool true) := by
    have e : (W.alloc (.cells #[.int .i64 1, .int .i64 1, .int .i64 2, .int .i64 4] 3)).heap.size = W.heap.size + 1 := by simp
    rw [← e, World.cell?_alloc_new]; rfl
  have wk : IntKind.i64.wrap 0 = 0 := by decide
  clear hl c0 cV x3
  go_wp2_with fail
  refine wp_region_held_drew (S := (fun w' => w'.cell? ⟨w.heap.size, 0, none⟩ = some (.int .i64 17) ∧ w'.cell? ⟨B, 0, none⟩ = some (.pointer (some ⟨X, 0, none⟩)) ∧ w'.cell? ⟨W.heap.size, 0, none⟩ = some (.int .i64 1))) (by kernel_rfl) (by exact ⟨y0, e0, i0⟩) (fun hHeld => ?_)
  refine wpAnyH_take (i := 0) (oi := _) (v := ?v0) rfl (by kernel_rfl) (by kernel_rfl) (by kernel_rfl) (fun _ _ _ h => h) (Or.inl ⟨by rfl, ?y0⟩) hHeld ?r0
  case y0 => (intro wq hSw; (try dsimp only at hSw); go_simp; try with_reducible rfl)
  try simp only [Act.put, List.getElem_toArray, List.getElem_cons_zero, List.setIfInBounds_toArray, List.set_cons_zero, List.set_cons_succ]
  refine wpAnyH_take (i := 1) (oi := _) (v := ?v1) rfl (by kernel_rfl) (by kernel_rfl) (by kernel_rfl) (fun _ _ _ h => h) (Or.inl ⟨by rfl, ?y1⟩) hHeld ?r1
  case y1 => (intro wq hSw; (try dsimp only at hSw); go_simp; try with_reducible rfl)
  try simp only [Act.put, List.getElem_toArray, List.getElem_cons_zero, List.getElem_cons_succ, List.setIfInBounds_toArray, List.set_cons_zero, List.set_cons_succ]
  refine wpAnyH_take (i := 2) (oi := _) (v := ?v2) rfl (by kernel_rfl) (by kernel_rfl) (by kernel_rfl) (fun _ _ _ h => h) (Or.inl ⟨by rfl, ?y2⟩) hHeld ?r2
  case y2 => (intro wq hSw; (try dsimp only at hSw); go_simp; try with_reducible rfl)
  try simp only [Act.put, List.getElem_toArray, List.getElem_cons_zero, List.getElem_cons_succ, List.setIfInBounds_toArray, List.set_cons_zero, List.set_cons_succ]
  refine wpAnyH_take (i := 3) (oi := _) (v := ?v3) rfl (by kernel_rfl) (by kernel_rfl) (by kernel_rfl) (fun _ _ _ h => h) (Or.inl ⟨by rfl, ?y3⟩) hHeld ?r3
  case y3 => (intro wq hSw; (try dsimp only at hSw); go_simp; try with_reducible rfl)
  try simp only [Act.put, List.getElem_toArray, List.getElem_cons_zero, List.getElem_cons_succ, List.setIfInBounds_toArray, List.set_cons_zero, List.set_cons_succ]
  refine wpAnyH_take (i := 4) (oi := _) (v := ?v4) rfl (by kernel_rfl) (by kernel_rfl) (by kernel_rfl) (fun _ _ _ h => h) (Or.inl ⟨by rfl, ?y4⟩) hHeld ?r4
  case y4 => (intro wq hSw; (try dsimp only at hSw); go_simp; try with_reducible rfl)
  try simp only [Act.put, List.getElem_toArray, List.getElem_cons_zero, List.getElem_cons_succ, List.setIfInBounds_toArray, List.set_cons_zero, List.set_cons_succ]
  refine wpAnyH_take (i := 5) (oi := _) (v := ?v5) rfl (by kernel_rfl) (by kernel_rfl) (by kernel_rfl) (fun _ _ _ h => h) (Or.inl ⟨by rfl, ?y5⟩) hHeld ?r5
  case y5 => (intro wq hSw; (try dsimp only at hSw); go_simp; try with_reducible rfl)
  try simp only [Act.put, List.getElem_toArray, List.getElem_cons_zero, List.getElem_cons_succ, List.setIfInBounds_toArray, List.set_cons_zero, List.set_cons_succ]
  refine wpAnyH_take (i := 6) (oi := _) (v := ?v6) rfl (by kernel_rfl) (by kernel_rfl) (by kernel_rfl) (fun _ _ _ h => h) (Or.inl ⟨by rfl, ?y6⟩) hHeld ?r6
  case y6 => (intro wq hSw; (try dsimp only at hSw); go_simp; try with_reducible rfl)
  try simp only [Act.put, List.getElem_toArray, List.getElem_cons_zero, List.getElem_cons_succ, List.setIfInBounds_toArray, List.set_cons_zero, List.set_cons_succ]
  refine wpAnyH_take (i := 7) (oi := _) (v := ?v7) rfl (by kernel_rfl) (by kernel_rfl) (by kernel_rfl) (fun _ _ _ h => h) (Or.inl ⟨by rfl, ?y7⟩) hHeld ?r7
  case y7 => (intro wq hSw; (try dsimp only at hSw); go_simp; try with_reducible rfl)
  try simp only [Act.put, List.getElem_toArray, List.getElem_cons_zero, List.getElem_cons_succ, List.setIfInBounds_toArray, List.set_cons_zero, List.set_cons_succ]
  refine wpAnyH_take (i := 8) (oi := _) (v := ?v8) rfl (by kernel_rfl) (by kernel_rfl) (by kernel_rfl) (fun _ _ _ h => h) (Or.inl ⟨by rfl, ?y8⟩) hHeld ?r8
  case y8 => (intro wq hSw; (try dsimp only at hSw); go_simp; try with_reducible rfl)
  try simp only [Act.put, List.getElem_toArray, List.getElem_cons_zero, List.getElem_cons_succ, List.setIfInBounds_toArray, List.set_cons_zero, List.set_cons_succ]
  refine wpAnyH_take (i := 9) (oi := _) (v := ?v9) rfl (by kernel_rfl) (by kernel_rfl) (by kernel_rfl) (fun _ _ _ h => h) (Or.inl ⟨by rfl, ?y9⟩) hHeld ?r9
  case y9 => (intro wq hSw; (try dsimp only at hSw); go_simp; try with_reducible rfl)
  try simp only [Act.put, List.getElem_toArray, List.getElem_cons_zero, List.getElem_cons_succ, List.setIfInBounds_toArray, List.set_cons_zero, List.set_cons_succ]
  refine wpAnyH_take (i := 10) (oi := _) (v := ?v10) rfl (by kernel_rfl) (by kernel_rfl) (by kernel_rfl) (fun _ _ _ h => h) (Or.inl ⟨by rfl, ?y10⟩) hHeld ?r10
  case y10 => (intro wq hSw; (try dsimp only at hSw); go_simp; try with_reducible rfl)
  try simp only [Act.put, List.getElem_toArray, List.getElem_cons_zero, List.getElem_cons_succ, List.setIfInBounds_toArray, List.set_cons_zero, List.set_cons_succ]
  refine wpAnyH_ready (rs := [11]) (by kernel_rfl) (by simp) ?_
  refine AllReadyH.cons (o := _) rfl (fun K hK => ?_) AllReadyH.nil
  go_simp
  rw [← AT.out]; refine LO.out.mono ?_; rintro e w9 ⟨rfl, lk⟩
  refine hK.out _ _ ⟨(lk.cell _).trans hHeld.1, (lk.cell _).trans hHeld.2.1, (lk.cell _).trans hHeld.2.2⟩ (fun hHeld2 => ?_)
  clear hK K hHeld
  have hHeld := hHeld2
  clear hHeld2
  try simp only [Act.put, List.getElem_toArray, List.getElem_cons_zero, List.getElem_cons_succ, List.setIfInBounds_toArray, List.set_cons_zero, List.set_cons_succ]
  refine wpAnyH_take (i := 12) (oi := _) (v := ?v12) rfl (by kernel_rfl) (by kernel_rfl) (by kernel_rfl) (fun _ _ _ h => h) (Or.inl ⟨by rfl, ?y12⟩) hHeld ?r12
  case y12 => (intro wq hSw; (try dsimp only at hSw); go_simp; try with_reducible rfl)
  try simp only [Act.put, List.getElem_toArray, List.getElem_cons_zero, List.getElem_cons_succ, List.setIfInBounds_toArray, List.set_cons_zero, List.set_cons_succ]
  refine wpAnyH_take (i := 13) (oi := _) (v := ?v13) rfl (by kernel_rfl) (by kernel_rfl) (by kernel_rfl) (fun _ _ _ h => h) (Or.inl ⟨by rfl, ?y13⟩) hHeld ?r13
  case y13 => (intro wq hSw; (try dsimp only at hSw); go_simp; try with_reducible rfl)
  try simp only [Act.put, List.getElem_toArray, List.getElem_cons_zero, List.getElem_cons_succ, List.setIfInBounds_toArray, List.set_cons_zero, List.set_cons_succ]
  refine wpAnyH_take (i := 14) (oi := _) (v := ?v14) rfl (by kernel_rfl) (by kernel_rfl) (by kernel_rfl) (fun _ _ _ h => h) (Or.inl ⟨by rfl, ?y14⟩) hHeld ?r14
  case y14 => (intro wq hSw; (try dsimp only at hSw); go_simp; try with_reducible rfl)
  try simp only [Act.put, List.getElem_toArray, List.getElem_cons_zero, List.getElem_cons_succ, List.setIfInBounds_toArray, List.set_cons_zero, List.set_cons_succ]
  refine wpAnyH_take (i := 15) (oi := _) (v := ?v15) rfl (by kernel_rfl) (by kernel_rfl) (by kernel_rfl) (fun _ _ _ h => h) (Or.inl ⟨by rfl, ?y15⟩) hHeld ?r15
  case y15 => (intro wq hSw; (try dsimp only at hSw); go_simp; try with_reducible rfl)
  try simp only [Act.put, List.getElem_toArray, List.getElem_cons_zero, List.getElem_cons_succ, List.setIfInBounds_toArray, List.set_cons_zero, List.set_cons_succ]
  refine wpAnyH_take (i := 16) (oi := _) (v := ?v16) rfl (by kernel_rfl) (by kernel_rfl) (by kernel_rfl) (fun _ _ _ h => h) (Or.inl ⟨by rfl, ?y16⟩) hHeld ?r16
  case y16 => (intro wq hSw; (try dsimp only at hSw); go_simp; try with_reducible rfl)
  try simp only [Act.put, List.getElem_toArray, List.getElem_cons_zero, List.getElem_cons_succ, List.setIfInBounds_toArray, List.set_cons_zero, List.set_cons_succ]
  refine wpAnyH_done (by kernel_rfl) ?_ _
  have T9 := Lib.hid ((MV.out.t.out (Out.of_below (fun _ => False) (Below.refl (((W.alloc (.cells #[.int .i64 1, .int .i64 1, .int .i64 2, .int .i64 4] 3)).alloc (.cells #[.bool true, .bool false, .bool true, .bool false] 4))).heap.size _).drew) id).out (lk.out (fun _ => False)) id)
  have R9 := Lib.hid (RW.out.like lk)
  have B9 := Lib.hid (show Below w.heap.size w w9 from lk.2 _ _ ((HB0.out.trans (BV.out.mono HB0.out.size)).drew))
  have k0 : w9.cell? ⟨w.heap.size, 0, none⟩ = some (.int .i64 17) := hHeld.1
  have k1 : w9.cell? ⟨w.heap.size, 1, none⟩ = some (.int .i64 D) := (lk.cell _).trans y1
  have k2 : w9.cell? ⟨W.heap.size, 0, none⟩ = some (.int .i64 1) := hHeld.2.2
  have k3 : w9.cell? ⟨W.heap.size + 1, 0, none⟩ = some (.bool true) := (lk.cell _).trans s0
  have ct := T9.out.tr
  have zt := T9.out.fz 67 (by omega)
  have nW : w.heap.size ≠ W.heap.size := by omega
  have F9 := Lib.hid (show w.heap.size ≤ w9.heap.size from B9.out.size)
  clear lk RW HV MV y0 y1 e0 i0 s0 hHeld x0 x1 HR HM
  have T2 := Lib.hid (machT_trap (t' := 0) T9.out)
  have R2 := Lib.hid (R9.out.out (out_setT B 67 (.int .i64 0) w9) (fun e => hBX e.symm) (fun j hj e => by subst e; exact hvB hj))
  have O2 := Lib.hid (show Out (fun j => j = B ∨ RS X v j) w (w9.setCell ⟨B, 67, none⟩ (.int .i64 0)) from (Out.of_below _ B9.out).trans ((out_setT B 67 _ w9).mono (fun j h => .inl h)))
  have SX := Lib.hid (fun w => ref1_sext (n : Nat) 8 w (by omega) (by omega))
  go_wp2_with fail
  refine (SX.out _).mono ?_
  rintro e w3 ⟨rfl, rfl⟩
  have q1 : (w9.setCell ⟨B, 67, none⟩ (.int .i64 0)).cell? ⟨w.heap.size, 1, none⟩ = some (.int .i64 D) := by rw [World.cell?_setCell_other (h := fun e => by injection e with e1 _ _; omega)]; exact k1
  go_wp2_with fail
  generalize World.setCell _ _ _ = W4 at *
  clear k0 k1 k2 k3 ct zt
  have cD := T2.out.v D hD
  have zD := T2.out.fz (1 + D) (by omega)
  go_region
  have T3 := Lib.hid ((machT_set (x := sextS (n : Nat) 8) T2.out hD).out (Out.of_below (fun _ => False) ((Below.refl _ _).drew)) id)
  have R3 := Lib.hid ((R2.out.out (out_setT B (1 + D) (.int .u32 (sextS (n : Nat) 8)) W4) (fun e => hBX e.symm) (fun j hj e => by subst e; exact hvB hj)).out (Out.of_below (fun _ => False) ((Below.refl _ _).drew)) id (fun _ _ => id))
  have O3 := Lib.hid (show Out (fun j => j = B ∨ RS X v j) w (W4.setCell ⟨B, 1 + D, none⟩ (.int .u32 (sextS (n : Nat) 8))).drew from (O2.out.trans ((out_setT B (1 + D) _ W4).mono (fun j h => .inl h))).trans (Out.of_below _ ((Below.refl _ _).drew)))
  generalize World.drew (World.setCell _ _ _) = W5 at *
  clear cD zD q1
  go_wp2_with fail
  exact Go.Great.bodyPost_end0 (by rfl) (by rfl) ⟨rfl, T3.out, ⟨v, R3.out, .refl _ _⟩, O3.out⟩

set_option maxRecDepth 100000 in
set_option maxHeartbeats 4000000 in
theorem rmlt_17 (B X Bs D A E : Nat) (imm F s : Int) (K : Bk) (n2 : Nat) (f : Nat → Int) (L : List (Nat × Nat)) (v : Value) (w : World) (hD : D < 64) (hA : A < 64) (hE : E < 64) (hm : MachR B (some ⟨X, 0, none⟩) F f s w) (hr : RefIs X Bs K.ff K.Fb.length K.rr n2 L v w) (hbk : Banks K.ff K.Fb.length K.rr n2) (hBX : B ≠ X) (hvB : v.ownBlock ≠ some B) (hf : WordsF f) (hs : L.length + 4 ≤ 1000000) (n : Nat) (t : Int) (ht : (t == 0) = false) (hl : loadR K.ff K.Fb.length K.rr n2 L (atR ⟨17, D, A, E, imm⟩ f) 1 = (n, t)) :
    Calls Try.prog 80 #[.pointer (some ⟨B, 0, none⟩), .agg #[.int .i64 17, .int .i64 D, .int .i64 A, .int .i64 E, .int .i32 imm]] w (MemPost B X Bs F K n2 f s t L v w) := by
  have cA := hm.v A hA
  have cE := hm.v E hE
  have cm := hm.m
  have lt := hm.lt
  have fE := hf E
  have gA : (A : Int) < 64 := by omega
  have gE : (E : Int) < 64 := by omega
  have gD : (D : Int) < 64 := by omega
  have pA : (0 : Int) ≤ (A : Int) := by omega
  have pE : (0 : Int) ≤ (E : Int) := by omega
  have pD : (0 : Int) ≤ (D : Int) := by omega
  have AT := Lib.hid (atR_int ⟨17, D, A, E, imm⟩ f)
  simp only [Int.toNat_natCast] at AT
  have B0 : Below w.heap.size w ((w.alloc (.cells #[.int .i64 17, .int .i64 D, .int .i64 A, .int .i64 E, .int .i32 imm] 29)).drew) := ((Below.refl _ _).alloc (Nat.le_refl _) _).drew
  have HB0 := Lib.hid B0
  have HR := Lib.hid (hr.out (Out.of_below (fun _ => False) B0) id (fun _ _ => id))
  have HM := Lib.hid (hm.grown B0)
  have HF := Lib.hid hf
  have FE := Lib.hid (show ((f E).toNat : Int) = f E by omega)
  have FE2 := Lib.hid (show (f E).toNat < 4294967296 by omega)
  clear hm hr B0 hf fE
  go_enter Try.func80, Try.ntmps80
  go_wp2_with fail
  go_region
  have bx : ∀ j v, (#[.int .i64 17, .int .i64 D, .int .i64 A, .int .i64 E, .int .i32 imm] : Array Value)[j]? = some v → ((w.alloc (.cells #[.int .i64 17, .int .i64 D, .int .i64 A, .int .i64 E, .int .i32 imm] 29)).drew).cell? ⟨w.heap.size, j, none⟩ = some v := fun j v h => by rw [World.cell?_drew, World.cell?_alloc_new]; exact h
  have x0 := bx 0 _ rfl
  have x1 := bx 1 _ rfl
  have x3 := bx 3 _ rfl
  have c0 : ((w.alloc (.cells #[.int .i64 17, .int .i64 D, .int .i64 A, .int .i64 E, .int .i32 imm] 29)).drew).cell? ⟨B, 0, none⟩ = some (.pointer (some ⟨X, 0, none⟩)) := HM.out.m
  have cV : ((w.alloc (.cells #[.int .i64 17, .int .i64 D, .int .i64 A, .int .i64 E, .int .i32 imm] 29)).drew).cell? ⟨B, 1 + E, none⟩ = some (.int .u32 (f E)) := HM.out.v E hE
  have z1 : w.heap.size < ((w.alloc (.cells #[.int .i64 17, .int .i64 D, .int .i64 A, .int .i64 E, .int .i32 imm] 29)).drew).heap.size := by simp
  have zB := HM.out.lt
  generalize World.drew (World.alloc _ _) = W at *
  clear cA cE cm bx
  have BV := Lib.hid (show Below W.heap.size W ((W.alloc (.cells #[.int .i64 1, .int .i64 1, .int .i64 2, .int .i64 4] 3)).alloc (.cells #[.bool true, .bool false, .bool true, .bool false] 4)) from ((Below.refl _ _).alloc (Nat.le_refl _) _).alloc (by simp) _)
  have HV := Lib.hid (HR.out.out (Out.of_below (fun _ => False) BV.out) id (fun _ _ => id))
  have MV := Lib.hid (HM.out.grown BV.out)
  have RW := Lib.hid (HV.out.out (Out.of_below (fun _ => False) (Below.refl (((W.alloc (.cells #[.int .i64 1, .int .i64 1, .int .i64 2, .int .i64 4] 3)).alloc (.cells #[.bool true, .bool false, .bool true, .bool false] 4))).heap.size _).drew) id (fun _ _ => id))
  have LO := Lib.hid (rload_any RW.out hbk (atR ⟨17, D, A, E, imm⟩ f) 1 (atR_lt _ _) (by decide))
  rw [hl] at LO
  have y0 : (((W.alloc (.cells #[.int .i64 1, .int .i64 1, .int .i64 2, .int .i64 4] 3)).alloc (.cells #[.bool true, .bool false, .bool true, .bool false] 4))).cell? ⟨w.heap.size, 0, none⟩ = some (.int .i64 17) := (BV.out.cell (by exact z1)).trans x0
  have y1 : (((W.alloc (.cells #[.int .i64 1, .int .i64 1, .int .i64 2, .int .i64 4] 3)).alloc (.cells #[.bool true, .bool false, .bool true, .bool false] 4))).cell? ⟨w.heap.size, 1, none⟩ = some (.int .i64 D) := (BV.out.cell (by exact z1)).trans x1
  have e0 : (((W.alloc (.cells #[.int .i64 1, .int .i64 1, .int .i64 2, .int .i64 4] 3)).alloc (.cells #[.bool true, .bool false, .bool true, .bool false] 4))).cell? ⟨B, 0, none⟩ = some (.pointer (some ⟨X, 0, none⟩)) := (BV.out.cell (by exact zB)).trans c0
  have i0 : (((W.alloc (.cells #[.int .i64 1, .int .i64 1, .int .i64 2, .int .i64 4] 3)).alloc (.cells #[.bool true, .bool false, .bool true, .bool false] 4))).cell? ⟨W.heap.size, 0, none⟩ = some (.int .i64 1) := by rw [World.cell?_alloc_past _ _ _ (by simp), World.cell?_alloc_new]; rfl
  have s0 : (((W.alloc (.cells #[.int .i64 1, .int .i64 1, .int .i64 2, .int .i64 4] 3)).alloc (.cells #[.bool true, .bool false, .bool true, .bool false] 4))).cell? ⟨W.heap.size + 1, 0, none⟩ = some (.bool true) := by
    have e : (W.alloc (.cells #[.int .i64 1, .int .i64 1, .int .i64 2, .int .i64 4] 3)).heap.size = W.heap.size + 1 := by simp
    rw [← e, World.cell?_alloc_new]; rfl
  have wk : IntKind.i64.wrap 0 = 0 := by decide
  clear hl c0 cV x3
  go_wp2_with fail
  refine wp_region_held_drew (S := (fun w' => w'.cell? ⟨w.heap.size, 0, none⟩ = some (.int .i64 17) ∧ w'.cell? ⟨B, 0, none⟩ = some (.pointer (some ⟨X, 0, none⟩)) ∧ w'.cell? ⟨W.heap.size, 0, none⟩ = some (.int .i64 1))) (by kernel_rfl) (by exact ⟨y0, e0, i0⟩) (fun hHeld => ?_)
  refine wpAnyH_take (i := 0) (oi := _) (v := ?v0) rfl (by kernel_rfl) (by kernel_rfl) (by kernel_rfl) (fun _ _ _ h => h) (Or.inl ⟨by rfl, ?y0⟩) hHeld ?r0
  case y0 => (intro wq hSw; (try dsimp only at hSw); go_simp; try with_reducible rfl)
  try simp only [Act.put, List.getElem_toArray, List.getElem_cons_zero, List.setIfInBounds_toArray, List.set_cons_zero, List.set_cons_succ]
  refine wpAnyH_take (i := 1) (oi := _) (v := ?v1) rfl (by kernel_rfl) (by kernel_rfl) (by kernel_rfl) (fun _ _ _ h => h) (Or.inl ⟨by rfl, ?y1⟩) hHeld ?r1
  case y1 => (intro wq hSw; (try dsimp only at hSw); go_simp; try with_reducible rfl)
  try simp only [Act.put, List.getElem_toArray, List.getElem_cons_zero, List.getElem_cons_succ, List.setIfInBounds_toArray, List.set_cons_zero, List.set_cons_succ]
  refine wpAnyH_take (i := 2) (oi := _) (v := ?v2) rfl (by kernel_rfl) (by kernel_rfl) (by kernel_rfl) (fun _ _ _ h => h) (Or.inl ⟨by rfl, ?y2⟩) hHeld ?r2
  case y2 => (intro wq hSw; (try dsimp only at hSw); go_simp; try with_reducible rfl)
  try simp only [Act.put, List.getElem_toArray, List.getElem_cons_zero, List.getElem_cons_succ, List.setIfInBounds_toArray, List.set_cons_zero, List.set_cons_succ]
  refine wpAnyH_take (i := 3) (oi := _) (v := ?v3) rfl (by kernel_rfl) (by kernel_rfl) (by kernel_rfl) (fun _ _ _ h => h) (Or.inl ⟨by rfl, ?y3⟩) hHeld ?r3
  case y3 => (intro wq hSw; (try dsimp only at hSw); go_simp; try with_reducible rfl)
  try simp only [Act.put, List.getElem_toArray, List.getElem_cons_zero, List.getElem_cons_succ, List.setIfInBounds_toArray, List.set_cons_zero, List.set_cons_succ]
  refine wpAnyH_take (i := 4) (oi := _) (v := ?v4) rfl (by kernel_rfl) (by kernel_rfl) (by kernel_rfl) (fun _ _ _ h => h) (Or.inl ⟨by rfl, ?y4⟩) hHeld ?r4
  case y4 => (intro wq hSw; (try dsimp only at hSw); go_simp; try with_reducible rfl)
  try simp only [Act.put, List.getElem_toArray, List.getElem_cons_zero, List.getElem_cons_succ, List.setIfInBounds_toArray, List.set_cons_zero, List.set_cons_succ]
  refine wpAnyH_take (i := 5) (oi := _) (v := ?v5) rfl (by kernel_rfl) (by kernel_rfl) (by kernel_rfl) (fun _ _ _ h => h) (Or.inl ⟨by rfl, ?y5⟩) hHeld ?r5
  case y5 => (intro wq hSw; (try dsimp only at hSw); go_simp; try with_reducible rfl)
  try simp only [Act.put, List.getElem_toArray, List.getElem_cons_zero, List.getElem_cons_succ, List.setIfInBounds_toArray, List.set_cons_zero, List.set_cons_succ]
  refine wpAnyH_take (i := 6) (oi := _) (v := ?v6) rfl (by kernel_rfl) (by kernel_rfl) (by kernel_rfl) (fun _ _ _ h => h) (Or.inl ⟨by rfl, ?y6⟩) hHeld ?r6
  case y6 => (intro wq hSw; (try dsimp only at hSw); go_simp; try with_reducible rfl)
  try simp only [Act.put, List.getElem_toArray, List.getElem_cons_zero, List.getElem_cons_succ, List.setIfInBounds_toArray, List.set_cons_zero, List.set_cons_succ]
  refine wpAnyH_take (i := 7) (oi := _) (v := ?v7) rfl (by kernel_rfl) (by kernel_rfl) (by kernel_rfl) (fun _ _ _ h => h) (Or.inl ⟨by rfl, ?y7⟩) hHeld ?r7
  case y7 => (intro wq hSw; (try dsimp only at hSw); go_simp; try with_reducible rfl)
  try simp only [Act.put, List.getElem_toArray, List.getElem_cons_zero, List.getElem_cons_succ, List.setIfInBounds_toArray, List.set_cons_zero, List.set_cons_succ]
  refine wpAnyH_take (i := 8) (oi := _) (v := ?v8) rfl (by kernel_rfl) (by kernel_rfl) (by kernel_rfl) (fun _ _ _ h => h) (Or.inl ⟨by rfl, ?y8⟩) hHeld ?r8
  case y8 => (intro wq hSw; (try dsimp only at hSw); go_simp; try with_reducible rfl)
  try simp only [Act.put, List.getElem_toArray, List.getElem_cons_zero, List.getElem_cons_succ, List.setIfInBounds_toArray, List.set_cons_zero, List.set_cons_succ]
  refine wpAnyH_take (i := 9) (oi := _) (v := ?v9) rfl (by kernel_rfl) (by kernel_rfl) (by kernel_rfl) (fun _ _ _ h => h) (Or.inl ⟨by rfl, ?y9⟩) hHeld ?r9
  case y9 => (intro wq hSw; (try dsimp only at hSw); go_simp; try with_reducible rfl)
  try simp only [Act.put, List.getElem_toArray, List.getElem_cons_zero, List.getElem_cons_succ, List.setIfInBounds_toArray, List.set_cons_zero, List.set_cons_succ]
  refine wpAnyH_take (i := 10) (oi := _) (v := ?v10) rfl (by kernel_rfl) (by kernel_rfl) (by kernel_rfl) (fun _ _ _ h => h) (Or.inl ⟨by rfl, ?y10⟩) hHeld ?r10
  case y10 => (intro wq hSw; (try dsimp only at hSw); go_simp; try with_reducible rfl)
  try simp only [Act.put, List.getElem_toArray, List.getElem_cons_zero, List.getElem_cons_succ, List.setIfInBounds_toArray, List.set_cons_zero, List.set_cons_succ]
  refine wpAnyH_ready (rs := [11]) (by kernel_rfl) (by simp) ?_
  refine AllReadyH.cons (o := _) rfl (fun K hK => ?_) AllReadyH.nil
  go_simp
  rw [← AT.out]; refine LO.out.mono ?_; rintro e w9 ⟨rfl, lk⟩
  refine hK.out _ _ ⟨(lk.cell _).trans hHeld.1, (lk.cell _).trans hHeld.2.1, (lk.cell _).trans hHeld.2.2⟩ (fun hHeld2 => ?_)
  clear hK K hHeld
  have hHeld := hHeld2
  clear hHeld2
  try simp only [Act.put, List.getElem_toArray, List.getElem_cons_zero, List.getElem_cons_succ, List.setIfInBounds_toArray, List.set_cons_zero, List.set_cons_succ]
  refine wpAnyH_take (i := 12) (oi := _) (v := ?v12) rfl (by kernel_rfl) (by kernel_rfl) (by kernel_rfl) (fun _ _ _ h => h) (Or.inl ⟨by rfl, ?y12⟩) hHeld ?r12
  case y12 => (intro wq hSw; (try dsimp only at hSw); go_simp; try with_reducible rfl)
  try simp only [Act.put, List.getElem_toArray, List.getElem_cons_zero, List.getElem_cons_succ, List.setIfInBounds_toArray, List.set_cons_zero, List.set_cons_succ]
  refine wpAnyH_take (i := 13) (oi := _) (v := ?v13) rfl (by kernel_rfl) (by kernel_rfl) (by kernel_rfl) (fun _ _ _ h => h) (Or.inl ⟨by rfl, ?y13⟩) hHeld ?r13
  case y13 => (intro wq hSw; (try dsimp only at hSw); go_simp; try with_reducible rfl)
  try simp only [Act.put, List.getElem_toArray, List.getElem_cons_zero, List.getElem_cons_succ, List.setIfInBounds_toArray, List.set_cons_zero, List.set_cons_succ]
  refine wpAnyH_take (i := 14) (oi := _) (v := ?v14) rfl (by kernel_rfl) (by kernel_rfl) (by kernel_rfl) (fun _ _ _ h => h) (Or.inl ⟨by rfl, ?y14⟩) hHeld ?r14
  case y14 => (intro wq hSw; (try dsimp only at hSw); go_simp; try with_reducible rfl)
  try simp only [Act.put, List.getElem_toArray, List.getElem_cons_zero, List.getElem_cons_succ, List.setIfInBounds_toArray, List.set_cons_zero, List.set_cons_succ]
  refine wpAnyH_take (i := 15) (oi := _) (v := ?v15) rfl (by kernel_rfl) (by kernel_rfl) (by kernel_rfl) (fun _ _ _ h => h) (Or.inl ⟨by rfl, ?y15⟩) hHeld ?r15
  case y15 => (intro wq hSw; (try dsimp only at hSw); go_simp; try with_reducible rfl)
  try simp only [Act.put, List.getElem_toArray, List.getElem_cons_zero, List.getElem_cons_succ, List.setIfInBounds_toArray, List.set_cons_zero, List.set_cons_succ]
  refine wpAnyH_take (i := 16) (oi := _) (v := ?v16) rfl (by kernel_rfl) (by kernel_rfl) (by kernel_rfl) (fun _ _ _ h => h) (Or.inl ⟨by rfl, ?y16⟩) hHeld ?r16
  case y16 => (intro wq hSw; (try dsimp only at hSw); go_simp; try with_reducible rfl)
  try simp only [Act.put, List.getElem_toArray, List.getElem_cons_zero, List.getElem_cons_succ, List.setIfInBounds_toArray, List.set_cons_zero, List.set_cons_succ]
  refine wpAnyH_done (by kernel_rfl) ?_ _
  have T9 := Lib.hid ((MV.out.t.out (Out.of_below (fun _ => False) (Below.refl (((W.alloc (.cells #[.int .i64 1, .int .i64 1, .int .i64 2, .int .i64 4] 3)).alloc (.cells #[.bool true, .bool false, .bool true, .bool false] 4))).heap.size _).drew) id).out (lk.out (fun _ => False)) id)
  have R9 := Lib.hid (RW.out.like lk)
  have B9 := Lib.hid (show Below w.heap.size w w9 from lk.2 _ _ ((HB0.out.trans (BV.out.mono HB0.out.size)).drew))
  have k0 : w9.cell? ⟨w.heap.size, 0, none⟩ = some (.int .i64 17) := hHeld.1
  have k1 : w9.cell? ⟨w.heap.size, 1, none⟩ = some (.int .i64 D) := (lk.cell _).trans y1
  have k2 : w9.cell? ⟨W.heap.size, 0, none⟩ = some (.int .i64 1) := hHeld.2.2
  have k3 : w9.cell? ⟨W.heap.size + 1, 0, none⟩ = some (.bool true) := (lk.cell _).trans s0
  have ct := T9.out.tr
  have zt := T9.out.fz 67 (by omega)
  have nW : w.heap.size ≠ W.heap.size := by omega
  have F9 := Lib.hid (show w.heap.size ≤ w9.heap.size from B9.out.size)
  clear lk RW HV MV y0 y1 e0 i0 s0 hHeld x0 x1 HR HM
  have T2 := Lib.hid (machT_trap (t' := t) T9.out)
  have R2 := Lib.hid (R9.out.out (out_setT B 67 (.int .i64 t) w9) (fun e => hBX e.symm) (fun j hj e => by subst e; exact hvB hj))
  have O2 := Lib.hid (show Out (fun j => j = B ∨ RS X v j) w (w9.setCell ⟨B, 67, none⟩ (.int .i64 t)) from (Out.of_below _ B9.out).trans ((out_setT B 67 _ w9).mono (fun j h => .inl h)))
  go_wp2_with fail
  exact Go.Great.bodyPost_end0 (by rfl) (by rfl) ⟨rfl, T2.out, ⟨v, R2.out, .refl _ _⟩, O2.out⟩

set_option maxRecDepth 100000 in
set_option maxHeartbeats 4000000 in
theorem rmld_18 (B X Bs D A E : Nat) (imm F s : Int) (K : Bk) (n2 : Nat) (f : Nat → Int) (L : List (Nat × Nat)) (v : Value) (w : World) (hD : D < 64) (hA : A < 64) (hE : E < 64) (hm : MachR B (some ⟨X, 0, none⟩) F f s w) (hr : RefIs X Bs K.ff K.Fb.length K.rr n2 L v w) (hbk : Banks K.ff K.Fb.length K.rr n2) (hBX : B ≠ X) (hvB : v.ownBlock ≠ some B) (hf : WordsF f) (hs : L.length + 4 ≤ 1000000) (n : Nat) (hn : n < 4294967296) (hl : loadR K.ff K.Fb.length K.rr n2 L (atR ⟨18, D, A, E, imm⟩ f) 1 = (n, 0)) :
    Calls Try.prog 80 #[.pointer (some ⟨B, 0, none⟩), .agg #[.int .i64 18, .int .i64 D, .int .i64 A, .int .i64 E, .int .i32 imm]] w (MemPost B X Bs F K n2 (upd f D ((n : Nat))) s 0 L v w) := by
  have cA := hm.v A hA
  have cE := hm.v E hE
  have cm := hm.m
  have lt := hm.lt
  have fE := hf E
  have gA : (A : Int) < 64 := by omega
  have gE : (E : Int) < 64 := by omega
  have gD : (D : Int) < 64 := by omega
  have pA : (0 : Int) ≤ (A : Int) := by omega
  have pE : (0 : Int) ≤ (E : Int) := by omega
  have pD : (0 : Int) ≤ (D : Int) := by omega
  have AT := Lib.hid (atR_int ⟨18, D, A, E, imm⟩ f)
  simp only [Int.toNat_natCast] at AT
  have B0 : Below w.heap.size w ((w.alloc (.cells #[.int .i64 18, .int .i64 D, .int .i64 A, .int .i64 E, .int .i32 imm] 29)).drew) := ((Below.refl _ _).alloc (Nat.le_refl _) _).drew
  have HB0 := Lib.hid B0
  have HR := Lib.hid (hr.out (Out.of_below (fun _ => False) B0) id (fun _ _ => id))
  have HM := Lib.hid (hm.grown B0)
  have HF := Lib.hid hf
  have FE := Lib.hid (show ((f E).toNat : Int) = f E by omega)
  have FE2 := Lib.hid (show (f E).toNat < 4294967296 by omega)
  clear hm hr B0 hf fE
  go_enter Try.func80, Try.ntmps80
  go_wp2_with fail
  go_region
  have bx : ∀ j v, (#[.int .i64 18, .int .i64 D, .int .i64 A, .int .i64 E, .int .i32 imm] : Array Value)[j]? = some v → ((w.alloc (.cells #[.int .i64 18, .int .i64 D, .int .i64 A, .int .i64 E, .int .i32 imm] 29)).drew).cell? ⟨w.heap.size, j, none⟩ = some v := fun j v h => by rw [World.cell?_drew, World.cell?_alloc_new]; exact h
  have x0 := bx 0 _ rfl
  have x1 := bx 1 _ rfl
  have x3 := bx 3 _ rfl
  have c0 : ((w.alloc (.cells #[.int .i64 18, .int .i64 D, .int .i64 A, .int .i64 E, .int .i32 imm] 29)).drew).cell? ⟨B, 0, none⟩ = some (.pointer (some ⟨X, 0, none⟩)) := HM.out.m
  have cV : ((w.alloc (.cells #[.int .i64 18, .int .i64 D, .int .i64 A, .int .i64 E, .int .i32 imm] 29)).drew).cell? ⟨B, 1 + E, none⟩ = some (.int .u32 (f E)) := HM.out.v E hE
  have z1 : w.heap.size < ((w.alloc (.cells #[.int .i64 18, .int .i64 D, .int .i64 A, .int .i64 E, .int .i32 imm] 29)).drew).heap.size := by simp
  have zB := HM.out.lt
  generalize World.drew (World.alloc _ _) = W at *
  clear cA cE cm bx
  have BV := Lib.hid (show Below W.heap.size W ((W.alloc (.cells #[.int .i64 1, .int .i64 1, .int .i64 2, .int .i64 4] 3)).alloc (.cells #[.bool true, .bool false, .bool true, .bool false] 4)) from ((Below.refl _ _).alloc (Nat.le_refl _) _).alloc (by simp) _)
  have HV := Lib.hid (HR.out.out (Out.of_below (fun _ => False) BV.out) id (fun _ _ => id))
  have MV := Lib.hid (HM.out.grown BV.out)
  have RW := Lib.hid (HV.out.out (Out.of_below (fun _ => False) (Below.refl (((W.alloc (.cells #[.int .i64 1, .int .i64 1, .int .i64 2, .int .i64 4] 3)).alloc (.cells #[.bool true, .bool false, .bool true, .bool false] 4))).heap.size _).drew) id (fun _ _ => id))
  have LO := Lib.hid (rload_any RW.out hbk (atR ⟨18, D, A, E, imm⟩ f) 1 (atR_lt _ _) (by decide))
  rw [hl] at LO
  have y0 : (((W.alloc (.cells #[.int .i64 1, .int .i64 1, .int .i64 2, .int .i64 4] 3)).alloc (.cells #[.bool true, .bool false, .bool true, .bool false] 4))).cell? ⟨w.heap.size, 0, none⟩ = some (.int .i64 18) := (BV.out.cell (by exact z1)).trans x0
  have y1 : (((W.alloc (.cells #[.int .i64 1, .int .i64 1, .int .i64 2, .int .i64 4] 3)).alloc (.cells #[.bool true, .bool false, .bool true, .bool false] 4))).cell? ⟨w.heap.size, 1, none⟩ = some (.int .i64 D) := (BV.out.cell (by exact z1)).trans x1
  have e0 : (((W.alloc (.cells #[.int .i64 1, .int .i64 1, .int .i64 2, .int .i64 4] 3)).alloc (.cells #[.bool true, .bool false, .bool true, .bool false] 4))).cell? ⟨B, 0, none⟩ = some (.pointer (some ⟨X, 0, none⟩)) := (BV.out.cell (by exact zB)).trans c0
  have i0 : (((W.alloc (.cells #[.int .i64 1, .int .i64 1, .int .i64 2, .int .i64 4] 3)).alloc (.cells #[.bool true, .bool false, .bool true, .bool false] 4))).cell? ⟨W.heap.size, 1, none⟩ = some (.int .i64 1) := by rw [World.cell?_alloc_past _ _ _ (by simp), World.cell?_alloc_new]; rfl
  have s0 : (((W.alloc (.cells #[.int .i64 1, .int .i64 1, .int .i64 2, .int .i64 4] 3)).alloc (.cells #[.bool true, .bool false, .bool true, .bool false] 4))).cell? ⟨W.heap.size + 1, 1, none⟩ = some (.bool false) := by
    have e : (W.alloc (.cells #[.int .i64 1, .int .i64 1, .int .i64 2, .int .i64 4] 3)).heap.size = W.heap.size + 1 := by simp
    rw [← e, World.cell?_alloc_new]; rfl
  have wk : IntKind.i64.wrap 1 = 1 := by decide
  clear hl c0 cV x3
  go_wp2_with fail
  refine wp_region_held_drew (S := (fun w' => w'.cell? ⟨w.heap.size, 0, none⟩ = some (.int .i64 18) ∧ w'.cell? ⟨B, 0, none⟩ = some (.pointer (some ⟨X, 0, none⟩)) ∧ w'.cell? ⟨W.heap.size, 1, none⟩ = some (.int .i64 1))) (by kernel_rfl) (by exact ⟨y0, e0, i0⟩) (fun hHeld => ?_)
  refine wpAnyH_take (i := 0) (oi := _) (v := ?v0) rfl (by kernel_rfl) (by kernel_rfl) (by kernel_rfl) (fun _ _ _ h => h) (Or.inl ⟨by rfl, ?y0⟩) hHeld ?r0
  case y0 => (intro wq hSw; (try dsimp only at hSw); go_simp; try with_reducible rfl)
  try simp only [Act.put, List.getElem_toArray, List.getElem_cons_zero, List.setIfInBounds_toArray, List.set_cons_zero, List.set_cons_succ]
  refine wpAnyH_take (i := 1) (oi := _) (v := ?v1) rfl (by kernel_rfl) (by kernel_rfl) (by kernel_rfl) (fun _ _ _ h => h) (Or.inl ⟨by rfl, ?y1⟩) hHeld ?r1
  case y1 => (intro wq hSw; (try dsimp only at hSw); go_simp; try with_reducible rfl)
  try simp only [Act.put, List.getElem_toArray, List.getElem_cons_zero, List.getElem_cons_succ, List.setIfInBounds_toArray, List.set_cons_zero, List.set_cons_succ]
  refine wpAnyH_take (i := 2) (oi := _) (v := ?v2) rfl (by kernel_rfl) (by kernel_rfl) (by kernel_rfl) (fun _ _ _ h => h) (Or.inl ⟨by rfl, ?y2⟩) hHeld ?r2
  case y2 => (intro wq hSw; (try dsimp only at hSw); go_simp; try with_reducible rfl)
  try simp only [Act.put, List.getElem_toArray, List.getElem_cons_zero, List.getElem_cons_succ, List.setIfInBounds_toArray, List.set_cons_zero, List.set_cons_succ]
  refine wpAnyH_take (i := 3) (oi := _) (v := ?v3) rfl (by kernel_rfl) (by kernel_rfl) (by kernel_rfl) (fun _ _ _ h => h) (Or.inl ⟨by rfl, ?y3⟩) hHeld ?r3
  case y3 => (intro wq hSw; (try dsimp only at hSw); go_simp; try with_reducible rfl)
  try simp only [Act.put, List.getElem_toArray, List.getElem_cons_zero, List.getElem_cons_succ, List.setIfInBounds_toArray, List.set_cons_zero, List.set_cons_succ]
  refine wpAnyH_take (i := 4) (oi := _) (v := ?v4) rfl (by kernel_rfl) (by kernel_rfl) (by kernel_rfl) (fun _ _ _ h => h) (Or.inl ⟨by rfl, ?y4⟩) hHeld ?r4
  case y4 => (intro wq hSw; (try dsimp only at hSw); go_simp; try with_reducible rfl)
  try simp only [Act.put, List.getElem_toArray, List.getElem_cons_zero, List.getElem_cons_succ, List.setIfInBounds_toArray, List.set_cons_zero, List.set_cons_succ]
  refine wpAnyH_take (i := 5) (oi := _) (v := ?v5) rfl (by kernel_rfl) (by kernel_rfl) (by kernel_rfl) (fun _ _ _ h => h) (Or.inl ⟨by rfl, ?y5⟩) hHeld ?r5
  case y5 => (intro wq hSw; (try dsimp only at hSw); go_simp; try with_reducible rfl)
  try simp only [Act.put, List.getElem_toArray, List.getElem_cons_zero, List.getElem_cons_succ, List.setIfInBounds_toArray, List.set_cons_zero, List.set_cons_succ]
  refine wpAnyH_take (i := 6) (oi := _) (v := ?v6) rfl (by kernel_rfl) (by kernel_rfl) (by kernel_rfl) (fun _ _ _ h => h) (Or.inl ⟨by rfl, ?y6⟩) hHeld ?r6
  case y6 => (intro wq hSw; (try dsimp only at hSw); go_simp; try with_reducible rfl)
  try simp only [Act.put, List.getElem_toArray, List.getElem_cons_zero, List.getElem_cons_succ, List.setIfInBounds_toArray, List.set_cons_zero, List.set_cons_succ]
  refine wpAnyH_take (i := 7) (oi := _) (v := ?v7) rfl (by kernel_rfl) (by kernel_rfl) (by kernel_rfl) (fun _ _ _ h => h) (Or.inl ⟨by rfl, ?y7⟩) hHeld ?r7
  case y7 => (intro wq hSw; (try dsimp only at hSw); go_simp; try with_reducible rfl)
  try simp only [Act.put, List.getElem_toArray, List.getElem_cons_zero, List.getElem_cons_succ, List.setIfInBounds_toArray, List.set_cons_zero, List.set_cons_succ]
  refine wpAnyH_take (i := 8) (oi := _) (v := ?v8) rfl (by kernel_rfl) (by kernel_rfl) (by kernel_rfl) (fun _ _ _ h => h) (Or.inl ⟨by rfl, ?y8⟩) hHeld ?r8
  case y8 => (intro wq hSw; (try dsimp only at hSw); go_simp; try with_reducible rfl)
  try simp only [Act.put, List.getElem_toArray, List.getElem_cons_zero, List.getElem_cons_succ, List.setIfInBounds_toArray, List.set_cons_zero, List.set_cons_succ]
  refine wpAnyH_take (i := 9) (oi := _) (v := ?v9) rfl (by kernel_rfl) (by kernel_rfl) (by kernel_rfl) (fun _ _ _ h => h) (Or.inl ⟨by rfl, ?y9⟩) hHeld ?r9
  case y9 => (intro wq hSw; (try dsimp only at hSw); go_simp; try with_reducible rfl)
  try simp only [Act.put, List.getElem_toArray, List.getElem_cons_zero, List.getElem_cons_succ, List.setIfInBounds_toArray, List.set_cons_zero, List.set_cons_succ]
  refine wpAnyH_take (i := 10) (oi := _) (v := ?v10) rfl (by kernel_rfl) (by kernel_rfl) (by kernel_rfl) (fun _ _ _ h => h) (Or.inl ⟨by rfl, ?y10⟩) hHeld ?r10
  case y10 => (intro wq hSw; (try dsimp only at hSw); go_simp; try with_reducible rfl)
  try simp only [Act.put, List.getElem_toArray, List.getElem_cons_zero, List.getElem_cons_succ, List.setIfInBounds_toArray, List.set_cons_zero, List.set_cons_succ]
  refine wpAnyH_ready (rs := [11]) (by kernel_rfl) (by simp) ?_
  refine AllReadyH.cons (o := _) rfl (fun K hK => ?_) AllReadyH.nil
  go_simp
  rw [← AT.out]; refine LO.out.mono ?_; rintro e w9 ⟨rfl, lk⟩
  refine hK.out _ _ ⟨(lk.cell _).trans hHeld.1, (lk.cell _).trans hHeld.2.1, (lk.cell _).trans hHeld.2.2⟩ (fun hHeld2 => ?_)
  clear hK K hHeld
  have hHeld := hHeld2
  clear hHeld2
  try simp only [Act.put, List.getElem_toArray, List.getElem_cons_zero, List.getElem_cons_succ, List.setIfInBounds_toArray, List.set_cons_zero, List.set_cons_succ]
  refine wpAnyH_take (i := 12) (oi := _) (v := ?v12) rfl (by kernel_rfl) (by kernel_rfl) (by kernel_rfl) (fun _ _ _ h => h) (Or.inl ⟨by rfl, ?y12⟩) hHeld ?r12
  case y12 => (intro wq hSw; (try dsimp only at hSw); go_simp; try with_reducible rfl)
  try simp only [Act.put, List.getElem_toArray, List.getElem_cons_zero, List.getElem_cons_succ, List.setIfInBounds_toArray, List.set_cons_zero, List.set_cons_succ]
  refine wpAnyH_take (i := 13) (oi := _) (v := ?v13) rfl (by kernel_rfl) (by kernel_rfl) (by kernel_rfl) (fun _ _ _ h => h) (Or.inl ⟨by rfl, ?y13⟩) hHeld ?r13
  case y13 => (intro wq hSw; (try dsimp only at hSw); go_simp; try with_reducible rfl)
  try simp only [Act.put, List.getElem_toArray, List.getElem_cons_zero, List.getElem_cons_succ, List.setIfInBounds_toArray, List.set_cons_zero, List.set_cons_succ]
  refine wpAnyH_take (i := 14) (oi := _) (v := ?v14) rfl (by kernel_rfl) (by kernel_rfl) (by kernel_rfl) (fun _ _ _ h => h) (Or.inl ⟨by rfl, ?y14⟩) hHeld ?r14
  case y14 => (intro wq hSw; (try dsimp only at hSw); go_simp; try with_reducible rfl)
  try simp only [Act.put, List.getElem_toArray, List.getElem_cons_zero, List.getElem_cons_succ, List.setIfInBounds_toArray, List.set_cons_zero, List.set_cons_succ]
  refine wpAnyH_take (i := 15) (oi := _) (v := ?v15) rfl (by kernel_rfl) (by kernel_rfl) (by kernel_rfl) (fun _ _ _ h => h) (Or.inl ⟨by rfl, ?y15⟩) hHeld ?r15
  case y15 => (intro wq hSw; (try dsimp only at hSw); go_simp; try with_reducible rfl)
  try simp only [Act.put, List.getElem_toArray, List.getElem_cons_zero, List.getElem_cons_succ, List.setIfInBounds_toArray, List.set_cons_zero, List.set_cons_succ]
  refine wpAnyH_take (i := 16) (oi := _) (v := ?v16) rfl (by kernel_rfl) (by kernel_rfl) (by kernel_rfl) (fun _ _ _ h => h) (Or.inl ⟨by rfl, ?y16⟩) hHeld ?r16
  case y16 => (intro wq hSw; (try dsimp only at hSw); go_simp; try with_reducible rfl)
  try simp only [Act.put, List.getElem_toArray, List.getElem_cons_zero, List.getElem_cons_succ, List.setIfInBounds_toArray, List.set_cons_zero, List.set_cons_succ]
  refine wpAnyH_done (by kernel_rfl) ?_ _
  have T9 := Lib.hid ((MV.out.t.out (Out.of_below (fun _ => False) (Below.refl (((W.alloc (.cells #[.int .i64 1, .int .i64 1, .int .i64 2, .int .i64 4] 3)).alloc (.cells #[.bool true, .bool false, .bool true, .bool false] 4))).heap.size _).drew) id).out (lk.out (fun _ => False)) id)
  have R9 := Lib.hid (RW.out.like lk)
  have B9 := Lib.hid (show Below w.heap.size w w9 from lk.2 _ _ ((HB0.out.trans (BV.out.mono HB0.out.size)).drew))
  have k0 : w9.cell? ⟨w.heap.size, 0, none⟩ = some (.int .i64 18) := hHeld.1
  have k1 : w9.cell? ⟨w.heap.size, 1, none⟩ = some (.int .i64 D) := (lk.cell _).trans y1
  have k2 : w9.cell? ⟨W.heap.size, 1, none⟩ = some (.int .i64 1) := hHeld.2.2
  have k3 : w9.cell? ⟨W.heap.size + 1, 1, none⟩ = some (.bool false) := (lk.cell _).trans s0
  have ct := T9.out.tr
  have zt := T9.out.fz 67 (by omega)
  have nW : w.heap.size ≠ W.heap.size := by omega
  have F9 := Lib.hid (show w.heap.size ≤ w9.heap.size from B9.out.size)
  clear lk RW HV MV y0 y1 e0 i0 s0 hHeld x0 x1 HR HM
  have T2 := Lib.hid (machT_trap (t' := 0) T9.out)
  have R2 := Lib.hid (R9.out.out (out_setT B 67 (.int .i64 0) w9) (fun e => hBX e.symm) (fun j hj e => by subst e; exact hvB hj))
  have O2 := Lib.hid (show Out (fun j => j = B ∨ RS X v j) w (w9.setCell ⟨B, 67, none⟩ (.int .i64 0)) from (Out.of_below _ B9.out).trans ((out_setT B 67 _ w9).mono (fun j h => .inl h)))
  have q1 : (w9.setCell ⟨B, 67, none⟩ (.int .i64 0)).cell? ⟨w.heap.size, 1, none⟩ = some (.int .i64 D) := by rw [World.cell?_setCell_other (h := fun e => by injection e with e1 _ _; omega)]; exact k1
  go_wp2_with fail
  generalize World.setCell _ _ _ = W4 at *
  clear k0 k1 k2 k3 ct zt
  have cD := T2.out.v D hD
  have zD := T2.out.fz (1 + D) (by omega)
  go_region
  have T3 := Lib.hid ((machT_set (x := (n : Nat)) T2.out hD).out (Out.of_below (fun _ => False) ((Below.refl _ _).drew)) id)
  have R3 := Lib.hid ((R2.out.out (out_setT B (1 + D) (.int .u32 ((n : Nat))) W4) (fun e => hBX e.symm) (fun j hj e => by subst e; exact hvB hj)).out (Out.of_below (fun _ => False) ((Below.refl _ _).drew)) id (fun _ _ => id))
  have O3 := Lib.hid (show Out (fun j => j = B ∨ RS X v j) w (W4.setCell ⟨B, 1 + D, none⟩ (.int .u32 ((n : Nat)))).drew from (O2.out.trans ((out_setT B (1 + D) _ W4).mono (fun j h => .inl h))).trans (Out.of_below _ ((Below.refl _ _).drew)))
  generalize World.drew (World.setCell _ _ _) = W5 at *
  clear cD zD q1
  go_wp2_with fail
  exact Go.Great.bodyPost_end0 (by rfl) (by rfl) ⟨rfl, T3.out, ⟨v, R3.out, .refl _ _⟩, O3.out⟩

set_option maxRecDepth 100000 in
set_option maxHeartbeats 4000000 in
theorem rmlt_18 (B X Bs D A E : Nat) (imm F s : Int) (K : Bk) (n2 : Nat) (f : Nat → Int) (L : List (Nat × Nat)) (v : Value) (w : World) (hD : D < 64) (hA : A < 64) (hE : E < 64) (hm : MachR B (some ⟨X, 0, none⟩) F f s w) (hr : RefIs X Bs K.ff K.Fb.length K.rr n2 L v w) (hbk : Banks K.ff K.Fb.length K.rr n2) (hBX : B ≠ X) (hvB : v.ownBlock ≠ some B) (hf : WordsF f) (hs : L.length + 4 ≤ 1000000) (n : Nat) (t : Int) (ht : (t == 0) = false) (hl : loadR K.ff K.Fb.length K.rr n2 L (atR ⟨18, D, A, E, imm⟩ f) 1 = (n, t)) :
    Calls Try.prog 80 #[.pointer (some ⟨B, 0, none⟩), .agg #[.int .i64 18, .int .i64 D, .int .i64 A, .int .i64 E, .int .i32 imm]] w (MemPost B X Bs F K n2 f s t L v w) := by
  have cA := hm.v A hA
  have cE := hm.v E hE
  have cm := hm.m
  have lt := hm.lt
  have fE := hf E
  have gA : (A : Int) < 64 := by omega
  have gE : (E : Int) < 64 := by omega
  have gD : (D : Int) < 64 := by omega
  have pA : (0 : Int) ≤ (A : Int) := by omega
  have pE : (0 : Int) ≤ (E : Int) := by omega
  have pD : (0 : Int) ≤ (D : Int) := by omega
  have AT := Lib.hid (atR_int ⟨18, D, A, E, imm⟩ f)
  simp only [Int.toNat_natCast] at AT
  have B0 : Below w.heap.size w ((w.alloc (.cells #[.int .i64 18, .int .i64 D, .int .i64 A, .int .i64 E, .int .i32 imm] 29)).drew) := ((Below.refl _ _).alloc (Nat.le_refl _) _).drew
  have HB0 := Lib.hid B0
  have HR := Lib.hid (hr.out (Out.of_below (fun _ => False) B0) id (fun _ _ => id))
  have HM := Lib.hid (hm.grown B0)
  have HF := Lib.hid hf
  have FE := Lib.hid (show ((f E).toNat : Int) = f E by omega)
  have FE2 := Lib.hid (show (f E).toNat < 4294967296 by omega)
  clear hm hr B0 hf fE
  go_enter Try.func80, Try.ntmps80
  go_wp2_with fail
  go_region
  have bx : ∀ j v, (#[.int .i64 18, .int .i64 D, .int .i64 A, .int .i64 E, .int .i32 imm] : Array Value)[j]? = some v → ((w.alloc (.cells #[.int .i64 18, .int .i64 D, .int .i64 A, .int .i64 E, .int .i32 imm] 29)).drew).cell? ⟨w.heap.size, j, none⟩ = some v := fun j v h => by rw [World.cell?_drew, World.cell?_alloc_new]; exact h
  have x0 := bx 0 _ rfl
  have x1 := bx 1 _ rfl
  have x3 := bx 3 _ rfl
  have c0 : ((w.alloc (.cells #[.int .i64 18, .int .i64 D, .int .i64 A, .int .i64 E, .int .i32 imm] 29)).drew).cell? ⟨B, 0, none⟩ = some (.pointer (some ⟨X, 0, none⟩)) := HM.out.m
  have cV : ((w.alloc (.cells #[.int .i64 18, .int .i64 D, .int .i64 A, .int .i64 E, .int .i32 imm] 29)).drew).cell? ⟨B, 1 + E, none⟩ = some (.int .u32 (f E)) := HM.out.v E hE
  have z1 : w.heap.size < ((w.alloc (.cells #[.int .i64 18, .int .i64 D, .int .i64 A, .int .i64 E, .int .i32 imm] 29)).drew).heap.size := by simp
  have zB := HM.out.lt
  generalize World.drew (World.alloc _ _) = W at *
  clear cA cE cm bx
  have BV := Lib.hid (show Below W.heap.size W ((W.alloc (.cells #[.int .i64 1, .int .i64 1, .int .i64 2, .int .i64 4] 3)).alloc (.cells #[.bool true, .bool false, .bool true, .bool false] 4)) from ((Below.refl _ _).alloc (Nat.le_refl _) _).alloc (by simp) _)
  have HV := Lib.hid (HR.out.out (Out.of_below (fun _ => False) BV.out) id (fun _ _ => id))
  have MV := Lib.hid (HM.out.grown BV.out)
  have RW := Lib.hid (HV.out.out (Out.of_below (fun _ => False) (Below.refl (((W.alloc (.cells #[.int .i64 1, .int .i64 1, .int .i64 2, .int .i64 4] 3)).alloc (.cells #[.bool true, .bool false, .bool true, .bool false] 4))).heap.size _).drew) id (fun _ _ => id))
  have LO := Lib.hid (rload_any RW.out hbk (atR ⟨18, D, A, E, imm⟩ f) 1 (atR_lt _ _) (by decide))
  rw [hl] at LO
  have y0 : (((W.alloc (.cells #[.int .i64 1, .int .i64 1, .int .i64 2, .int .i64 4] 3)).alloc (.cells #[.bool true, .bool false, .bool true, .bool false] 4))).cell? ⟨w.heap.size, 0, none⟩ = some (.int .i64 18) := (BV.out.cell (by exact z1)).trans x0
  have y1 : (((W.alloc (.cells #[.int .i64 1, .int .i64 1, .int .i64 2, .int .i64 4] 3)).alloc (.cells #[.bool true, .bool false, .bool true, .bool false] 4))).cell? ⟨w.heap.size, 1, none⟩ = some (.int .i64 D) := (BV.out.cell (by exact z1)).trans x1
  have e0 : (((W.alloc (.cells #[.int .i64 1, .int .i64 1, .int .i64 2, .int .i64 4] 3)).alloc (.cells #[.bool true, .bool false, .bool true, .bool false] 4))).cell? ⟨B, 0, none⟩ = some (.pointer (some ⟨X, 0, none⟩)) := (BV.out.cell (by exact zB)).trans c0
  have i0 : (((W.alloc (.cells #[.int .i64 1, .int .i64 1, .int .i64 2, .int .i64 4] 3)).alloc (.cells #[.bool true, .bool false, .bool true, .bool false] 4))).cell? ⟨W.heap.size, 1, none⟩ = some (.int .i64 1) := by rw [World.cell?_alloc_past _ _ _ (by simp), World.cell?_alloc_new]; rfl
  have s0 : (((W.alloc (.cells #[.int .i64 1, .int .i64 1, .int .i64 2, .int .i64 4] 3)).alloc (.cells #[.bool true, .bool false, .bool true, .bool false] 4))).cell? ⟨W.heap.size + 1, 1, none⟩ = some (.bool false) := by
    have e : (W.alloc (.cells #[.int .i64 1, .int .i64 1, .int .i64 2, .int .i64 4] 3)).heap.size = W.heap.size + 1 := by simp
    rw [← e, World.cell?_alloc_new]; rfl
  have wk : IntKind.i64.wrap 1 = 1 := by decide
  clear hl c0 cV x3
  go_wp2_with fail
  refine wp_region_held_drew (S := (fun w' => w'.cell? ⟨w.heap.size, 0, none⟩ = some (.int .i64 18) ∧ w'.cell? ⟨B, 0, none⟩ = some (.pointer (some ⟨X, 0, none⟩)) ∧ w'.cell? ⟨W.heap.size, 1, none⟩ = some (.int .i64 1))) (by kernel_rfl) (by exact ⟨y0, e0, i0⟩) (fun hHeld => ?_)
  refine wpAnyH_take (i := 0) (oi := _) (v := ?v0) rfl (by kernel_rfl) (by kernel_rfl) (by kernel_rfl) (fun _ _ _ h => h) (Or.inl ⟨by rfl, ?y0⟩) hHeld ?r0
  case y0 => (intro wq hSw; (try dsimp only at hSw); go_simp; try with_reducible rfl)
  try simp only [Act.put, List.getElem_toArray, List.getElem_cons_zero, List.setIfInBounds_toArray, List.set_cons_zero, List.set_cons_succ]
  refine wpAnyH_take (i := 1) (oi := _) (v := ?v1) rfl (by kernel_rfl) (by kernel_rfl) (by kernel_rfl) (fun _ _ _ h => h) (Or.inl ⟨by rfl, ?y1⟩) hHeld ?r1
  case y1 => (intro wq hSw; (try dsimp only at hSw); go_simp; try with_reducible rfl)
  try simp only [Act.put, List.getElem_toArray, List.getElem_cons_zero, List.getElem_cons_succ, List.setIfInBounds_toArray, List.set_cons_zero, List.set_cons_succ]
  refine wpAnyH_take (i := 2) (oi := _) (v := ?v2) rfl (by kernel_rfl) (by kernel_rfl) (by kernel_rfl) (fun _ _ _ h => h) (Or.inl ⟨by rfl, ?y2⟩) hHeld ?r2
  case y2 => (intro wq hSw; (try dsimp only at hSw); go_simp; try with_reducible rfl)
  try simp only [Act.put, List.getElem_toArray, List.getElem_cons_zero, List.getElem_cons_succ, List.setIfInBounds_toArray, List.set_cons_zero, List.set_cons_succ]
  refine wpAnyH_take (i := 3) (oi := _) (v := ?v3) rfl (by kernel_rfl) (by kernel_rfl) (by kernel_rfl) (fun _ _ _ h => h) (Or.inl ⟨by rfl, ?y3⟩) hHeld ?r3
  case y3 => (intro wq hSw; (try dsimp only at hSw); go_simp; try with_reducible rfl)
  try simp only [Act.put, List.getElem_toArray, List.getElem_cons_zero, List.getElem_cons_succ, List.setIfInBounds_toArray, List.set_cons_zero, List.set_cons_succ]
  refine wpAnyH_take (i := 4) (oi := _) (v := ?v4) rfl (by kernel_rfl) (by kernel_rfl) (by kernel_rfl) (fun _ _ _ h => h) (Or.inl ⟨by rfl, ?y4⟩) hHeld ?r4
  case y4 => (intro wq hSw; (try dsimp only at hSw); go_simp; try with_reducible rfl)
  try simp only [Act.put, List.getElem_toArray, List.getElem_cons_zero, List.getElem_cons_succ, List.setIfInBounds_toArray, List.set_cons_zero, List.set_cons_succ]
  refine wpAnyH_take (i := 5) (oi := _) (v := ?v5) rfl (by kernel_rfl) (by kernel_rfl) (by kernel_rfl) (fun _ _ _ h => h) (Or.inl ⟨by rfl, ?y5⟩) hHeld ?r5
  case y5 => (intro wq hSw; (try dsimp only at hSw); go_simp; try with_reducible rfl)
  try simp only [Act.put, List.getElem_toArray, List.getElem_cons_zero, List.getElem_cons_succ, List.setIfInBounds_toArray, List.set_cons_zero, List.set_cons_succ]
  refine wpAnyH_take (i := 6) (oi := _) (v := ?v6) rfl (by kernel_rfl) (by kernel_rfl) (by kernel_rfl) (fun _ _ _ h => h) (Or.inl ⟨by rfl, ?y6⟩) hHeld ?r6
  case y6 => (intro wq hSw; (try dsimp only at hSw); go_simp; try with_reducible rfl)
  try simp only [Act.put, List.getElem_toArray, List.getElem_cons_zero, List.getElem_cons_succ, List.setIfInBounds_toArray, List.set_cons_zero, List.set_cons_succ]
  refine wpAnyH_take (i := 7) (oi := _) (v := ?v7) rfl (by kernel_rfl) (by kernel_rfl) (by kernel_rfl) (fun _ _ _ h => h) (Or.inl ⟨by rfl, ?y7⟩) hHeld ?r7
  case y7 => (intro wq hSw; (try dsimp only at hSw); go_simp; try with_reducible rfl)
  try simp only [Act.put, List.getElem_toArray, List.getElem_cons_zero, List.getElem_cons_succ, List.setIfInBounds_toArray, List.set_cons_zero, List.set_cons_succ]
  refine wpAnyH_take (i := 8) (oi := _) (v := ?v8) rfl (by kernel_rfl) (by kernel_rfl) (by kernel_rfl) (fun _ _ _ h => h) (Or.inl ⟨by rfl, ?y8⟩) hHeld ?r8
  case y8 => (intro wq hSw; (try dsimp only at hSw); go_simp; try with_reducible rfl)
  try simp only [Act.put, List.getElem_toArray, List.getElem_cons_zero, List.getElem_cons_succ, List.setIfInBounds_toArray, List.set_cons_zero, List.set_cons_succ]
  refine wpAnyH_take (i := 9) (oi := _) (v := ?v9) rfl (by kernel_rfl) (by kernel_rfl) (by kernel_rfl) (fun _ _ _ h => h) (Or.inl ⟨by rfl, ?y9⟩) hHeld ?r9
  case y9 => (intro wq hSw; (try dsimp only at hSw); go_simp; try with_reducible rfl)
  try simp only [Act.put, List.getElem_toArray, List.getElem_cons_zero, List.getElem_cons_succ, List.setIfInBounds_toArray, List.set_cons_zero, List.set_cons_succ]
  refine wpAnyH_take (i := 10) (oi := _) (v := ?v10) rfl (by kernel_rfl) (by kernel_rfl) (by kernel_rfl) (fun _ _ _ h => h) (Or.inl ⟨by rfl, ?y10⟩) hHeld ?r10
  case y10 => (intro wq hSw; (try dsimp only at hSw); go_simp; try with_reducible rfl)
  try simp only [Act.put, List.getElem_toArray, List.getElem_cons_zero, List.getElem_cons_succ, List.setIfInBounds_toArray, List.set_cons_zero, List.set_cons_succ]
  refine wpAnyH_ready (rs := [11]) (by kernel_rfl) (by simp) ?_
  refine AllReadyH.cons (o := _) rfl (fun K hK => ?_) AllReadyH.nil
  go_simp
  rw [← AT.out]; refine LO.out.mono ?_; rintro e w9 ⟨rfl, lk⟩
  refine hK.out _ _ ⟨(lk.cell _).trans hHeld.1, (lk.cell _).trans hHeld.2.1, (lk.cell _).trans hHeld.2.2⟩ (fun hHeld2 => ?_)
  clear hK K hHeld
  have hHeld := hHeld2
  clear hHeld2
  try simp only [Act.put, List.getElem_toArray, List.getElem_cons_zero, List.getElem_cons_succ, List.setIfInBounds_toArray, List.set_cons_zero, List.set_cons_succ]
  refine wpAnyH_take (i := 12) (oi := _) (v := ?v12) rfl (by kernel_rfl) (by kernel_rfl) (by kernel_rfl) (fun _ _ _ h => h) (Or.inl ⟨by rfl, ?y12⟩) hHeld ?r12
  case y12 => (intro wq hSw; (try dsimp only at hSw); go_simp; try with_reducible rfl)
  try simp only [Act.put, List.getElem_toArray, List.getElem_cons_zero, List.getElem_cons_succ, List.setIfInBounds_toArray, List.set_cons_zero, List.set_cons_succ]
  refine wpAnyH_take (i := 13) (oi := _) (v := ?v13) rfl (by kernel_rfl) (by kernel_rfl) (by kernel_rfl) (fun _ _ _ h => h) (Or.inl ⟨by rfl, ?y13⟩) hHeld ?r13
  case y13 => (intro wq hSw; (try dsimp only at hSw); go_simp; try with_reducible rfl)
  try simp only [Act.put, List.getElem_toArray, List.getElem_cons_zero, List.getElem_cons_succ, List.setIfInBounds_toArray, List.set_cons_zero, List.set_cons_succ]
  refine wpAnyH_take (i := 14) (oi := _) (v := ?v14) rfl (by kernel_rfl) (by kernel_rfl) (by kernel_rfl) (fun _ _ _ h => h) (Or.inl ⟨by rfl, ?y14⟩) hHeld ?r14
  case y14 => (intro wq hSw; (try dsimp only at hSw); go_simp; try with_reducible rfl)
  try simp only [Act.put, List.getElem_toArray, List.getElem_cons_zero, List.getElem_cons_succ, List.setIfInBounds_toArray, List.set_cons_zero, List.set_cons_succ]
  refine wpAnyH_take (i := 15) (oi := _) (v := ?v15) rfl (by kernel_rfl) (by kernel_rfl) (by kernel_rfl) (fun _ _ _ h => h) (Or.inl ⟨by rfl, ?y15⟩) hHeld ?r15
  case y15 => (intro wq hSw; (try dsimp only at hSw); go_simp; try with_reducible rfl)
  try simp only [Act.put, List.getElem_toArray, List.getElem_cons_zero, List.getElem_cons_succ, List.setIfInBounds_toArray, List.set_cons_zero, List.set_cons_succ]
  refine wpAnyH_take (i := 16) (oi := _) (v := ?v16) rfl (by kernel_rfl) (by kernel_rfl) (by kernel_rfl) (fun _ _ _ h => h) (Or.inl ⟨by rfl, ?y16⟩) hHeld ?r16
  case y16 => (intro wq hSw; (try dsimp only at hSw); go_simp; try with_reducible rfl)
  try simp only [Act.put, List.getElem_toArray, List.getElem_cons_zero, List.getElem_cons_succ, List.setIfInBounds_toArray, List.set_cons_zero, List.set_cons_succ]
  refine wpAnyH_done (by kernel_rfl) ?_ _
  have T9 := Lib.hid ((MV.out.t.out (Out.of_below (fun _ => False) (Below.refl (((W.alloc (.cells #[.int .i64 1, .int .i64 1, .int .i64 2, .int .i64 4] 3)).alloc (.cells #[.bool true, .bool false, .bool true, .bool false] 4))).heap.size _).drew) id).out (lk.out (fun _ => False)) id)
  have R9 := Lib.hid (RW.out.like lk)
  have B9 := Lib.hid (show Below w.heap.size w w9 from lk.2 _ _ ((HB0.out.trans (BV.out.mono HB0.out.size)).drew))
  have k0 : w9.cell? ⟨w.heap.size, 0, none⟩ = some (.int .i64 18) := hHeld.1
  have k1 : w9.cell? ⟨w.heap.size, 1, none⟩ = some (.int .i64 D) := (lk.cell _).trans y1
  have k2 : w9.cell? ⟨W.heap.size, 1, none⟩ = some (.int .i64 1) := hHeld.2.2
  have k3 : w9.cell? ⟨W.heap.size + 1, 1, none⟩ = some (.bool false) := (lk.cell _).trans s0
  have ct := T9.out.tr
  have zt := T9.out.fz 67 (by omega)
  have nW : w.heap.size ≠ W.heap.size := by omega
  have F9 := Lib.hid (show w.heap.size ≤ w9.heap.size from B9.out.size)
  clear lk RW HV MV y0 y1 e0 i0 s0 hHeld x0 x1 HR HM
  have T2 := Lib.hid (machT_trap (t' := t) T9.out)
  have R2 := Lib.hid (R9.out.out (out_setT B 67 (.int .i64 t) w9) (fun e => hBX e.symm) (fun j hj e => by subst e; exact hvB hj))
  have O2 := Lib.hid (show Out (fun j => j = B ∨ RS X v j) w (w9.setCell ⟨B, 67, none⟩ (.int .i64 t)) from (Out.of_below _ B9.out).trans ((out_setT B 67 _ w9).mono (fun j h => .inl h)))
  go_wp2_with fail
  exact Go.Great.bodyPost_end0 (by rfl) (by rfl) ⟨rfl, T2.out, ⟨v, R2.out, .refl _ _⟩, O2.out⟩

set_option maxRecDepth 100000 in
set_option maxHeartbeats 4000000 in
theorem rmld_19 (B X Bs D A E : Nat) (imm F s : Int) (K : Bk) (n2 : Nat) (f : Nat → Int) (L : List (Nat × Nat)) (v : Value) (w : World) (hD : D < 64) (hA : A < 64) (hE : E < 64) (hm : MachR B (some ⟨X, 0, none⟩) F f s w) (hr : RefIs X Bs K.ff K.Fb.length K.rr n2 L v w) (hbk : Banks K.ff K.Fb.length K.rr n2) (hBX : B ≠ X) (hvB : v.ownBlock ≠ some B) (hf : WordsF f) (hs : L.length + 4 ≤ 1000000) (n : Nat) (hn : n < 4294967296) (hl : loadR K.ff K.Fb.length K.rr n2 L (atR ⟨19, D, A, E, imm⟩ f) 2 = (n, 0)) :
    Calls Try.prog 80 #[.pointer (some ⟨B, 0, none⟩), .agg #[.int .i64 19, .int .i64 D, .int .i64 A, .int .i64 E, .int .i32 imm]] w (MemPost B X Bs F K n2 (upd f D (sextS (n : Nat) 16)) s 0 L v w) := by
  have cA := hm.v A hA
  have cE := hm.v E hE
  have cm := hm.m
  have lt := hm.lt
  have fE := hf E
  have gA : (A : Int) < 64 := by omega
  have gE : (E : Int) < 64 := by omega
  have gD : (D : Int) < 64 := by omega
  have pA : (0 : Int) ≤ (A : Int) := by omega
  have pE : (0 : Int) ≤ (E : Int) := by omega
  have pD : (0 : Int) ≤ (D : Int) := by omega
  have AT := Lib.hid (atR_int ⟨19, D, A, E, imm⟩ f)
  simp only [Int.toNat_natCast] at AT
  have B0 : Below w.heap.size w ((w.alloc (.cells #[.int .i64 19, .int .i64 D, .int .i64 A, .int .i64 E, .int .i32 imm] 29)).drew) := ((Below.refl _ _).alloc (Nat.le_refl _) _).drew
  have HB0 := Lib.hid B0
  have HR := Lib.hid (hr.out (Out.of_below (fun _ => False) B0) id (fun _ _ => id))
  have HM := Lib.hid (hm.grown B0)
  have HF := Lib.hid hf
  have FE := Lib.hid (show ((f E).toNat : Int) = f E by omega)
  have FE2 := Lib.hid (show (f E).toNat < 4294967296 by omega)
  clear hm hr B0 hf fE
  go_enter Try.func80, Try.ntmps80
  go_wp2_with fail
  go_region
  have bx : ∀ j v, (#[.int .i64 19, .int .i64 D, .int .i64 A, .int .i64 E, .int .i32 imm] : Array Value)[j]? = some v → ((w.alloc (.cells #[.int .i64 19, .int .i64 D, .int .i64 A, .int .i64 E, .int .i32 imm] 29)).drew).cell? ⟨w.heap.size, j, none⟩ = some v := fun j v h => by rw [World.cell?_drew, World.cell?_alloc_new]; exact h
  have x0 := bx 0 _ rfl
  have x1 := bx 1 _ rfl
  have x3 := bx 3 _ rfl
  have c0 : ((w.alloc (.cells #[.int .i64 19, .int .i64 D, .int .i64 A, .int .i64 E, .int .i32 imm] 29)).drew).cell? ⟨B, 0, none⟩ = some (.pointer (some ⟨X, 0, none⟩)) := HM.out.m
  have cV : ((w.alloc (.cells #[.int .i64 19, .int .i64 D, .int .i64 A, .int .i64 E, .int .i32 imm] 29)).drew).cell? ⟨B, 1 + E, none⟩ = some (.int .u32 (f E)) := HM.out.v E hE
  have z1 : w.heap.size < ((w.alloc (.cells #[.int .i64 19, .int .i64 D, .int .i64 A, .int .i64 E, .int .i32 imm] 29)).drew).heap.size := by simp
  have zB := HM.out.lt
  generalize World.drew (World.alloc _ _) = W at *
  clear cA cE cm bx
  have BV := Lib.hid (show Below W.heap.size W ((W.alloc (.cells #[.int .i64 1, .int .i64 1, .int .i64 2, .int .i64 4] 3)).alloc (.cells #[.bool true, .bool false, .bool true, .bool false] 4)) from ((Below.refl _ _).alloc (Nat.le_refl _) _).alloc (by simp) _)
  have HV := Lib.hid (HR.out.out (Out.of_below (fun _ => False) BV.out) id (fun _ _ => id))
  have MV := Lib.hid (HM.out.grown BV.out)
  have RW := Lib.hid (HV.out.out (Out.of_below (fun _ => False) (Below.refl (((W.alloc (.cells #[.int .i64 1, .int .i64 1, .int .i64 2, .int .i64 4] 3)).alloc (.cells #[.bool true, .bool false, .bool true, .bool false] 4))).heap.size _).drew) id (fun _ _ => id))
  have LO := Lib.hid (rload_any RW.out hbk (atR ⟨19, D, A, E, imm⟩ f) 2 (atR_lt _ _) (by decide))
  rw [hl] at LO
  have y0 : (((W.alloc (.cells #[.int .i64 1, .int .i64 1, .int .i64 2, .int .i64 4] 3)).alloc (.cells #[.bool true, .bool false, .bool true, .bool false] 4))).cell? ⟨w.heap.size, 0, none⟩ = some (.int .i64 19) := (BV.out.cell (by exact z1)).trans x0
  have y1 : (((W.alloc (.cells #[.int .i64 1, .int .i64 1, .int .i64 2, .int .i64 4] 3)).alloc (.cells #[.bool true, .bool false, .bool true, .bool false] 4))).cell? ⟨w.heap.size, 1, none⟩ = some (.int .i64 D) := (BV.out.cell (by exact z1)).trans x1
  have e0 : (((W.alloc (.cells #[.int .i64 1, .int .i64 1, .int .i64 2, .int .i64 4] 3)).alloc (.cells #[.bool true, .bool false, .bool true, .bool false] 4))).cell? ⟨B, 0, none⟩ = some (.pointer (some ⟨X, 0, none⟩)) := (BV.out.cell (by exact zB)).trans c0
  have i0 : (((W.alloc (.cells #[.int .i64 1, .int .i64 1, .int .i64 2, .int .i64 4] 3)).alloc (.cells #[.bool true, .bool false, .bool true, .bool false] 4))).cell? ⟨W.heap.size, 2, none⟩ = some (.int .i64 2) := by rw [World.cell?_alloc_past _ _ _ (by simp), World.cell?_alloc_new]; rfl
  have s0 : (((W.alloc (.cells #[.int .i64 1, .int .i64 1, .int .i64 2, .int .i64 4] 3)).alloc (.cells #[.bool true, .bool false, .bool true, .bool false] 4))).cell? ⟨W.heap.size + 1, 2, none⟩ = some (.bool true) := by
    have e : (W.alloc (.cells #[.int .i64 1, .int .i64 1, .int .i64 2, .int .i64 4] 3)).heap.size = W.heap.size + 1 := by simp
    rw [← e, World.cell?_alloc_new]; rfl
  have wk : IntKind.i64.wrap 2 = 2 := by decide
  clear hl c0 cV x3
  go_wp2_with fail
  refine wp_region_held_drew (S := (fun w' => w'.cell? ⟨w.heap.size, 0, none⟩ = some (.int .i64 19) ∧ w'.cell? ⟨B, 0, none⟩ = some (.pointer (some ⟨X, 0, none⟩)) ∧ w'.cell? ⟨W.heap.size, 2, none⟩ = some (.int .i64 2))) (by kernel_rfl) (by exact ⟨y0, e0, i0⟩) (fun hHeld => ?_)
  refine wpAnyH_take (i := 0) (oi := _) (v := ?v0) rfl (by kernel_rfl) (by kernel_rfl) (by kernel_rfl) (fun _ _ _ h => h) (Or.inl ⟨by rfl, ?y0⟩) hHeld ?r0
  case y0 => (intro wq hSw; (try dsimp only at hSw); go_simp; try with_reducible rfl)
  try simp only [Act.put, List.getElem_toArray, List.getElem_cons_zero, List.setIfInBounds_toArray, List.set_cons_zero, List.set_cons_succ]
  refine wpAnyH_take (i := 1) (oi := _) (v := ?v1) rfl (by kernel_rfl) (by kernel_rfl) (by kernel_rfl) (fun _ _ _ h => h) (Or.inl ⟨by rfl, ?y1⟩) hHeld ?r1
  case y1 => (intro wq hSw; (try dsimp only at hSw); go_simp; try with_reducible rfl)
  try simp only [Act.put, List.getElem_toArray, List.getElem_cons_zero, List.getElem_cons_succ, List.setIfInBounds_toArray, List.set_cons_zero, List.set_cons_succ]
  refine wpAnyH_take (i := 2) (oi := _) (v := ?v2) rfl (by kernel_rfl) (by kernel_rfl) (by kernel_rfl) (fun _ _ _ h => h) (Or.inl ⟨by rfl, ?y2⟩) hHeld ?r2
  case y2 => (intro wq hSw; (try dsimp only at hSw); go_simp; try with_reducible rfl)
  try simp only [Act.put, List.getElem_toArray, List.getElem_cons_zero, List.getElem_cons_succ, List.setIfInBounds_toArray, List.set_cons_zero, List.set_cons_succ]
  refine wpAnyH_take (i := 3) (oi := _) (v := ?v3) rfl (by kernel_rfl) (by kernel_rfl) (by kernel_rfl) (fun _ _ _ h => h) (Or.inl ⟨by rfl, ?y3⟩) hHeld ?r3
  case y3 => (intro wq hSw; (try dsimp only at hSw); go_simp; try with_reducible rfl)
  try simp only [Act.put, List.getElem_toArray, List.getElem_cons_zero, List.getElem_cons_succ, List.setIfInBounds_toArray, List.set_cons_zero, List.set_cons_succ]
  refine wpAnyH_take (i := 4) (oi := _) (v := ?v4) rfl (by kernel_rfl) (by kernel_rfl) (by kernel_rfl) (fun _ _ _ h => h) (Or.inl ⟨by rfl, ?y4⟩) hHeld ?r4
  case y4 => (intro wq hSw; (try dsimp only at hSw); go_simp; try with_reducible rfl)
  try simp only [Act.put, List.getElem_toArray, List.getElem_cons_zero, List.getElem_cons_succ, List.setIfInBounds_toArray, List.set_cons_zero, List.set_cons_succ]
  refine wpAnyH_take (i := 5) (oi := _) (v := ?v5) rfl (by kernel_rfl) (by kernel_rfl) (by kernel_rfl) (fun _ _ _ h => h) (Or.inl ⟨by rfl, ?y5⟩) hHeld ?r5
  case y5 => (intro wq hSw; (try dsimp only at hSw); go_simp; try with_reducible rfl)
  try simp only [Act.put, List.getElem_toArray, List.getElem_cons_zero, List.getElem_cons_succ, List.setIfInBounds_toArray, List.set_cons_zero, List.set_cons_succ]
  refine wpAnyH_take (i := 6) (oi := _) (v := ?v6) rfl (by kernel_rfl) (by kernel_rfl) (by kernel_rfl) (fun _ _ _ h => h) (Or.inl ⟨by rfl, ?y6⟩) hHeld ?r6
  case y6 => (intro wq hSw; (try dsimp only at hSw); go_simp; try with_reducible rfl)
  try simp only [Act.put, List.getElem_toArray, List.getElem_cons_zero, List.getElem_cons_succ, List.setIfInBounds_toArray, List.set_cons_zero, List.set_cons_succ]
  refine wpAnyH_take (i := 7) (oi := _) (v := ?v7) rfl (by kernel_rfl) (by kernel_rfl) (by kernel_rfl) (fun _ _ _ h => h) (Or.inl ⟨by rfl, ?y7⟩) hHeld ?r7
  case y7 => (intro wq hSw; (try dsimp only at hSw); go_simp; try with_reducible rfl)
  try simp only [Act.put, List.getElem_toArray, List.getElem_cons_zero, List.getElem_cons_succ, List.setIfInBounds_toArray, List.set_cons_zero, List.set_cons_succ]
  refine wpAnyH_take (i := 8) (oi := _) (v := ?v8) rfl (by kernel_rfl) (by kernel_rfl) (by kernel_rfl) (fun _ _ _ h => h) (Or.inl ⟨by rfl, ?y8⟩) hHeld ?r8
  case y8 => (intro wq hSw; (try dsimp only at hSw); go_simp; try with_reducible rfl)
  try simp only [Act.put, List.getElem_toArray, List.getElem_cons_zero, List.getElem_cons_succ, List.setIfInBounds_toArray, List.set_cons_zero, List.set_cons_succ]
  refine wpAnyH_take (i := 9) (oi := _) (v := ?v9) rfl (by kernel_rfl) (by kernel_rfl) (by kernel_rfl) (fun _ _ _ h => h) (Or.inl ⟨by rfl, ?y9⟩) hHeld ?r9
  case y9 => (intro wq hSw; (try dsimp only at hSw); go_simp; try with_reducible rfl)
  try simp only [Act.put, List.getElem_toArray, List.getElem_cons_zero, List.getElem_cons_succ, List.setIfInBounds_toArray, List.set_cons_zero, List.set_cons_succ]
  refine wpAnyH_take (i := 10) (oi := _) (v := ?v10) rfl (by kernel_rfl) (by kernel_rfl) (by kernel_rfl) (fun _ _ _ h => h) (Or.inl ⟨by rfl, ?y10⟩) hHeld ?r10
  case y10 => (intro wq hSw; (try dsimp only at hSw); go_simp; try with_reducible rfl)
  try simp only [Act.put, List.getElem_toArray, List.getElem_cons_zero, List.getElem_cons_succ, List.setIfInBounds_toArray, List.set_cons_zero, List.set_cons_succ]
  refine wpAnyH_ready (rs := [11]) (by kernel_rfl) (by simp) ?_
  refine AllReadyH.cons (o := _) rfl (fun K hK => ?_) AllReadyH.nil
  go_simp
  rw [← AT.out]; refine LO.out.mono ?_; rintro e w9 ⟨rfl, lk⟩
  refine hK.out _ _ ⟨(lk.cell _).trans hHeld.1, (lk.cell _).trans hHeld.2.1, (lk.cell _).trans hHeld.2.2⟩ (fun hHeld2 => ?_)
  clear hK K hHeld
  have hHeld := hHeld2
  clear hHeld2
  try simp only [Act.put, List.getElem_toArray, List.getElem_cons_zero, List.getElem_cons_succ, List.setIfInBounds_toArray, List.set_cons_zero, List.set_cons_succ]
  refine wpAnyH_take (i := 12) (oi := _) (v := ?v12) rfl (by kernel_rfl) (by kernel_rfl) (by kernel_rfl) (fun _ _ _ h => h) (Or.inl ⟨by rfl, ?y12⟩) hHeld ?r12
  case y12 => (intro wq hSw; (try dsimp only at hSw); go_simp; try with_reducible rfl)
  try simp only [Act.put, List.getElem_toArray, List.getElem_cons_zero, List.getElem_cons_succ, List.setIfInBounds_toArray, List.set_cons_zero, List.set_cons_succ]
  refine wpAnyH_take (i := 13) (oi := _) (v := ?v13) rfl (by kernel_rfl) (by kernel_rfl) (by kernel_rfl) (fun _ _ _ h => h) (Or.inl ⟨by rfl, ?y13⟩) hHeld ?r13
  case y13 => (intro wq hSw; (try dsimp only at hSw); go_simp; try with_reducible rfl)
  try simp only [Act.put, List.getElem_toArray, List.getElem_cons_zero, List.getElem_cons_succ, List.setIfInBounds_toArray, List.set_cons_zero, List.set_cons_succ]
  refine wpAnyH_take (i := 14) (oi := _) (v := ?v14) rfl (by kernel_rfl) (by kernel_rfl) (by kernel_rfl) (fun _ _ _ h => h) (Or.inl ⟨by rfl, ?y14⟩) hHeld ?r14
  case y14 => (intro wq hSw; (try dsimp only at hSw); go_simp; try with_reducible rfl)
  try simp only [Act.put, List.getElem_toArray, List.getElem_cons_zero, List.getElem_cons_succ, List.setIfInBounds_toArray, List.set_cons_zero, List.set_cons_succ]
  refine wpAnyH_take (i := 15) (oi := _) (v := ?v15) rfl (by kernel_rfl) (by kernel_rfl) (by kernel_rfl) (fun _ _ _ h => h) (Or.inl ⟨by rfl, ?y15⟩) hHeld ?r15
  case y15 => (intro wq hSw; (try dsimp only at hSw); go_simp; try with_reducible rfl)
  try simp only [Act.put, List.getElem_toArray, List.getElem_cons_zero, List.getElem_cons_succ, List.setIfInBounds_toArray, List.set_cons_zero, List.set_cons_succ]
  refine wpAnyH_take (i := 16) (oi := _) (v := ?v16) rfl (by kernel_rfl) (by kernel_rfl) (by kernel_rfl) (fun _ _ _ h => h) (Or.inl ⟨by rfl, ?y16⟩) hHeld ?r16
  case y16 => (intro wq hSw; (try dsimp only at hSw); go_simp; try with_reducible rfl)
  try simp only [Act.put, List.getElem_toArray, List.getElem_cons_zero, List.getElem_cons_succ, List.setIfInBounds_toArray, List.set_cons_zero, List.set_cons_succ]
  refine wpAnyH_done (by kernel_rfl) ?_ _
  have T9 := Lib.hid ((MV.out.t.out (Out.of_below (fun _ => False) (Below.refl (((W.alloc (.cells #[.int .i64 1, .int .i64 1, .int .i64 2, .int .i64 4] 3)).alloc (.cells #[.bool true, .bool false, .bool true, .bool false] 4))).heap.size _).drew) id).out (lk.out (fun _ => False)) id)
  have R9 := Lib.hid (RW.out.like lk)
  have B9 := Lib.hid (show Below w.heap.size w w9 from lk.2 _ _ ((HB0.out.trans (BV.out.mono HB0.out.size)).drew))
  have k0 : w9.cell? ⟨w.heap.size, 0, none⟩ = some (.int .i64 19) := hHeld.1
  have k1 : w9.cell? ⟨w.heap.size, 1, none⟩ = some (.int .i64 D) := (lk.cell _).trans y1
  have k2 : w9.cell? ⟨W.heap.size, 2, none⟩ = some (.int .i64 2) := hHeld.2.2
  have k3 : w9.cell? ⟨W.heap.size + 1, 2, none⟩ = some (.bool true) := (lk.cell _).trans s0
  have ct := T9.out.tr
  have zt := T9.out.fz 67 (by omega)
  have nW : w.heap.size ≠ W.heap.size := by omega
  have F9 := Lib.hid (show w.heap.size ≤ w9.heap.size from B9.out.size)
  clear lk RW HV MV y0 y1 e0 i0 s0 hHeld x0 x1 HR HM
  have T2 := Lib.hid (machT_trap (t' := 0) T9.out)
  have R2 := Lib.hid (R9.out.out (out_setT B 67 (.int .i64 0) w9) (fun e => hBX e.symm) (fun j hj e => by subst e; exact hvB hj))
  have O2 := Lib.hid (show Out (fun j => j = B ∨ RS X v j) w (w9.setCell ⟨B, 67, none⟩ (.int .i64 0)) from (Out.of_below _ B9.out).trans ((out_setT B 67 _ w9).mono (fun j h => .inl h)))
  have SX := Lib.hid (fun w => ref1_sext (n : Nat) 16 w (by omega) (by omega))
  go_wp2_with fail
  refine (SX.out _).mono ?_
  rintro e w3 ⟨rfl, rfl⟩
  have q1 : (w9.setCell ⟨B, 67, none⟩ (.int .i64 0)).cell? ⟨w.heap.size, 1, none⟩ = some (.int .i64 D) := by rw [World.cell?_setCell_other (h := fun e => by injection e with e1 _ _; omega)]; exact k1
  go_wp2_with fail
  generalize World.setCell _ _ _ = W4 at *
  clear k0 k1 k2 k3 ct zt
  have cD := T2.out.v D hD
  have zD := T2.out.fz (1 + D) (by omega)
  go_region
  have T3 := Lib.hid ((machT_set (x := sextS (n : Nat) 16) T2.out hD).out (Out.of_below (fun _ => False) ((Below.refl _ _).drew)) id)
  have R3 := Lib.hid ((R2.out.out (out_setT B (1 + D) (.int .u32 (sextS (n : Nat) 16)) W4) (fun e => hBX e.symm) (fun j hj e => by subst e; exact hvB hj)).out (Out.of_below (fun _ => False) ((Below.refl _ _).drew)) id (fun _ _ => id))
  have O3 := Lib.hid (show Out (fun j => j = B ∨ RS X v j) w (W4.setCell ⟨B, 1 + D, none⟩ (.int .u32 (sextS (n : Nat) 16))).drew from (O2.out.trans ((out_setT B (1 + D) _ W4).mono (fun j h => .inl h))).trans (Out.of_below _ ((Below.refl _ _).drew)))
  generalize World.drew (World.setCell _ _ _) = W5 at *
  clear cD zD q1
  go_wp2_with fail
  exact Go.Great.bodyPost_end0 (by rfl) (by rfl) ⟨rfl, T3.out, ⟨v, R3.out, .refl _ _⟩, O3.out⟩

set_option maxRecDepth 100000 in
set_option maxHeartbeats 4000000 in
theorem rmlt_19 (B X Bs D A E : Nat) (imm F s : Int) (K : Bk) (n2 : Nat) (f : Nat → Int) (L : List (Nat × Nat)) (v : Value) (w : World) (hD : D < 64) (hA : A < 64) (hE : E < 64) (hm : MachR B (some ⟨X, 0, none⟩) F f s w) (hr : RefIs X Bs K.ff K.Fb.length K.rr n2 L v w) (hbk : Banks K.ff K.Fb.length K.rr n2) (hBX : B ≠ X) (hvB : v.ownBlock ≠ some B) (hf : WordsF f) (hs : L.length + 4 ≤ 1000000) (n : Nat) (t : Int) (ht : (t == 0) = false) (hl : loadR K.ff K.Fb.length K.rr n2 L (atR ⟨19, D, A, E, imm⟩ f) 2 = (n, t)) :
    Calls Try.prog 80 #[.pointer (some ⟨B, 0, none⟩), .agg #[.int .i64 19, .int .i64 D, .int .i64 A, .int .i64 E, .int .i32 imm]] w (MemPost B X Bs F K n2 f s t L v w) := by
  have cA := hm.v A hA
  have cE := hm.v E hE
  have cm := hm.m
  have lt := hm.lt
  have fE := hf E
  have gA : (A : Int) < 64 := by omega
  have gE : (E : Int) < 64 := by omega
  have gD : (D : Int) < 64 := by omega
  have pA : (0 : Int) ≤ (A : Int) := by omega
  have pE : (0 : Int) ≤ (E : Int) := by omega
  have pD : (0 : Int) ≤ (D : Int) := by omega
  have AT := Lib.hid (atR_int ⟨19, D, A, E, imm⟩ f)
  simp only [Int.toNat_natCast] at AT
  have B0 : Below w.heap.size w ((w.alloc (.cells #[.int .i64 19, .int .i64 D, .int .i64 A, .int .i64 E, .int .i32 imm] 29)).drew) := ((Below.refl _ _).alloc (Nat.le_refl _) _).drew
  have HB0 := Lib.hid B0
  have HR := Lib.hid (hr.out (Out.of_below (fun _ => False) B0) id (fun _ _ => id))
  have HM := Lib.hid (hm.grown B0)
  have HF := Lib.hid hf
  have FE := Lib.hid (show ((f E).toNat : Int) = f E by omega)
  have FE2 := Lib.hid (show (f E).toNat < 4294967296 by omega)
  clear hm hr B0 hf fE
  go_enter Try.func80, Try.ntmps80
  go_wp2_with fail
  go_region
  have bx : ∀ j v, (#[.int .i64 19, .int .i64 D, .int .i64 A, .int .i64 E, .int .i32 imm] : Array Value)[j]? = some v → ((w.alloc (.cells #[.int .i64 19, .int .i64 D, .int .i64 A, .int .i64 E, .int .i32 imm] 29)).drew).cell? ⟨w.heap.size, j, none⟩ = some v := fun j v h => by rw [World.cell?_drew, World.cell?_alloc_new]; exact h
  have x0 := bx 0 _ rfl
  have x1 := bx 1 _ rfl
  have x3 := bx 3 _ rfl
  have c0 : ((w.alloc (.cells #[.int .i64 19, .int .i64 D, .int .i64 A, .int .i64 E, .int .i32 imm] 29)).drew).cell? ⟨B, 0, none⟩ = some (.pointer (some ⟨X, 0, none⟩)) := HM.out.m
  have cV : ((w.alloc (.cells #[.int .i64 19, .int .i64 D, .int .i64 A, .int .i64 E, .int .i32 imm] 29)).drew).cell? ⟨B, 1 + E, none⟩ = some (.int .u32 (f E)) := HM.out.v E hE
  have z1 : w.heap.size < ((w.alloc (.cells #[.int .i64 19, .int .i64 D, .int .i64 A, .int .i64 E, .int .i32 imm] 29)).drew).heap.size := by simp
  have zB := HM.out.lt
  generalize World.drew (World.alloc _ _) = W at *
  clear cA cE cm bx
  have BV := Lib.hid (show Below W.heap.size W ((W.alloc (.cells #[.int .i64 1, .int .i64 1, .int .i64 2, .int .i64 4] 3)).alloc (.cells #[.bool true, .bool false, .bool true, .bool false] 4)) from ((Below.refl _ _).alloc (Nat.le_refl _) _).alloc (by simp) _)
  have HV := Lib.hid (HR.out.out (Out.of_below (fun _ => False) BV.out) id (fun _ _ => id))
  have MV := Lib.hid (HM.out.grown BV.out)
  have RW := Lib.hid (HV.out.out (Out.of_below (fun _ => False) (Below.refl (((W.alloc (.cells #[.int .i64 1, .int .i64 1, .int .i64 2, .int .i64 4] 3)).alloc (.cells #[.bool true, .bool false, .bool true, .bool false] 4))).heap.size _).drew) id (fun _ _ => id))
  have LO := Lib.hid (rload_any RW.out hbk (atR ⟨19, D, A, E, imm⟩ f) 2 (atR_lt _ _) (by decide))
  rw [hl] at LO
  have y0 : (((W.alloc (.cells #[.int .i64 1, .int .i64 1, .int .i64 2, .int .i64 4] 3)).alloc (.cells #[.bool true, .bool false, .bool true, .bool false] 4))).cell? ⟨w.heap.size, 0, none⟩ = some (.int .i64 19) := (BV.out.cell (by exact z1)).trans x0
  have y1 : (((W.alloc (.cells #[.int .i64 1, .int .i64 1, .int .i64 2, .int .i64 4] 3)).alloc (.cells #[.bool true, .bool false, .bool true, .bool false] 4))).cell? ⟨w.heap.size, 1, none⟩ = some (.int .i64 D) := (BV.out.cell (by exact z1)).trans x1
  have e0 : (((W.alloc (.cells #[.int .i64 1, .int .i64 1, .int .i64 2, .int .i64 4] 3)).alloc (.cells #[.bool true, .bool false, .bool true, .bool false] 4))).cell? ⟨B, 0, none⟩ = some (.pointer (some ⟨X, 0, none⟩)) := (BV.out.cell (by exact zB)).trans c0
  have i0 : (((W.alloc (.cells #[.int .i64 1, .int .i64 1, .int .i64 2, .int .i64 4] 3)).alloc (.cells #[.bool true, .bool false, .bool true, .bool false] 4))).cell? ⟨W.heap.size, 2, none⟩ = some (.int .i64 2) := by rw [World.cell?_alloc_past _ _ _ (by simp), World.cell?_alloc_new]; rfl
  have s0 : (((W.alloc (.cells #[.int .i64 1, .int .i64 1, .int .i64 2, .int .i64 4] 3)).alloc (.cells #[.bool true, .bool false, .bool true, .bool false] 4))).cell? ⟨W.heap.size + 1, 2, none⟩ = some (.bool true) := by
    have e : (W.alloc (.cells #[.int .i64 1, .int .i64 1, .int .i64 2, .int .i64 4] 3)).heap.size = W.heap.size + 1 := by simp
    rw [← e, World.cell?_alloc_new]; rfl
  have wk : IntKind.i64.wrap 2 = 2 := by decide
  clear hl c0 cV x3
  go_wp2_with fail
  refine wp_region_held_drew (S := (fun w' => w'.cell? ⟨w.heap.size, 0, none⟩ = some (.int .i64 19) ∧ w'.cell? ⟨B, 0, none⟩ = some (.pointer (some ⟨X, 0, none⟩)) ∧ w'.cell? ⟨W.heap.size, 2, none⟩ = some (.int .i64 2))) (by kernel_rfl) (by exact ⟨y0, e0, i0⟩) (fun hHeld => ?_)
  refine wpAnyH_take (i := 0) (oi := _) (v := ?v0) rfl (by kernel_rfl) (by kernel_rfl) (by kernel_rfl) (fun _ _ _ h => h) (Or.inl ⟨by rfl, ?y0⟩) hHeld ?r0
  case y0 => (intro wq hSw; (try dsimp only at hSw); go_simp; try with_reducible rfl)
  try simp only [Act.put, List.getElem_toArray, List.getElem_cons_zero, List.setIfInBounds_toArray, List.set_cons_zero, List.set_cons_succ]
  refine wpAnyH_take (i := 1) (oi := _) (v := ?v1) rfl (by kernel_rfl) (by kernel_rfl) (by kernel_rfl) (fun _ _ _ h => h) (Or.inl ⟨by rfl, ?y1⟩) hHeld ?r1
  case y1 => (intro wq hSw; (try dsimp only at hSw); go_simp; try with_reducible rfl)
  try simp only [Act.put, List.getElem_toArray, List.getElem_cons_zero, List.getElem_cons_succ, List.setIfInBounds_toArray, List.set_cons_zero, List.set_cons_succ]
  refine wpAnyH_take (i := 2) (oi := _) (v := ?v2) rfl (by kernel_rfl) (by kernel_rfl) (by kernel_rfl) (fun _ _ _ h => h) (Or.inl ⟨by rfl, ?y2⟩) hHeld ?r2
  case y2 => (intro wq hSw; (try dsimp only at hSw); go_simp; try with_reducible rfl)
  try simp only [Act.put, List.getElem_toArray, List.getElem_cons_zero, List.getElem_cons_succ, List.setIfInBounds_toArray, List.set_cons_zero, List.set_cons_succ]
  refine wpAnyH_take (i := 3) (oi := _) (v := ?v3) rfl (by kernel_rfl) (by kernel_rfl) (by kernel_rfl) (fun _ _ _ h => h) (Or.inl ⟨by rfl, ?y3⟩) hHeld ?r3
  case y3 => (intro wq hSw; (try dsimp only at hSw); go_simp; try with_reducible rfl)
  try simp only [Act.put, List.getElem_toArray, List.getElem_cons_zero, List.getElem_cons_succ, List.setIfInBounds_toArray, List.set_cons_zero, List.set_cons_succ]
  refine wpAnyH_take (i := 4) (oi := _) (v := ?v4) rfl (by kernel_rfl) (by kernel_rfl) (by kernel_rfl) (fun _ _ _ h => h) (Or.inl ⟨by rfl, ?y4⟩) hHeld ?r4
  case y4 => (intro wq hSw; (try dsimp only at hSw); go_simp; try with_reducible rfl)
  try simp only [Act.put, List.getElem_toArray, List.getElem_cons_zero, List.getElem_cons_succ, List.setIfInBounds_toArray, List.set_cons_zero, List.set_cons_succ]
  refine wpAnyH_take (i := 5) (oi := _) (v := ?v5) rfl (by kernel_rfl) (by kernel_rfl) (by kernel_rfl) (fun _ _ _ h => h) (Or.inl ⟨by rfl, ?y5⟩) hHeld ?r5
  case y5 => (intro wq hSw; (try dsimp only at hSw); go_simp; try with_reducible rfl)
  try simp only [Act.put, List.getElem_toArray, List.getElem_cons_zero, List.getElem_cons_succ, List.setIfInBounds_toArray, List.set_cons_zero, List.set_cons_succ]
  refine wpAnyH_take (i := 6) (oi := _) (v := ?v6) rfl (by kernel_rfl) (by kernel_rfl) (by kernel_rfl) (fun _ _ _ h => h) (Or.inl ⟨by rfl, ?y6⟩) hHeld ?r6
  case y6 => (intro wq hSw; (try dsimp only at hSw); go_simp; try with_reducible rfl)
  try simp only [Act.put, List.getElem_toArray, List.getElem_cons_zero, List.getElem_cons_succ, List.setIfInBounds_toArray, List.set_cons_zero, List.set_cons_succ]
  refine wpAnyH_take (i := 7) (oi := _) (v := ?v7) rfl (by kernel_rfl) (by kernel_rfl) (by kernel_rfl) (fun _ _ _ h => h) (Or.inl ⟨by rfl, ?y7⟩) hHeld ?r7
  case y7 => (intro wq hSw; (try dsimp only at hSw); go_simp; try with_reducible rfl)
  try simp only [Act.put, List.getElem_toArray, List.getElem_cons_zero, List.getElem_cons_succ, List.setIfInBounds_toArray, List.set_cons_zero, List.set_cons_succ]
  refine wpAnyH_take (i := 8) (oi := _) (v := ?v8) rfl (by kernel_rfl) (by kernel_rfl) (by kernel_rfl) (fun _ _ _ h => h) (Or.inl ⟨by rfl, ?y8⟩) hHeld ?r8
  case y8 => (intro wq hSw; (try dsimp only at hSw); go_simp; try with_reducible rfl)
  try simp only [Act.put, List.getElem_toArray, List.getElem_cons_zero, List.getElem_cons_succ, List.setIfInBounds_toArray, List.set_cons_zero, List.set_cons_succ]
  refine wpAnyH_take (i := 9) (oi := _) (v := ?v9) rfl (by kernel_rfl) (by kernel_rfl) (by kernel_rfl) (fun _ _ _ h => h) (Or.inl ⟨by rfl, ?y9⟩) hHeld ?r9
  case y9 => (intro wq hSw; (try dsimp only at hSw); go_simp; try with_reducible rfl)
  try simp only [Act.put, List.getElem_toArray, List.getElem_cons_zero, List.getElem_cons_succ, List.setIfInBounds_toArray, List.set_cons_zero, List.set_cons_succ]
  refine wpAnyH_take (i := 10) (oi := _) (v := ?v10) rfl (by kernel_rfl) (by kernel_rfl) (by kernel_rfl) (fun _ _ _ h => h) (Or.inl ⟨by rfl, ?y10⟩) hHeld ?r10
  case y10 => (intro wq hSw; (try dsimp only at hSw); go_simp; try with_reducible rfl)
  try simp only [Act.put, List.getElem_toArray, List.getElem_cons_zero, List.getElem_cons_succ, List.setIfInBounds_toArray, List.set_cons_zero, List.set_cons_succ]
  refine wpAnyH_ready (rs := [11]) (by kernel_rfl) (by simp) ?_
  refine AllReadyH.cons (o := _) rfl (fun K hK => ?_) AllReadyH.nil
  go_simp
  rw [← AT.out]; refine LO.out.mono ?_; rintro e w9 ⟨rfl, lk⟩
  refine hK.out _ _ ⟨(lk.cell _).trans hHeld.1, (lk.cell _).trans hHeld.2.1, (lk.cell _).trans hHeld.2.2⟩ (fun hHeld2 => ?_)
  clear hK K hHeld
  have hHeld := hHeld2
  clear hHeld2
  try simp only [Act.put, List.getElem_toArray, List.getElem_cons_zero, List.getElem_cons_succ, List.setIfInBounds_toArray, List.set_cons_zero, List.set_cons_succ]
  refine wpAnyH_take (i := 12) (oi := _) (v := ?v12) rfl (by kernel_rfl) (by kernel_rfl) (by kernel_rfl) (fun _ _ _ h => h) (Or.inl ⟨by rfl, ?y12⟩) hHeld ?r12
  case y12 => (intro wq hSw; (try dsimp only at hSw); go_simp; try with_reducible rfl)
  try simp only [Act.put, List.getElem_toArray, List.getElem_cons_zero, List.getElem_cons_succ, List.setIfInBounds_toArray, List.set_cons_zero, List.set_cons_succ]
  refine wpAnyH_take (i := 13) (oi := _) (v := ?v13) rfl (by kernel_rfl) (by kernel_rfl) (by kernel_rfl) (fun _ _ _ h => h) (Or.inl ⟨by rfl, ?y13⟩) hHeld ?r13
  case y13 => (intro wq hSw; (try dsimp only at hSw); go_simp; try with_reducible rfl)
  try simp only [Act.put, List.getElem_toArray, List.getElem_cons_zero, List.getElem_cons_succ, List.setIfInBounds_toArray, List.set_cons_zero, List.set_cons_succ]
  refine wpAnyH_take (i := 14) (oi := _) (v := ?v14) rfl (by kernel_rfl) (by kernel_rfl) (by kernel_rfl) (fun _ _ _ h => h) (Or.inl ⟨by rfl, ?y14⟩) hHeld ?r14
  case y14 => (intro wq hSw; (try dsimp only at hSw); go_simp; try with_reducible rfl)
  try simp only [Act.put, List.getElem_toArray, List.getElem_cons_zero, List.getElem_cons_succ, List.setIfInBounds_toArray, List.set_cons_zero, List.set_cons_succ]
  refine wpAnyH_take (i := 15) (oi := _) (v := ?v15) rfl (by kernel_rfl) (by kernel_rfl) (by kernel_rfl) (fun _ _ _ h => h) (Or.inl ⟨by rfl, ?y15⟩) hHeld ?r15
  case y15 => (intro wq hSw; (try dsimp only at hSw); go_simp; try with_reducible rfl)
  try simp only [Act.put, List.getElem_toArray, List.getElem_cons_zero, List.getElem_cons_succ, List.setIfInBounds_toArray, List.set_cons_zero, List.set_cons_succ]
  refine wpAnyH_take (i := 16) (oi := _) (v := ?v16) rfl (by kernel_rfl) (by kernel_rfl) (by kernel_rfl) (fun _ _ _ h => h) (Or.inl ⟨by rfl, ?y16⟩) hHeld ?r16
  case y16 => (intro wq hSw; (try dsimp only at hSw); go_simp; try with_reducible rfl)
  try simp only [Act.put, List.getElem_toArray, List.getElem_cons_zero, List.getElem_cons_succ, List.setIfInBounds_toArray, List.set_cons_zero, List.set_cons_succ]
  refine wpAnyH_done (by kernel_rfl) ?_ _
  have T9 := Lib.hid ((MV.out.t.out (Out.of_below (fun _ => False) (Below.refl (((W.alloc (.cells #[.int .i64 1, .int .i64 1, .int .i64 2, .int .i64 4] 3)).alloc (.cells #[.bool true, .bool false, .bool true, .bool false] 4))).heap.size _).drew) id).out (lk.out (fun _ => False)) id)
  have R9 := Lib.hid (RW.out.like lk)
  have B9 := Lib.hid (show Below w.heap.size w w9 from lk.2 _ _ ((HB0.out.trans (BV.out.mono HB0.out.size)).drew))
  have k0 : w9.cell? ⟨w.heap.size, 0, none⟩ = some (.int .i64 19) := hHeld.1
  have k1 : w9.cell? ⟨w.heap.size, 1, none⟩ = some (.int .i64 D) := (lk.cell _).trans y1
  have k2 : w9.cell? ⟨W.heap.size, 2, none⟩ = some (.int .i64 2) := hHeld.2.2
  have k3 : w9.cell? ⟨W.heap.size + 1, 2, none⟩ = some (.bool true) := (lk.cell _).trans s0
  have ct := T9.out.tr
  have zt := T9.out.fz 67 (by omega)
  have nW : w.heap.size ≠ W.heap.size := by omega
  have F9 := Lib.hid (show w.heap.size ≤ w9.heap.size from B9.out.size)
  clear lk RW HV MV y0 y1 e0 i0 s0 hHeld x0 x1 HR HM
  have T2 := Lib.hid (machT_trap (t' := t) T9.out)
  have R2 := Lib.hid (R9.out.out (out_setT B 67 (.int .i64 t) w9) (fun e => hBX e.symm) (fun j hj e => by subst e; exact hvB hj))
  have O2 := Lib.hid (show Out (fun j => j = B ∨ RS X v j) w (w9.setCell ⟨B, 67, none⟩ (.int .i64 t)) from (Out.of_below _ B9.out).trans ((out_setT B 67 _ w9).mono (fun j h => .inl h)))
  go_wp2_with fail
  exact Go.Great.bodyPost_end0 (by rfl) (by rfl) ⟨rfl, T2.out, ⟨v, R2.out, .refl _ _⟩, O2.out⟩

set_option maxRecDepth 100000 in
set_option maxHeartbeats 4000000 in
theorem rmld_20 (B X Bs D A E : Nat) (imm F s : Int) (K : Bk) (n2 : Nat) (f : Nat → Int) (L : List (Nat × Nat)) (v : Value) (w : World) (hD : D < 64) (hA : A < 64) (hE : E < 64) (hm : MachR B (some ⟨X, 0, none⟩) F f s w) (hr : RefIs X Bs K.ff K.Fb.length K.rr n2 L v w) (hbk : Banks K.ff K.Fb.length K.rr n2) (hBX : B ≠ X) (hvB : v.ownBlock ≠ some B) (hf : WordsF f) (hs : L.length + 4 ≤ 1000000) (n : Nat) (hn : n < 4294967296) (hl : loadR K.ff K.Fb.length K.rr n2 L (atR ⟨20, D, A, E, imm⟩ f) 4 = (n, 0)) :
    Calls Try.prog 80 #[.pointer (some ⟨B, 0, none⟩), .agg #[.int .i64 20, .int .i64 D, .int .i64 A, .int .i64 E, .int .i32 imm]] w (MemPost B X Bs F K n2 (upd f D ((n : Nat))) s 0 L v w) := by
  have cA := hm.v A hA
  have cE := hm.v E hE
  have cm := hm.m
  have lt := hm.lt
  have fE := hf E
  have gA : (A : Int) < 64 := by omega
  have gE : (E : Int) < 64 := by omega
  have gD : (D : Int) < 64 := by omega
  have pA : (0 : Int) ≤ (A : Int) := by omega
  have pE : (0 : Int) ≤ (E : Int) := by omega
  have pD : (0 : Int) ≤ (D : Int) := by omega
  have AT := Lib.hid (atR_int ⟨20, D, A, E, imm⟩ f)
  simp only [Int.toNat_natCast] at AT
  have B0 : Below w.heap.size w ((w.alloc (.cells #[.int .i64 20, .int .i64 D, .int .i64 A, .int .i64 E, .int .i32 imm] 29)).drew) := ((Below.refl _ _).alloc (Nat.le_refl _) _).drew
  have HB0 := Lib.hid B0
  have HR := Lib.hid (hr.out (Out.of_below (fun _ => False) B0) id (fun _ _ => id))
  have HM := Lib.hid (hm.grown B0)
  have HF := Lib.hid hf
  have FE := Lib.hid (show ((f E).toNat : Int) = f E by omega)
  have FE2 := Lib.hid (show (f E).toNat < 4294967296 by omega)
  clear hm hr B0 hf fE
  go_enter Try.func80, Try.ntmps80
  go_wp2_with fail
  go_region
  have bx : ∀ j v, (#[.int .i64 20, .int .i64 D, .int .i64 A, .int .i64 E, .int .i32 imm] : Array Value)[j]? = some v → ((w.alloc (.cells #[.int .i64 20, .int .i64 D, .int .i64 A, .int .i64 E, .int .i32 imm] 29)).drew).cell? ⟨w.heap.size, j, none⟩ = some v := fun j v h => by rw [World.cell?_drew, World.cell?_alloc_new]; exact h
  have x0 := bx 0 _ rfl
  have x1 := bx 1 _ rfl
  have x3 := bx 3 _ rfl
  have c0 : ((w.alloc (.cells #[.int .i64 20, .int .i64 D, .int .i64 A, .int .i64 E, .int .i32 imm] 29)).drew).cell? ⟨B, 0, none⟩ = some (.pointer (some ⟨X, 0, none⟩)) := HM.out.m
  have cV : ((w.alloc (.cells #[.int .i64 20, .int .i64 D, .int .i64 A, .int .i64 E, .int .i32 imm] 29)).drew).cell? ⟨B, 1 + E, none⟩ = some (.int .u32 (f E)) := HM.out.v E hE
  have z1 : w.heap.size < ((w.alloc (.cells #[.int .i64 20, .int .i64 D, .int .i64 A, .int .i64 E, .int .i32 imm] 29)).drew).heap.size := by simp
  have zB := HM.out.lt
  generalize World.drew (World.alloc _ _) = W at *
  clear cA cE cm bx
  have BV := Lib.hid (show Below W.heap.size W ((W.alloc (.cells #[.int .i64 1, .int .i64 1, .int .i64 2, .int .i64 4] 3)).alloc (.cells #[.bool true, .bool false, .bool true, .bool false] 4)) from ((Below.refl _ _).alloc (Nat.le_refl _) _).alloc (by simp) _)
  have HV := Lib.hid (HR.out.out (Out.of_below (fun _ => False) BV.out) id (fun _ _ => id))
  have MV := Lib.hid (HM.out.grown BV.out)
  have RW := Lib.hid (HV.out.out (Out.of_below (fun _ => False) (Below.refl (((W.alloc (.cells #[.int .i64 1, .int .i64 1, .int .i64 2, .int .i64 4] 3)).alloc (.cells #[.bool true, .bool false, .bool true, .bool false] 4))).heap.size _).drew) id (fun _ _ => id))
  have LO := Lib.hid (rload_any RW.out hbk (atR ⟨20, D, A, E, imm⟩ f) 4 (atR_lt _ _) (by decide))
  rw [hl] at LO
  have y0 : (((W.alloc (.cells #[.int .i64 1, .int .i64 1, .int .i64 2, .int .i64 4] 3)).alloc (.cells #[.bool true, .bool false, .bool true, .bool false] 4))).cell? ⟨w.heap.size, 0, none⟩ = some (.int .i64 20) := (BV.out.cell (by exact z1)).trans x0
  have y1 : (((W.alloc (.cells #[.int .i64 1, .int .i64 1, .int .i64 2, .int .i64 4] 3)).alloc (.cells #[.bool true, .bool false, .bool true, .bool false] 4))).cell? ⟨w.heap.size, 1, none⟩ = some (.int .i64 D) := (BV.out.cell (by exact z1)).trans x1
  have e0 : (((W.alloc (.cells #[.int .i64 1, .int .i64 1, .int .i64 2, .int .i64 4] 3)).alloc (.cells #[.bool true, .bool false, .bool true, .bool false] 4))).cell? ⟨B, 0, none⟩ = some (.pointer (some ⟨X, 0, none⟩)) := (BV.out.cell (by exact zB)).trans c0
  have i0 : (((W.alloc (.cells #[.int .i64 1, .int .i64 1, .int .i64 2, .int .i64 4] 3)).alloc (.cells #[.bool true, .bool false, .bool true, .bool false] 4))).cell? ⟨W.heap.size, 3, none⟩ = some (.int .i64 4) := by rw [World.cell?_alloc_past _ _ _ (by simp), World.cell?_alloc_new]; rfl
  have s0 : (((W.alloc (.cells #[.int .i64 1, .int .i64 1, .int .i64 2, .int .i64 4] 3)).alloc (.cells #[.bool true, .bool false, .bool true, .bool false] 4))).cell? ⟨W.heap.size + 1, 3, none⟩ = some (.bool false) := by
    have e : (W.alloc (.cells #[.int .i64 1, .int .i64 1, .int .i64 2, .int .i64 4] 3)).heap.size = W.heap.size + 1 := by simp
    rw [← e, World.cell?_alloc_new]; rfl
  have wk : IntKind.i64.wrap 3 = 3 := by decide
  clear hl c0 cV x3
  go_wp2_with fail
  refine wp_region_held_drew (S := (fun w' => w'.cell? ⟨w.heap.size, 0, none⟩ = some (.int .i64 20) ∧ w'.cell? ⟨B, 0, none⟩ = some (.pointer (some ⟨X, 0, none⟩)) ∧ w'.cell? ⟨W.heap.size, 3, none⟩ = some (.int .i64 4))) (by kernel_rfl) (by exact ⟨y0, e0, i0⟩) (fun hHeld => ?_)
  refine wpAnyH_take (i := 0) (oi := _) (v := ?v0) rfl (by kernel_rfl) (by kernel_rfl) (by kernel_rfl) (fun _ _ _ h => h) (Or.inl ⟨by rfl, ?y0⟩) hHeld ?r0
  case y0 => (intro wq hSw; (try dsimp only at hSw); go_simp; try with_reducible rfl)
  try simp only [Act.put, List.getElem_toArray, List.getElem_cons_zero, List.setIfInBounds_toArray, List.set_cons_zero, List.set_cons_succ]
  refine wpAnyH_take (i := 1) (oi := _) (v := ?v1) rfl (by kernel_rfl) (by kernel_rfl) (by kernel_rfl) (fun _ _ _ h => h) (Or.inl ⟨by rfl, ?y1⟩) hHeld ?r1
  case y1 => (intro wq hSw; (try dsimp only at hSw); go_simp; try with_reducible rfl)
  try simp only [Act.put, List.getElem_toArray, List.getElem_cons_zero, List.getElem_cons_succ, List.setIfInBounds_toArray, List.set_cons_zero, List.set_cons_succ]
  refine wpAnyH_take (i := 2) (oi := _) (v := ?v2) rfl (by kernel_rfl) (by kernel_rfl) (by kernel_rfl) (fun _ _ _ h => h) (Or.inl ⟨by rfl, ?y2⟩) hHeld ?r2
  case y2 => (intro wq hSw; (try dsimp only at hSw); go_simp; try with_reducible rfl)
  try simp only [Act.put, List.getElem_toArray, List.getElem_cons_zero, List.getElem_cons_succ, List.setIfInBounds_toArray, List.set_cons_zero, List.set_cons_succ]
  refine wpAnyH_take (i := 3) (oi := _) (v := ?v3) rfl (by kernel_rfl) (by kernel_rfl) (by kernel_rfl) (fun _ _ _ h => h) (Or.inl ⟨by rfl, ?y3⟩) hHeld ?r3
  case y3 => (intro wq hSw; (try dsimp only at hSw); go_simp; try with_reducible rfl)
  try simp only [Act.put, List.getElem_toArray, List.getElem_cons_zero, List.getElem_cons_succ, List.setIfInBounds_toArray, List.set_cons_zero, List.set_cons_succ]
  refine wpAnyH_take (i := 4) (oi := _) (v := ?v4) rfl (by kernel_rfl) (by kernel_rfl) (by kernel_rfl) (fun _ _ _ h => h) (Or.inl ⟨by rfl, ?y4⟩) hHeld ?r4
  case y4 => (intro wq hSw; (try dsimp only at hSw); go_simp; try with_reducible rfl)
  try simp only [Act.put, List.getElem_toArray, List.getElem_cons_zero, List.getElem_cons_succ, List.setIfInBounds_toArray, List.set_cons_zero, List.set_cons_succ]
  refine wpAnyH_take (i := 5) (oi := _) (v := ?v5) rfl (by kernel_rfl) (by kernel_rfl) (by kernel_rfl) (fun _ _ _ h => h) (Or.inl ⟨by rfl, ?y5⟩) hHeld ?r5
  case y5 => (intro wq hSw; (try dsimp only at hSw); go_simp; try with_reducible rfl)
  try simp only [Act.put, List.getElem_toArray, List.getElem_cons_zero, List.getElem_cons_succ, List.setIfInBounds_toArray, List.set_cons_zero, List.set_cons_succ]
  refine wpAnyH_take (i := 6) (oi := _) (v := ?v6) rfl (by kernel_rfl) (by kernel_rfl) (by kernel_rfl) (fun _ _ _ h => h) (Or.inl ⟨by rfl, ?y6⟩) hHeld ?r6
  case y6 => (intro wq hSw; (try dsimp only at hSw); go_simp; try with_reducible rfl)
  try simp only [Act.put, List.getElem_toArray, List.getElem_cons_zero, List.getElem_cons_succ, List.setIfInBounds_toArray, List.set_cons_zero, List.set_cons_succ]
  refine wpAnyH_take (i := 7) (oi := _) (v := ?v7) rfl (by kernel_rfl) (by kernel_rfl) (by kernel_rfl) (fun _ _ _ h => h) (Or.inl ⟨by rfl, ?y7⟩) hHeld ?r7
  case y7 => (intro wq hSw; (try dsimp only at hSw); go_simp; try with_reducible rfl)
  try simp only [Act.put, List.getElem_toArray, List.getElem_cons_zero, List.getElem_cons_succ, List.setIfInBounds_toArray, List.set_cons_zero, List.set_cons_succ]
  refine wpAnyH_take (i := 8) (oi := _) (v := ?v8) rfl (by kernel_rfl) (by kernel_rfl) (by kernel_rfl) (fun _ _ _ h => h) (Or.inl ⟨by rfl, ?y8⟩) hHeld ?r8
  case y8 => (intro wq hSw; (try dsimp only at hSw); go_simp; try with_reducible rfl)
  try simp only [Act.put, List.getElem_toArray, List.getElem_cons_zero, List.getElem_cons_succ, List.setIfInBounds_toArray, List.set_cons_zero, List.set_cons_succ]
  refine wpAnyH_take (i := 9) (oi := _) (v := ?v9) rfl (by kernel_rfl) (by kernel_rfl) (by kernel_rfl) (fun _ _ _ h => h) (Or.inl ⟨by rfl, ?y9⟩) hHeld ?r9
  case y9 => (intro wq hSw; (try dsimp only at hSw); go_simp; try with_reducible rfl)
  try simp only [Act.put, List.getElem_toArray, List.getElem_cons_zero, List.getElem_cons_succ, List.setIfInBounds_toArray, List.set_cons_zero, List.set_cons_succ]
  refine wpAnyH_take (i := 10) (oi := _) (v := ?v10) rfl (by kernel_rfl) (by kernel_rfl) (by kernel_rfl) (fun _ _ _ h => h) (Or.inl ⟨by rfl, ?y10⟩) hHeld ?r10
  case y10 => (intro wq hSw; (try dsimp only at hSw); go_simp; try with_reducible rfl)
  try simp only [Act.put, List.getElem_toArray, List.getElem_cons_zero, List.getElem_cons_succ, List.setIfInBounds_toArray, List.set_cons_zero, List.set_cons_succ]
  refine wpAnyH_ready (rs := [11]) (by kernel_rfl) (by simp) ?_
  refine AllReadyH.cons (o := _) rfl (fun K hK => ?_) AllReadyH.nil
  go_simp
  rw [← AT.out]; refine LO.out.mono ?_; rintro e w9 ⟨rfl, lk⟩
  refine hK.out _ _ ⟨(lk.cell _).trans hHeld.1, (lk.cell _).trans hHeld.2.1, (lk.cell _).trans hHeld.2.2⟩ (fun hHeld2 => ?_)
  clear hK K hHeld
  have hHeld := hHeld2
  clear hHeld2
  try simp only [Act.put, List.getElem_toArray, List.getElem_cons_zero, List.getElem_cons_succ, List.setIfInBounds_toArray, List.set_cons_zero, List.set_cons_succ]
  refine wpAnyH_take (i := 12) (oi := _) (v := ?v12) rfl (by kernel_rfl) (by kernel_rfl) (by kernel_rfl) (fun _ _ _ h => h) (Or.inl ⟨by rfl, ?y12⟩) hHeld ?r12
  case y12 => (intro wq hSw; (try dsimp only at hSw); go_simp; try with_reducible rfl)
  try simp only [Act.put, List.getElem_toArray, List.getElem_cons_zero, List.getElem_cons_succ, List.setIfInBounds_toArray, List.set_cons_zero, List.set_cons_succ]
  refine wpAnyH_take (i := 13) (oi := _) (v := ?v13) rfl (by kernel_rfl) (by kernel_rfl) (by kernel_rfl) (fun _ _ _ h => h) (Or.inl ⟨by rfl, ?y13⟩) hHeld ?r13
  case y13 => (intro wq hSw; (try dsimp only at hSw); go_simp; try with_reducible rfl)
  try simp only [Act.put, List.getElem_toArray, List.getElem_cons_zero, List.getElem_cons_succ, List.setIfInBounds_toArray, List.set_cons_zero, List.set_cons_succ]
  refine wpAnyH_take (i := 14) (oi := _) (v := ?v14) rfl (by kernel_rfl) (by kernel_rfl) (by kernel_rfl) (fun _ _ _ h => h) (Or.inl ⟨by rfl, ?y14⟩) hHeld ?r14
  case y14 => (intro wq hSw; (try dsimp only at hSw); go_simp; try with_reducible rfl)
  try simp only [Act.put, List.getElem_toArray, List.getElem_cons_zero, List.getElem_cons_succ, List.setIfInBounds_toArray, List.set_cons_zero, List.set_cons_succ]
  refine wpAnyH_take (i := 15) (oi := _) (v := ?v15) rfl (by kernel_rfl) (by kernel_rfl) (by kernel_rfl) (fun _ _ _ h => h) (Or.inl ⟨by rfl, ?y15⟩) hHeld ?r15
  case y15 => (intro wq hSw; (try dsimp only at hSw); go_simp; try with_reducible rfl)
  try simp only [Act.put, List.getElem_toArray, List.getElem_cons_zero, List.getElem_cons_succ, List.setIfInBounds_toArray, List.set_cons_zero, List.set_cons_succ]
  refine wpAnyH_take (i := 16) (oi := _) (v := ?v16) rfl (by kernel_rfl) (by kernel_rfl) (by kernel_rfl) (fun _ _ _ h => h) (Or.inl ⟨by rfl, ?y16⟩) hHeld ?r16
  case y16 => (intro wq hSw; (try dsimp only at hSw); go_simp; try with_reducible rfl)
  try simp only [Act.put, List.getElem_toArray, List.getElem_cons_zero, List.getElem_cons_succ, List.setIfInBounds_toArray, List.set_cons_zero, List.set_cons_succ]
  refine wpAnyH_done (by kernel_rfl) ?_ _
  have T9 := Lib.hid ((MV.out.t.out (Out.of_below (fun _ => False) (Below.refl (((W.alloc (.cells #[.int .i64 1, .int .i64 1, .int .i64 2, .int .i64 4] 3)).alloc (.cells #[.bool true, .bool false, .bool true, .bool false] 4))).heap.size _).drew) id).out (lk.out (fun _ => False)) id)
  have R9 := Lib.hid (RW.out.like lk)
  have B9 := Lib.hid (show Below w.heap.size w w9 from lk.2 _ _ ((HB0.out.trans (BV.out.mono HB0.out.size)).drew))
  have k0 : w9.cell? ⟨w.heap.size, 0, none⟩ = some (.int .i64 20) := hHeld.1
  have k1 : w9.cell? ⟨w.heap.size, 1, none⟩ = some (.int .i64 D) := (lk.cell _).trans y1
  have k2 : w9.cell? ⟨W.heap.size, 3, none⟩ = some (.int .i64 4) := hHeld.2.2
  have k3 : w9.cell? ⟨W.heap.size + 1, 3, none⟩ = some (.bool false) := (lk.cell _).trans s0
  have ct := T9.out.tr
  have zt := T9.out.fz 67 (by omega)
  have nW : w.heap.size ≠ W.heap.size := by omega
  have F9 := Lib.hid (show w.heap.size ≤ w9.heap.size from B9.out.size)
  clear lk RW HV MV y0 y1 e0 i0 s0 hHeld x0 x1 HR HM
  have T2 := Lib.hid (machT_trap (t' := 0) T9.out)
  have R2 := Lib.hid (R9.out.out (out_setT B 67 (.int .i64 0) w9) (fun e => hBX e.symm) (fun j hj e => by subst e; exact hvB hj))
  have O2 := Lib.hid (show Out (fun j => j = B ∨ RS X v j) w (w9.setCell ⟨B, 67, none⟩ (.int .i64 0)) from (Out.of_below _ B9.out).trans ((out_setT B 67 _ w9).mono (fun j h => .inl h)))
  have q1 : (w9.setCell ⟨B, 67, none⟩ (.int .i64 0)).cell? ⟨w.heap.size, 1, none⟩ = some (.int .i64 D) := by rw [World.cell?_setCell_other (h := fun e => by injection e with e1 _ _; omega)]; exact k1
  go_wp2_with fail
  generalize World.setCell _ _ _ = W4 at *
  clear k0 k1 k2 k3 ct zt
  have cD := T2.out.v D hD
  have zD := T2.out.fz (1 + D) (by omega)
  go_region
  have T3 := Lib.hid ((machT_set (x := (n : Nat)) T2.out hD).out (Out.of_below (fun _ => False) ((Below.refl _ _).drew)) id)
  have R3 := Lib.hid ((R2.out.out (out_setT B (1 + D) (.int .u32 ((n : Nat))) W4) (fun e => hBX e.symm) (fun j hj e => by subst e; exact hvB hj)).out (Out.of_below (fun _ => False) ((Below.refl _ _).drew)) id (fun _ _ => id))
  have O3 := Lib.hid (show Out (fun j => j = B ∨ RS X v j) w (W4.setCell ⟨B, 1 + D, none⟩ (.int .u32 ((n : Nat)))).drew from (O2.out.trans ((out_setT B (1 + D) _ W4).mono (fun j h => .inl h))).trans (Out.of_below _ ((Below.refl _ _).drew)))
  generalize World.drew (World.setCell _ _ _) = W5 at *
  clear cD zD q1
  go_wp2_with fail
  exact Go.Great.bodyPost_end0 (by rfl) (by rfl) ⟨rfl, T3.out, ⟨v, R3.out, .refl _ _⟩, O3.out⟩

set_option maxRecDepth 100000 in
set_option maxHeartbeats 4000000 in
theorem rmlt_20 (B X Bs D A E : Nat) (imm F s : Int) (K : Bk) (n2 : Nat) (f : Nat → Int) (L : List (Nat × Nat)) (v : Value) (w : World) (hD : D < 64) (hA : A < 64) (hE : E < 64) (hm : MachR B (some ⟨X, 0, none⟩) F f s w) (hr : RefIs X Bs K.ff K.Fb.length K.rr n2 L v w) (hbk : Banks K.ff K.Fb.length K.rr n2) (hBX : B ≠ X) (hvB : v.ownBlock ≠ some B) (hf : WordsF f) (hs : L.length + 4 ≤ 1000000) (n : Nat) (t : Int) (ht : (t == 0) = false) (hl : loadR K.ff K.Fb.length K.rr n2 L (atR ⟨20, D, A, E, imm⟩ f) 4 = (n, t)) :
    Calls Try.prog 80 #[.pointer (some ⟨B, 0, none⟩), .agg #[.int .i64 20, .int .i64 D, .int .i64 A, .int .i64 E, .int .i32 imm]] w (MemPost B X Bs F K n2 f s t L v w) := by
  have cA := hm.v A hA
  have cE := hm.v E hE
  have cm := hm.m
  have lt := hm.lt
  have fE := hf E
  have gA : (A : Int) < 64 := by omega
  have gE : (E : Int) < 64 := by omega
  have gD : (D : Int) < 64 := by omega
  have pA : (0 : Int) ≤ (A : Int) := by omega
  have pE : (0 : Int) ≤ (E : Int) := by omega
  have pD : (0 : Int) ≤ (D : Int) := by omega
  have AT := Lib.hid (atR_int ⟨20, D, A, E, imm⟩ f)
  simp only [Int.toNat_natCast] at AT
  have B0 : Below w.heap.size w ((w.alloc (.cells #[.int .i64 20, .int .i64 D, .int .i64 A, .int .i64 E, .int .i32 imm] 29)).drew) := ((Below.refl _ _).alloc (Nat.le_refl _) _).drew
  have HB0 := Lib.hid B0
  have HR := Lib.hid (hr.out (Out.of_below (fun _ => False) B0) id (fun _ _ => id))
  have HM := Lib.hid (hm.grown B0)
  have HF := Lib.hid hf
  have FE := Lib.hid (show ((f E).toNat : Int) = f E by omega)
  have FE2 := Lib.hid (show (f E).toNat < 4294967296 by omega)
  clear hm hr B0 hf fE
  go_enter Try.func80, Try.ntmps80
  go_wp2_with fail
  go_region
  have bx : ∀ j v, (#[.int .i64 20, .int .i64 D, .int .i64 A, .int .i64 E, .int .i32 imm] : Array Value)[j]? = some v → ((w.alloc (.cells #[.int .i64 20, .int .i64 D, .int .i64 A, .int .i64 E, .int .i32 imm] 29)).drew).cell? ⟨w.heap.size, j, none⟩ = some v := fun j v h => by rw [World.cell?_drew, World.cell?_alloc_new]; exact h
  have x0 := bx 0 _ rfl
  have x1 := bx 1 _ rfl
  have x3 := bx 3 _ rfl
  have c0 : ((w.alloc (.cells #[.int .i64 20, .int .i64 D, .int .i64 A, .int .i64 E, .int .i32 imm] 29)).drew).cell? ⟨B, 0, none⟩ = some (.pointer (some ⟨X, 0, none⟩)) := HM.out.m
  have cV : ((w.alloc (.cells #[.int .i64 20, .int .i64 D, .int .i64 A, .int .i64 E, .int .i32 imm] 29)).drew).cell? ⟨B, 1 + E, none⟩ = some (.int .u32 (f E)) := HM.out.v E hE
  have z1 : w.heap.size < ((w.alloc (.cells #[.int .i64 20, .int .i64 D, .int .i64 A, .int .i64 E, .int .i32 imm] 29)).drew).heap.size := by simp
  have zB := HM.out.lt
  generalize World.drew (World.alloc _ _) = W at *
  clear cA cE cm bx
  have BV := Lib.hid (show Below W.heap.size W ((W.alloc (.cells #[.int .i64 1, .int .i64 1, .int .i64 2, .int .i64 4] 3)).alloc (.cells #[.bool true, .bool false, .bool true, .bool false] 4)) from ((Below.refl _ _).alloc (Nat.le_refl _) _).alloc (by simp) _)
  have HV := Lib.hid (HR.out.out (Out.of_below (fun _ => False) BV.out) id (fun _ _ => id))
  have MV := Lib.hid (HM.out.grown BV.out)
  have RW := Lib.hid (HV.out.out (Out.of_below (fun _ => False) (Below.refl (((W.alloc (.cells #[.int .i64 1, .int .i64 1, .int .i64 2, .int .i64 4] 3)).alloc (.cells #[.bool true, .bool false, .bool true, .bool false] 4))).heap.size _).drew) id (fun _ _ => id))
  have LO := Lib.hid (rload_any RW.out hbk (atR ⟨20, D, A, E, imm⟩ f) 4 (atR_lt _ _) (by decide))
  rw [hl] at LO
  have y0 : (((W.alloc (.cells #[.int .i64 1, .int .i64 1, .int .i64 2, .int .i64 4] 3)).alloc (.cells #[.bool true, .bool false, .bool true, .bool false] 4))).cell? ⟨w.heap.size, 0, none⟩ = some (.int .i64 20) := (BV.out.cell (by exact z1)).trans x0
  have y1 : (((W.alloc (.cells #[.int .i64 1, .int .i64 1, .int .i64 2, .int .i64 4] 3)).alloc (.cells #[.bool true, .bool false, .bool true, .bool false] 4))).cell? ⟨w.heap.size, 1, none⟩ = some (.int .i64 D) := (BV.out.cell (by exact z1)).trans x1
  have e0 : (((W.alloc (.cells #[.int .i64 1, .int .i64 1, .int .i64 2, .int .i64 4] 3)).alloc (.cells #[.bool true, .bool false, .bool true, .bool false] 4))).cell? ⟨B, 0, none⟩ = some (.pointer (some ⟨X, 0, none⟩)) := (BV.out.cell (by exact zB)).trans c0
  have i0 : (((W.alloc (.cells #[.int .i64 1, .int .i64 1, .int .i64 2, .int .i64 4] 3)).alloc (.cells #[.bool true, .bool false, .bool true, .bool false] 4))).cell? ⟨W.heap.size, 3, none⟩ = some (.int .i64 4) := by rw [World.cell?_alloc_past _ _ _ (by simp), World.cell?_alloc_new]; rfl
  have s0 : (((W.alloc (.cells #[.int .i64 1, .int .i64 1, .int .i64 2, .int .i64 4] 3)).alloc (.cells #[.bool true, .bool false, .bool true, .bool false] 4))).cell? ⟨W.heap.size + 1, 3, none⟩ = some (.bool false) := by
    have e : (W.alloc (.cells #[.int .i64 1, .int .i64 1, .int .i64 2, .int .i64 4] 3)).heap.size = W.heap.size + 1 := by simp
    rw [← e, World.cell?_alloc_new]; rfl
  have wk : IntKind.i64.wrap 3 = 3 := by decide
  clear hl c0 cV x3
  go_wp2_with fail
  refine wp_region_held_drew (S := (fun w' => w'.cell? ⟨w.heap.size, 0, none⟩ = some (.int .i64 20) ∧ w'.cell? ⟨B, 0, none⟩ = some (.pointer (some ⟨X, 0, none⟩)) ∧ w'.cell? ⟨W.heap.size, 3, none⟩ = some (.int .i64 4))) (by kernel_rfl) (by exact ⟨y0, e0, i0⟩) (fun hHeld => ?_)
  refine wpAnyH_take (i := 0) (oi := _) (v := ?v0) rfl (by kernel_rfl) (by kernel_rfl) (by kernel_rfl) (fun _ _ _ h => h) (Or.inl ⟨by rfl, ?y0⟩) hHeld ?r0
  case y0 => (intro wq hSw; (try dsimp only at hSw); go_simp; try with_reducible rfl)
  try simp only [Act.put, List.getElem_toArray, List.getElem_cons_zero, List.setIfInBounds_toArray, List.set_cons_zero, List.set_cons_succ]
  refine wpAnyH_take (i := 1) (oi := _) (v := ?v1) rfl (by kernel_rfl) (by kernel_rfl) (by kernel_rfl) (fun _ _ _ h => h) (Or.inl ⟨by rfl, ?y1⟩) hHeld ?r1
  case y1 => (intro wq hSw; (try dsimp only at hSw); go_simp; try with_reducible rfl)
  try simp only [Act.put, List.getElem_toArray, List.getElem_cons_zero, List.getElem_cons_succ, List.setIfInBounds_toArray, List.set_cons_zero, List.set_cons_succ]
  refine wpAnyH_take (i := 2) (oi := _) (v := ?v2) rfl (by kernel_rfl) (by kernel_rfl) (by kernel_rfl) (fun _ _ _ h => h) (Or.inl ⟨by rfl, ?y2⟩) hHeld ?r2
  case y2 => (intro wq hSw; (try dsimp only at hSw); go_simp; try with_reducible rfl)
  try simp only [Act.put, List.getElem_toArray, List.getElem_cons_zero, List.getElem_cons_succ, List.setIfInBounds_toArray, List.set_cons_zero, List.set_cons_succ]
  refine wpAnyH_take (i := 3) (oi := _) (v := ?v3) rfl (by kernel_rfl) (by kernel_rfl) (by kernel_rfl) (fun _ _ _ h => h) (Or.inl ⟨by rfl, ?y3⟩) hHeld ?r3
  case y3 => (intro wq hSw; (try dsimp only at hSw); go_simp; try with_reducible rfl)
  try simp only [Act.put, List.getElem_toArray, List.getElem_cons_zero, List.getElem_cons_succ, List.setIfInBounds_toArray, List.set_cons_zero, List.set_cons_succ]
  refine wpAnyH_take (i := 4) (oi := _) (v := ?v4) rfl (by kernel_rfl) (by kernel_rfl) (by kernel_rfl) (fun _ _ _ h => h) (Or.inl ⟨by rfl, ?y4⟩) hHeld ?r4
  case y4 => (intro wq hSw; (try dsimp only at hSw); go_simp; try with_reducible rfl)
  try simp only [Act.put, List.getElem_toArray, List.getElem_cons_zero, List.getElem_cons_succ, List.setIfInBounds_toArray, List.set_cons_zero, List.set_cons_succ]
  refine wpAnyH_take (i := 5) (oi := _) (v := ?v5) rfl (by kernel_rfl) (by kernel_rfl) (by kernel_rfl) (fun _ _ _ h => h) (Or.inl ⟨by rfl, ?y5⟩) hHeld ?r5
  case y5 => (intro wq hSw; (try dsimp only at hSw); go_simp; try with_reducible rfl)
  try simp only [Act.put, List.getElem_toArray, List.getElem_cons_zero, List.getElem_cons_succ, List.setIfInBounds_toArray, List.set_cons_zero, List.set_cons_succ]
  refine wpAnyH_take (i := 6) (oi := _) (v := ?v6) rfl (by kernel_rfl) (by kernel_rfl) (by kernel_rfl) (fun _ _ _ h => h) (Or.inl ⟨by rfl, ?y6⟩) hHeld ?r6
  case y6 => (intro wq hSw; (try dsimp only at hSw); go_simp; try with_reducible rfl)
  try simp only [Act.put, List.getElem_toArray, List.getElem_cons_zero, List.getElem_cons_succ, List.setIfInBounds_toArray, List.set_cons_zero, List.set_cons_succ]
  refine wpAnyH_take (i := 7) (oi := _) (v := ?v7) rfl (by kernel_rfl) (by kernel_rfl) (by kernel_rfl) (fun _ _ _ h => h) (Or.inl ⟨by rfl, ?y7⟩) hHeld ?r7
  case y7 => (intro wq hSw; (try dsimp only at hSw); go_simp; try with_reducible rfl)
  try simp only [Act.put, List.getElem_toArray, List.getElem_cons_zero, List.getElem_cons_succ, List.setIfInBounds_toArray, List.set_cons_zero, List.set_cons_succ]
  refine wpAnyH_take (i := 8) (oi := _) (v := ?v8) rfl (by kernel_rfl) (by kernel_rfl) (by kernel_rfl) (fun _ _ _ h => h) (Or.inl ⟨by rfl, ?y8⟩) hHeld ?r8
  case y8 => (intro wq hSw; (try dsimp only at hSw); go_simp; try with_reducible rfl)
  try simp only [Act.put, List.getElem_toArray, List.getElem_cons_zero, List.getElem_cons_succ, List.setIfInBounds_toArray, List.set_cons_zero, List.set_cons_succ]
  refine wpAnyH_take (i := 9) (oi := _) (v := ?v9) rfl (by kernel_rfl) (by kernel_rfl) (by kernel_rfl) (fun _ _ _ h => h) (Or.inl ⟨by rfl, ?y9⟩) hHeld ?r9
  case y9 => (intro wq hSw; (try dsimp only at hSw); go_simp; try with_reducible rfl)
  try simp only [Act.put, List.getElem_toArray, List.getElem_cons_zero, List.getElem_cons_succ, List.setIfInBounds_toArray, List.set_cons_zero, List.set_cons_succ]
  refine wpAnyH_take (i := 10) (oi := _) (v := ?v10) rfl (by kernel_rfl) (by kernel_rfl) (by kernel_rfl) (fun _ _ _ h => h) (Or.inl ⟨by rfl, ?y10⟩) hHeld ?r10
  case y10 => (intro wq hSw; (try dsimp only at hSw); go_simp; try with_reducible rfl)
  try simp only [Act.put, List.getElem_toArray, List.getElem_cons_zero, List.getElem_cons_succ, List.setIfInBounds_toArray, List.set_cons_zero, List.set_cons_succ]
  refine wpAnyH_ready (rs := [11]) (by kernel_rfl) (by simp) ?_
  refine AllReadyH.cons (o := _) rfl (fun K hK => ?_) AllReadyH.nil
  go_simp
  rw [← AT.out]; refine LO.out.mono ?_; rintro e w9 ⟨rfl, lk⟩
  refine hK.out _ _ ⟨(lk.cell _).trans hHeld.1, (lk.cell _).trans hHeld.2.1, (lk.cell _).trans hHeld.2.2⟩ (fun hHeld2 => ?_)
  clear hK K hHeld
  have hHeld := hHeld2
  clear hHeld2
  try simp only [Act.put, List.getElem_toArray, List.getElem_cons_zero, List.getElem_cons_succ, List.setIfInBounds_toArray, List.set_cons_zero, List.set_cons_succ]
  refine wpAnyH_take (i := 12) (oi := _) (v := ?v12) rfl (by kernel_rfl) (by kernel_rfl) (by kernel_rfl) (fun _ _ _ h => h) (Or.inl ⟨by rfl, ?y12⟩) hHeld ?r12
  case y12 => (intro wq hSw; (try dsimp only at hSw); go_simp; try with_reducible rfl)
  try simp only [Act.put, List.getElem_toArray, List.getElem_cons_zero, List.getElem_cons_succ, List.setIfInBounds_toArray, List.set_cons_zero, List.set_cons_succ]
  refine wpAnyH_take (i := 13) (oi := _) (v := ?v13) rfl (by kernel_rfl) (by kernel_rfl) (by kernel_rfl) (fun _ _ _ h => h) (Or.inl ⟨by rfl, ?y13⟩) hHeld ?r13
  case y13 => (intro wq hSw; (try dsimp only at hSw); go_simp; try with_reducible rfl)
  try simp only [Act.put, List.getElem_toArray, List.getElem_cons_zero, List.getElem_cons_succ, List.setIfInBounds_toArray, List.set_cons_zero, List.set_cons_succ]
  refine wpAnyH_take (i := 14) (oi := _) (v := ?v14) rfl (by kernel_rfl) (by kernel_rfl) (by kernel_rfl) (fun _ _ _ h => h) (Or.inl ⟨by rfl, ?y14⟩) hHeld ?r14
  case y14 => (intro wq hSw; (try dsimp only at hSw); go_simp; try with_reducible rfl)
  try simp only [Act.put, List.getElem_toArray, List.getElem_cons_zero, List.getElem_cons_succ, List.setIfInBounds_toArray, List.set_cons_zero, List.set_cons_succ]
  refine wpAnyH_take (i := 15) (oi := _) (v := ?v15) rfl (by kernel_rfl) (by kernel_rfl) (by kernel_rfl) (fun _ _ _ h => h) (Or.inl ⟨by rfl, ?y15⟩) hHeld ?r15
  case y15 => (intro wq hSw; (try dsimp only at hSw); go_simp; try with_reducible rfl)
  try simp only [Act.put, List.getElem_toArray, List.getElem_cons_zero, List.getElem_cons_succ, List.setIfInBounds_toArray, List.set_cons_zero, List.set_cons_succ]
  refine wpAnyH_take (i := 16) (oi := _) (v := ?v16) rfl (by kernel_rfl) (by kernel_rfl) (by kernel_rfl) (fun _ _ _ h => h) (Or.inl ⟨by rfl, ?y16⟩) hHeld ?r16
  case y16 => (intro wq hSw; (try dsimp only at hSw); go_simp; try with_reducible rfl)
  try simp only [Act.put, List.getElem_toArray, List.getElem_cons_zero, List.getElem_cons_succ, List.setIfInBounds_toArray, List.set_cons_zero, List.set_cons_succ]
  refine wpAnyH_done (by kernel_rfl) ?_ _
  have T9 := Lib.hid ((MV.out.t.out (Out.of_below (fun _ => False) (Below.refl (((W.alloc (.cells #[.int .i64 1, .int .i64 1, .int .i64 2, .int .i64 4] 3)).alloc (.cells #[.bool true, .bool false, .bool true, .bool false] 4))).heap.size _).drew) id).out (lk.out (fun _ => False)) id)
  have R9 := Lib.hid (RW.out.like lk)
  have B9 := Lib.hid (show Below w.heap.size w w9 from lk.2 _ _ ((HB0.out.trans (BV.out.mono HB0.out.size)).drew))
  have k0 : w9.cell? ⟨w.heap.size, 0, none⟩ = some (.int .i64 20) := hHeld.1
  have k1 : w9.cell? ⟨w.heap.size, 1, none⟩ = some (.int .i64 D) := (lk.cell _).trans y1
  have k2 : w9.cell? ⟨W.heap.size, 3, none⟩ = some (.int .i64 4) := hHeld.2.2
  have k3 : w9.cell? ⟨W.heap.size + 1, 3, none⟩ = some (.bool false) := (lk.cell _).trans s0
  have ct := T9.out.tr
  have zt := T9.out.fz 67 (by omega)
  have nW : w.heap.size ≠ W.heap.size := by omega
  have F9 := Lib.hid (show w.heap.size ≤ w9.heap.size from B9.out.size)
  clear lk RW HV MV y0 y1 e0 i0 s0 hHeld x0 x1 HR HM
  have T2 := Lib.hid (machT_trap (t' := t) T9.out)
  have R2 := Lib.hid (R9.out.out (out_setT B 67 (.int .i64 t) w9) (fun e => hBX e.symm) (fun j hj e => by subst e; exact hvB hj))
  have O2 := Lib.hid (show Out (fun j => j = B ∨ RS X v j) w (w9.setCell ⟨B, 67, none⟩ (.int .i64 t)) from (Out.of_below _ B9.out).trans ((out_setT B 67 _ w9).mono (fun j h => .inl h)))
  go_wp2_with fail
  exact Go.Great.bodyPost_end0 (by rfl) (by rfl) ⟨rfl, T2.out, ⟨v, R2.out, .refl _ _⟩, O2.out⟩

set_option maxRecDepth 100000 in
set_option maxHeartbeats 4000000 in
theorem rmem_21 (B X Bs D A E : Nat) (imm F s : Int) (K : Bk) (n2 : Nat) (f : Nat → Int) (L : List (Nat × Nat)) (v : Value) (w : World) (hD : D < 64) (hA : A < 64) (hE : E < 64) (hm : MachR B (some ⟨X, 0, none⟩) F f s w) (hr : RefIs X Bs K.ff K.Fb.length K.rr n2 L v w) (hbk : Banks K.ff K.Fb.length K.rr n2) (hBX : B ≠ X) (hvB : v.ownBlock ≠ some B) (hf : WordsF f) (hs : L.length + 4 ≤ 1000000) :
    Calls Try.prog 80 #[.pointer (some ⟨B, 0, none⟩), .agg #[.int .i64 21, .int .i64 D, .int .i64 A, .int .i64 E, .int .i32 imm]] w (MemPost B X Bs F K n2 f s (storeS K.rr n2 (atR ⟨21, D, A, E, imm⟩ f) 1) (logS K.rr n2 L (atR ⟨21, D, A, E, imm⟩ f) 1 (f E).toNat) v w) := by
  have cA := hm.v A hA
  have cE := hm.v E hE
  have cm := hm.m
  have lt := hm.lt
  have fE := hf E
  have gA : (A : Int) < 64 := by omega
  have gE : (E : Int) < 64 := by omega
  have gD : (D : Int) < 64 := by omega
  have pA : (0 : Int) ≤ (A : Int) := by omega
  have pE : (0 : Int) ≤ (E : Int) := by omega
  have pD : (0 : Int) ≤ (D : Int) := by omega
  have AT := Lib.hid (atR_int ⟨21, D, A, E, imm⟩ f)
  simp only [Int.toNat_natCast] at AT
  have B0 : Below w.heap.size w ((w.alloc (.cells #[.int .i64 21, .int .i64 D, .int .i64 A, .int .i64 E, .int .i32 imm] 29)).drew) := ((Below.refl _ _).alloc (Nat.le_refl _) _).drew
  have HB0 := Lib.hid B0
  have HR := Lib.hid (hr.out (Out.of_below (fun _ => False) B0) id (fun _ _ => id))
  have HM := Lib.hid (hm.grown B0)
  have HF := Lib.hid hf
  have FE := Lib.hid (show ((f E).toNat : Int) = f E by omega)
  have FE2 := Lib.hid (show (f E).toNat < 4294967296 by omega)
  have XLT := Lib.hid hr.lt
  have VH := Lib.hid (show v.ownBlock ≠ some w.heap.size from fun h => by have := (hr.own.lt _ h).2; omega)
  clear hm hr B0 hf fE
  go_enter Try.func80, Try.ntmps80
  go_wp2_with fail
  go_region
  have bx : ∀ j v, (#[.int .i64 21, .int .i64 D, .int .i64 A, .int .i64 E, .int .i32 imm] : Array Value)[j]? = some v → ((w.alloc (.cells #[.int .i64 21, .int .i64 D, .int .i64 A, .int .i64 E, .int .i32 imm] 29)).drew).cell? ⟨w.heap.size, j, none⟩ = some v := fun j v h => by rw [World.cell?_drew, World.cell?_alloc_new]; exact h
  have x0 := bx 0 _ rfl
  have x1 := bx 1 _ rfl
  have x3 := bx 3 _ rfl
  have c0 : ((w.alloc (.cells #[.int .i64 21, .int .i64 D, .int .i64 A, .int .i64 E, .int .i32 imm] 29)).drew).cell? ⟨B, 0, none⟩ = some (.pointer (some ⟨X, 0, none⟩)) := HM.out.m
  have cV : ((w.alloc (.cells #[.int .i64 21, .int .i64 D, .int .i64 A, .int .i64 E, .int .i32 imm] 29)).drew).cell? ⟨B, 1 + E, none⟩ = some (.int .u32 (f E)) := HM.out.v E hE
  have z1 : w.heap.size < ((w.alloc (.cells #[.int .i64 21, .int .i64 D, .int .i64 A, .int .i64 E, .int .i32 imm] 29)).drew).heap.size := by simp
  have zB := HM.out.lt
  generalize World.drew (World.alloc _ _) = W at *
  clear cA cE cm bx
  have RW := Lib.hid (HR.out.out (Out.of_below (fun _ => False) (Below.refl W.heap.size W).drew) id (fun _ _ => id))
  have ST := Lib.hid (rstore_any RW.out hbk (atR ⟨21, D, A, E, imm⟩ f) 1 (f E).toNat (atR_lt _ _) FE2.out (by decide) hs)
  go_wp2_with fail
  have NH := Lib.hid (show ¬ RS X v w.heap.size by
    have h1 := HR.out.lt
    rintro (h | h)
    · have := XLT.out; omega
    · exact VH.out h)
  have NB := Lib.hid (show ¬ RS X v B by
    rintro (h | h)
    · exact hBX h
    · exact hvB h)
  refine wp_region_held_drew (S := (fun w' => w'.cell? ⟨w.heap.size, 3, none⟩ = some (.int .i64 E) ∧ w'.cell? ⟨B, 0, none⟩ = some (.pointer (some ⟨X, 0, none⟩)) ∧ w'.cell? ⟨B, 1 + E, none⟩ = some (.int .u32 (f E)))) (by kernel_rfl) (by exact ⟨x3, c0, cV⟩) (fun hHeld => ?_)
  refine wpAnyH_take (i := 0) (oi := _) (v := ?v0) rfl (by kernel_rfl) (by kernel_rfl) (by kernel_rfl) (fun _ _ _ h => h) (Or.inl ⟨by rfl, ?y0⟩) hHeld ?r0
  case y0 => (intro wq hSw; (try dsimp only at hSw); go_simp; try with_reducible rfl)
  try simp only [Act.put, List.getElem_toArray, List.getElem_cons_zero, List.setIfInBounds_toArray, List.set_cons_zero, List.set_cons_succ]
  refine wpAnyH_take (i := 1) (oi := _) (v := ?v1) rfl (by kernel_rfl) (by kernel_rfl) (by kernel_rfl) (fun _ _ _ h => h) (Or.inl ⟨by rfl, ?y1⟩) hHeld ?r1
  case y1 => (intro wq hSw; (try dsimp only at hSw); go_simp; try with_reducible rfl)
  try simp only [Act.put, List.getElem_toArray, List.getElem_cons_zero, List.getElem_cons_succ, List.setIfInBounds_toArray, List.set_cons_zero, List.set_cons_succ]
  refine wpAnyH_take (i := 2) (oi := _) (v := ?v2) rfl (by kernel_rfl) (by kernel_rfl) (by kernel_rfl) (fun _ _ _ h => h) (Or.inl ⟨by rfl, ?y2⟩) hHeld ?r2
  case y2 => (intro wq hSw; (try dsimp only at hSw); go_simp; try with_reducible rfl)
  try simp only [Act.put, List.getElem_toArray, List.getElem_cons_zero, List.getElem_cons_succ, List.setIfInBounds_toArray, List.set_cons_zero, List.set_cons_succ]
  refine wpAnyH_take (i := 3) (oi := _) (v := ?v3) rfl (by kernel_rfl) (by kernel_rfl) (by kernel_rfl) (fun _ _ _ h => h) (Or.inl ⟨by rfl, ?y3⟩) hHeld ?r3
  case y3 => (intro wq hSw; (try dsimp only at hSw); go_simp; try with_reducible rfl)
  try simp only [Act.put, List.getElem_toArray, List.getElem_cons_zero, List.getElem_cons_succ, List.setIfInBounds_toArray, List.set_cons_zero, List.set_cons_succ]
  refine wpAnyH_take (i := 4) (oi := _) (v := ?v4) rfl (by kernel_rfl) (by kernel_rfl) (by kernel_rfl) (fun _ _ _ h => h) (Or.inl ⟨by rfl, ?y4⟩) hHeld ?r4
  case y4 => (intro wq hSw; (try dsimp only at hSw); go_simp; try with_reducible rfl)
  try simp only [Act.put, List.getElem_toArray, List.getElem_cons_zero, List.getElem_cons_succ, List.setIfInBounds_toArray, List.set_cons_zero, List.set_cons_succ]
  refine wpAnyH_take (i := 5) (oi := _) (v := ?v5) rfl (by kernel_rfl) (by kernel_rfl) (by kernel_rfl) (fun _ _ _ h => h) (Or.inl ⟨by rfl, ?y5⟩) hHeld ?r5
  case y5 => (intro wq hSw; (try dsimp only at hSw); go_simp; try with_reducible rfl)
  try simp only [Act.put, List.getElem_toArray, List.getElem_cons_zero, List.getElem_cons_succ, List.setIfInBounds_toArray, List.set_cons_zero, List.set_cons_succ]
  refine wpAnyH_take (i := 6) (oi := _) (v := ?v6) rfl (by kernel_rfl) (by kernel_rfl) (by kernel_rfl) (fun _ _ _ h => h) (Or.inl ⟨by rfl, ?y6⟩) hHeld ?r6
  case y6 => (intro wq hSw; (try dsimp only at hSw); go_simp; try with_reducible rfl)
  try simp only [Act.put, List.getElem_toArray, List.getElem_cons_zero, List.getElem_cons_succ, List.setIfInBounds_toArray, List.set_cons_zero, List.set_cons_succ]
  refine wpAnyH_take (i := 7) (oi := _) (v := ?v7) rfl (by kernel_rfl) (by kernel_rfl) (by kernel_rfl) (fun _ _ _ h => h) (Or.inl ⟨by rfl, ?y7⟩) hHeld ?r7
  case y7 => (intro wq hSw; (try dsimp only at hSw); go_simp; try with_reducible rfl)
  try simp only [Act.put, List.getElem_toArray, List.getElem_cons_zero, List.getElem_cons_succ, List.setIfInBounds_toArray, List.set_cons_zero, List.set_cons_succ]
  refine wpAnyH_take (i := 8) (oi := _) (v := ?v8) rfl (by kernel_rfl) (by kernel_rfl) (by kernel_rfl) (fun _ _ _ h => h) (Or.inl ⟨by rfl, ?y8⟩) hHeld ?r8
  case y8 => (intro wq hSw; (try dsimp only at hSw); go_simp; try with_reducible rfl)
  try simp only [Act.put, List.getElem_toArray, List.getElem_cons_zero, List.getElem_cons_succ, List.setIfInBounds_toArray, List.set_cons_zero, List.set_cons_succ]
  refine wpAnyH_take (i := 9) (oi := _) (v := ?v9) rfl (by kernel_rfl) (by kernel_rfl) (by kernel_rfl) (fun _ _ _ h => h) (Or.inl ⟨by rfl, ?y9⟩) hHeld ?r9
  case y9 => (intro wq hSw; (try dsimp only at hSw); go_simp; try with_reducible rfl)
  try simp only [Act.put, List.getElem_toArray, List.getElem_cons_zero, List.getElem_cons_succ, List.setIfInBounds_toArray, List.set_cons_zero, List.set_cons_succ]
  refine wpAnyH_take (i := 10) (oi := _) (v := ?v10) rfl (by kernel_rfl) (by kernel_rfl) (by kernel_rfl) (fun _ _ _ h => h) (Or.inl ⟨by rfl, ?y10⟩) hHeld ?r10
  case y10 => (intro wq hSw; (try dsimp only at hSw); go_simp; try with_reducible rfl)
  try simp only [Act.put, List.getElem_toArray, List.getElem_cons_zero, List.getElem_cons_succ, List.setIfInBounds_toArray, List.set_cons_zero, List.set_cons_succ]
  refine wpAnyH_take (i := 11) (oi := _) (v := ?v11) rfl (by kernel_rfl) (by kernel_rfl) (by kernel_rfl) (fun _ _ _ h => h) (Or.inl ⟨by rfl, ?y11⟩) hHeld ?r11
  case y11 => (intro wq hSw; (try dsimp only at hSw); go_simp; try with_reducible rfl)
  try simp only [Act.put, List.getElem_toArray, List.getElem_cons_zero, List.getElem_cons_succ, List.setIfInBounds_toArray, List.set_cons_zero, List.set_cons_succ]
  refine wpAnyH_take (i := 12) (oi := _) (v := ?v12) rfl (by kernel_rfl) (by kernel_rfl) (by kernel_rfl) (fun _ _ _ h => h) (Or.inl ⟨by rfl, ?y12⟩) hHeld ?r12
  case y12 => (intro wq hSw; (try dsimp only at hSw); go_simp; try with_reducible rfl)
  try simp only [Act.put, List.getElem_toArray, List.getElem_cons_zero, List.getElem_cons_succ, List.setIfInBounds_toArray, List.set_cons_zero, List.set_cons_succ]
  refine wpAnyH_take (i := 13) (oi := _) (v := ?v13) rfl (by kernel_rfl) (by kernel_rfl) (by kernel_rfl) (fun _ _ _ h => h) (Or.inl ⟨by rfl, ?y13⟩) hHeld ?r13
  case y13 => (intro wq hSw; (try dsimp only at hSw); go_simp; try with_reducible rfl)
  try simp only [Act.put, List.getElem_toArray, List.getElem_cons_zero, List.getElem_cons_succ, List.setIfInBounds_toArray, List.set_cons_zero, List.set_cons_succ]
  refine wpAnyH_ready (rs := [14]) (by kernel_rfl) (by simp) ?_
  refine AllReadyH.cons (o := _) rfl (fun K hK => ?_) AllReadyH.nil
  go_simp
  rw [← AT.out, ← FE.out]; refine ST.out.mono ?_; rintro e w9 ⟨rfl, v9, h9, o9, f9⟩
  refine hK.out _ _ ⟨(o9.cell (by exact z1) NH.out).trans hHeld.1, (o9.cell (by exact zB) NB.out).trans hHeld.2.1, (o9.cell (by exact zB) NB.out).trans hHeld.2.2⟩ (fun hHeld2 => ?_)
  clear hK K hHeld
  have hHeld := hHeld2
  clear hHeld2
  try simp only [Act.put, List.getElem_toArray, List.getElem_cons_zero, List.getElem_cons_succ, List.setIfInBounds_toArray, List.set_cons_zero, List.set_cons_succ]
  refine wpAnyH_take (i := 15) (oi := _) (v := ?v15) rfl (by kernel_rfl) (by kernel_rfl) (by kernel_rfl) (fun _ _ _ h => h) (Or.inl ⟨by rfl, ?y15⟩) hHeld ?r15
  case y15 => (intro wq hSw; (try dsimp only at hSw); go_simp; try with_reducible rfl)
  try simp only [Act.put, List.getElem_toArray, List.getElem_cons_zero, List.getElem_cons_succ, List.setIfInBounds_toArray, List.set_cons_zero, List.set_cons_succ]
  refine wpAnyH_take (i := 16) (oi := _) (v := ?v16) rfl (by kernel_rfl) (by kernel_rfl) (by kernel_rfl) (fun _ _ _ h => h) (Or.inl ⟨by rfl, ?y16⟩) hHeld ?r16
  case y16 => (intro wq hSw; (try dsimp only at hSw); go_simp; try with_reducible rfl)
  try simp only [Act.put, List.getElem_toArray, List.getElem_cons_zero, List.getElem_cons_succ, List.setIfInBounds_toArray, List.set_cons_zero, List.set_cons_succ]
  have M9 := HM.out.t.out (Out.of_below (fun _ => False) (Below.refl W.heap.size W).drew) id
  have T9 := M9.out o9 NB.out
  have ct := T9.tr
  have zt := T9.fz 67 (by omega)
  have T2 := Lib.hid (machT_trap (t' := storeS K.rr n2 (atR ⟨21, D, A, E, imm⟩ f) 1) T9)
  have R2 := Lib.hid (h9.out (out_setT B 67 (.int .i64 (storeS K.rr n2 (atR ⟨21, D, A, E, imm⟩ f) 1)) w9) (fun e => hBX e.symm) (fun j hj e => by subst e; rcases f9 j hj with g | g; exact hvB g; have := zB; have e2 : W.drew.heap.size = W.heap.size := rfl; omega))
  have O2 := Lib.hid (show Out (fun j => j = B ∨ RS X v j) w (w9.setCell ⟨B, 67, none⟩ (.int .i64 (storeS K.rr n2 (atR ⟨21, D, A, E, imm⟩ f) 1))) from ((Out.of_below _ (HB0.out.trans ((Below.refl W.heap.size W).drew.mono HB0.out.size))).trans (o9.mono (fun j h => .inr h))).trans ((out_setT B 67 _ w9).mono (fun j h => .inl h)))
  have F2 := Lib.hid (show Fresh v v9 w from fun j hj => by
    rcases f9 j hj with g | g
    · exact .inl g
    · have := HB0.out.size; have e2 : W.drew.heap.size = W.heap.size := rfl; exact .inr (by omega))
  clear T9 M9 h9 o9 f9
  refine wpAnyH_ready (rs := [17]) (by kernel_rfl) (by simp) ?_
  refine AllReadyH.cons (o := _) rfl (fun K hK => ?_) AllReadyH.nil
  go_simp
  refine hK.out _ _ ⟨by rw [World.cell?_setCell_other (h := fun e => by injection e with e1 _ _; omega)]; exact hHeld.1, by rw [World.cell?_setCell_other (h := fun e => by injection e with _ e1 _; omega)]; exact hHeld.2.1, by rw [World.cell?_setCell_other (h := fun e => by injection e with _ e1 _; omega)]; exact hHeld.2.2⟩ (fun hHeld2 => ?_)
  clear hK K
  try simp only [Act.put, List.getElem_toArray, List.getElem_cons_zero, List.getElem_cons_succ, List.setIfInBounds_toArray, List.set_cons_zero, List.set_cons_succ]
  refine wpAnyH_done (by kernel_rfl) ?_ _
  go_wp2_with fail
  exact Go.Great.bodyPost_end0 (by rfl) (by rfl) ⟨rfl, T2.out, ⟨v9, R2.out, F2.out⟩, O2.out⟩

set_option maxRecDepth 100000 in
set_option maxHeartbeats 4000000 in
theorem rmem_22 (B X Bs D A E : Nat) (imm F s : Int) (K : Bk) (n2 : Nat) (f : Nat → Int) (L : List (Nat × Nat)) (v : Value) (w : World) (hD : D < 64) (hA : A < 64) (hE : E < 64) (hm : MachR B (some ⟨X, 0, none⟩) F f s w) (hr : RefIs X Bs K.ff K.Fb.length K.rr n2 L v w) (hbk : Banks K.ff K.Fb.length K.rr n2) (hBX : B ≠ X) (hvB : v.ownBlock ≠ some B) (hf : WordsF f) (hs : L.length + 4 ≤ 1000000) :
    Calls Try.prog 80 #[.pointer (some ⟨B, 0, none⟩), .agg #[.int .i64 22, .int .i64 D, .int .i64 A, .int .i64 E, .int .i32 imm]] w (MemPost B X Bs F K n2 f s (storeS K.rr n2 (atR ⟨22, D, A, E, imm⟩ f) 4) (logS K.rr n2 L (atR ⟨22, D, A, E, imm⟩ f) 4 (f E).toNat) v w) := by
  have cA := hm.v A hA
  have cE := hm.v E hE
  have cm := hm.m
  have lt := hm.lt
  have fE := hf E
  have gA : (A : Int) < 64 := by omega
  have gE : (E : Int) < 64 := by omega
  have gD : (D : Int) < 64 := by omega
  have pA : (0 : Int) ≤ (A : Int) := by omega
  have pE : (0 : Int) ≤ (E : Int) := by omega
  have pD : (0 : Int) ≤ (D : Int) := by omega
  have AT := Lib.hid (atR_int ⟨22, D, A, E, imm⟩ f)
  simp only [Int.toNat_natCast] at AT
  have B0 : Below w.heap.size w ((w.alloc (.cells #[.int .i64 22, .int .i64 D, .int .i64 A, .int .i64 E, .int .i32 imm] 29)).drew) := ((Below.refl _ _).alloc (Nat.le_refl _) _).drew
  have HB0 := Lib.hid B0
  have HR := Lib.hid (hr.out (Out.of_below (fun _ => False) B0) id (fun _ _ => id))
  have HM := Lib.hid (hm.grown B0)
  have HF := Lib.hid hf
  have FE := Lib.hid (show ((f E).toNat : Int) = f E by omega)
  have FE2 := Lib.hid (show (f E).toNat < 4294967296 by omega)
  have XLT := Lib.hid hr.lt
  have VH := Lib.hid (show v.ownBlock ≠ some w.heap.size from fun h => by have := (hr.own.lt _ h).2; omega)
  clear hm hr B0 hf fE
  go_enter Try.func80, Try.ntmps80
  go_wp2_with fail
  go_region
  have bx : ∀ j v, (#[.int .i64 22, .int .i64 D, .int .i64 A, .int .i64 E, .int .i32 imm] : Array Value)[j]? = some v → ((w.alloc (.cells #[.int .i64 22, .int .i64 D, .int .i64 A, .int .i64 E, .int .i32 imm] 29)).drew).cell? ⟨w.heap.size, j, none⟩ = some v := fun j v h => by rw [World.cell?_drew, World.cell?_alloc_new]; exact h
  have x0 := bx 0 _ rfl
  have x1 := bx 1 _ rfl
  have x3 := bx 3 _ rfl
  have c0 : ((w.alloc (.cells #[.int .i64 22, .int .i64 D, .int .i64 A, .int .i64 E, .int .i32 imm] 29)).drew).cell? ⟨B, 0, none⟩ = some (.pointer (some ⟨X, 0, none⟩)) := HM.out.m
  have cV : ((w.alloc (.cells #[.int .i64 22, .int .i64 D, .int .i64 A, .int .i64 E, .int .i32 imm] 29)).drew).cell? ⟨B, 1 + E, none⟩ = some (.int .u32 (f E)) := HM.out.v E hE
  have z1 : w.heap.size < ((w.alloc (.cells #[.int .i64 22, .int .i64 D, .int .i64 A, .int .i64 E, .int .i32 imm] 29)).drew).heap.size := by simp
  have zB := HM.out.lt
  generalize World.drew (World.alloc _ _) = W at *
  clear cA cE cm bx
  have RW := Lib.hid (HR.out.out (Out.of_below (fun _ => False) (Below.refl W.heap.size W).drew) id (fun _ _ => id))
  have ST := Lib.hid (rstore_any RW.out hbk (atR ⟨22, D, A, E, imm⟩ f) 4 (f E).toNat (atR_lt _ _) FE2.out (by decide) hs)
  go_wp2_with fail
  have NH := Lib.hid (show ¬ RS X v w.heap.size by
    have h1 := HR.out.lt
    rintro (h | h)
    · have := XLT.out; omega
    · exact VH.out h)
  have NB := Lib.hid (show ¬ RS X v B by
    rintro (h | h)
    · exact hBX h
    · exact hvB h)
  refine wp_region_held_drew (S := (fun w' => w'.cell? ⟨w.heap.size, 3, none⟩ = some (.int .i64 E) ∧ w'.cell? ⟨B, 0, none⟩ = some (.pointer (some ⟨X, 0, none⟩)) ∧ w'.cell? ⟨B, 1 + E, none⟩ = some (.int .u32 (f E)))) (by kernel_rfl) (by exact ⟨x3, c0, cV⟩) (fun hHeld => ?_)
  refine wpAnyH_take (i := 0) (oi := _) (v := ?v0) rfl (by kernel_rfl) (by kernel_rfl) (by kernel_rfl) (fun _ _ _ h => h) (Or.inl ⟨by rfl, ?y0⟩) hHeld ?r0
  case y0 => (intro wq hSw; (try dsimp only at hSw); go_simp; try with_reducible rfl)
  try simp only [Act.put, List.getElem_toArray, List.getElem_cons_zero, List.setIfInBounds_toArray, List.set_cons_zero, List.set_cons_succ]
  refine wpAnyH_take (i := 1) (oi := _) (v := ?v1) rfl (by kernel_rfl) (by kernel_rfl) (by kernel_rfl) (fun _ _ _ h => h) (Or.inl ⟨by rfl, ?y1⟩) hHeld ?r1
  case y1 => (intro wq hSw; (try dsimp only at hSw); go_simp; try with_reducible rfl)
  try simp only [Act.put, List.getElem_toArray, List.getElem_cons_zero, List.getElem_cons_succ, List.setIfInBounds_toArray, List.set_cons_zero, List.set_cons_succ]
  refine wpAnyH_take (i := 2) (oi := _) (v := ?v2) rfl (by kernel_rfl) (by kernel_rfl) (by kernel_rfl) (fun _ _ _ h => h) (Or.inl ⟨by rfl, ?y2⟩) hHeld ?r2
  case y2 => (intro wq hSw; (try dsimp only at hSw); go_simp; try with_reducible rfl)
  try simp only [Act.put, List.getElem_toArray, List.getElem_cons_zero, List.getElem_cons_succ, List.setIfInBounds_toArray, List.set_cons_zero, List.set_cons_succ]
  refine wpAnyH_take (i := 3) (oi := _) (v := ?v3) rfl (by kernel_rfl) (by kernel_rfl) (by kernel_rfl) (fun _ _ _ h => h) (Or.inl ⟨by rfl, ?y3⟩) hHeld ?r3
  case y3 => (intro wq hSw; (try dsimp only at hSw); go_simp; try with_reducible rfl)
  try simp only [Act.put, List.getElem_toArray, List.getElem_cons_zero, List.getElem_cons_succ, List.setIfInBounds_toArray, List.set_cons_zero, List.set_cons_succ]
  refine wpAnyH_take (i := 4) (oi := _) (v := ?v4) rfl (by kernel_rfl) (by kernel_rfl) (by kernel_rfl) (fun _ _ _ h => h) (Or.inl ⟨by rfl, ?y4⟩) hHeld ?r4
  case y4 => (intro wq hSw; (try dsimp only at hSw); go_simp; try with_reducible rfl)
  try simp only [Act.put, List.getElem_toArray, List.getElem_cons_zero, List.getElem_cons_succ, List.setIfInBounds_toArray, List.set_cons_zero, List.set_cons_succ]
  refine wpAnyH_take (i := 5) (oi := _) (v := ?v5) rfl (by kernel_rfl) (by kernel_rfl) (by kernel_rfl) (fun _ _ _ h => h) (Or.inl ⟨by rfl, ?y5⟩) hHeld ?r5
  case y5 => (intro wq hSw; (try dsimp only at hSw); go_simp; try with_reducible rfl)
  try simp only [Act.put, List.getElem_toArray, List.getElem_cons_zero, List.getElem_cons_succ, List.setIfInBounds_toArray, List.set_cons_zero, List.set_cons_succ]
  refine wpAnyH_take (i := 6) (oi := _) (v := ?v6) rfl (by kernel_rfl) (by kernel_rfl) (by kernel_rfl) (fun _ _ _ h => h) (Or.inl ⟨by rfl, ?y6⟩) hHeld ?r6
  case y6 => (intro wq hSw; (try dsimp only at hSw); go_simp; try with_reducible rfl)
  try simp only [Act.put, List.getElem_toArray, List.getElem_cons_zero, List.getElem_cons_succ, List.setIfInBounds_toArray, List.set_cons_zero, List.set_cons_succ]
  refine wpAnyH_take (i := 7) (oi := _) (v := ?v7) rfl (by kernel_rfl) (by kernel_rfl) (by kernel_rfl) (fun _ _ _ h => h) (Or.inl ⟨by rfl, ?y7⟩) hHeld ?r7
  case y7 => (intro wq hSw; (try dsimp only at hSw); go_simp; try with_reducible rfl)
  try simp only [Act.put, List.getElem_toArray, List.getElem_cons_zero, List.getElem_cons_succ, List.setIfInBounds_toArray, List.set_cons_zero, List.set_cons_succ]
  refine wpAnyH_take (i := 8) (oi := _) (v := ?v8) rfl (by kernel_rfl) (by kernel_rfl) (by kernel_rfl) (fun _ _ _ h => h) (Or.inl ⟨by rfl, ?y8⟩) hHeld ?r8
  case y8 => (intro wq hSw; (try dsimp only at hSw); go_simp; try with_reducible rfl)
  try simp only [Act.put, List.getElem_toArray, List.getElem_cons_zero, List.getElem_cons_succ, List.setIfInBounds_toArray, List.set_cons_zero, List.set_cons_succ]
  refine wpAnyH_take (i := 9) (oi := _) (v := ?v9) rfl (by kernel_rfl) (by kernel_rfl) (by kernel_rfl) (fun _ _ _ h => h) (Or.inl ⟨by rfl, ?y9⟩) hHeld ?r9
  case y9 => (intro wq hSw; (try dsimp only at hSw); go_simp; try with_reducible rfl)
  try simp only [Act.put, List.getElem_toArray, List.getElem_cons_zero, List.getElem_cons_succ, List.setIfInBounds_toArray, List.set_cons_zero, List.set_cons_succ]
  refine wpAnyH_take (i := 10) (oi := _) (v := ?v10) rfl (by kernel_rfl) (by kernel_rfl) (by kernel_rfl) (fun _ _ _ h => h) (Or.inl ⟨by rfl, ?y10⟩) hHeld ?r10
  case y10 => (intro wq hSw; (try dsimp only at hSw); go_simp; try with_reducible rfl)
  try simp only [Act.put, List.getElem_toArray, List.getElem_cons_zero, List.getElem_cons_succ, List.setIfInBounds_toArray, List.set_cons_zero, List.set_cons_succ]
  refine wpAnyH_take (i := 11) (oi := _) (v := ?v11) rfl (by kernel_rfl) (by kernel_rfl) (by kernel_rfl) (fun _ _ _ h => h) (Or.inl ⟨by rfl, ?y11⟩) hHeld ?r11
  case y11 => (intro wq hSw; (try dsimp only at hSw); go_simp; try with_reducible rfl)
  try simp only [Act.put, List.getElem_toArray, List.getElem_cons_zero, List.getElem_cons_succ, List.setIfInBounds_toArray, List.set_cons_zero, List.set_cons_succ]
  refine wpAnyH_take (i := 12) (oi := _) (v := ?v12) rfl (by kernel_rfl) (by kernel_rfl) (by kernel_rfl) (fun _ _ _ h => h) (Or.inl ⟨by rfl, ?y12⟩) hHeld ?r12
  case y12 => (intro wq hSw; (try dsimp only at hSw); go_simp; try with_reducible rfl)
  try simp only [Act.put, List.getElem_toArray, List.getElem_cons_zero, List.getElem_cons_succ, List.setIfInBounds_toArray, List.set_cons_zero, List.set_cons_succ]
  refine wpAnyH_take (i := 13) (oi := _) (v := ?v13) rfl (by kernel_rfl) (by kernel_rfl) (by kernel_rfl) (fun _ _ _ h => h) (Or.inl ⟨by rfl, ?y13⟩) hHeld ?r13
  case y13 => (intro wq hSw; (try dsimp only at hSw); go_simp; try with_reducible rfl)
  try simp only [Act.put, List.getElem_toArray, List.getElem_cons_zero, List.getElem_cons_succ, List.setIfInBounds_toArray, List.set_cons_zero, List.set_cons_succ]
  refine wpAnyH_ready (rs := [14]) (by kernel_rfl) (by simp) ?_
  refine AllReadyH.cons (o := _) rfl (fun K hK => ?_) AllReadyH.nil
  go_simp
  rw [← AT.out, ← FE.out]; refine ST.out.mono ?_; rintro e w9 ⟨rfl, v9, h9, o9, f9⟩
  refine hK.out _ _ ⟨(o9.cell (by exact z1) NH.out).trans hHeld.1, (o9.cell (by exact zB) NB.out).trans hHeld.2.1, (o9.cell (by exact zB) NB.out).trans hHeld.2.2⟩ (fun hHeld2 => ?_)
  clear hK K hHeld
  have hHeld := hHeld2
  clear hHeld2
  try simp only [Act.put, List.getElem_toArray, List.getElem_cons_zero, List.getElem_cons_succ, List.setIfInBounds_toArray, List.set_cons_zero, List.set_cons_succ]
  refine wpAnyH_take (i := 15) (oi := _) (v := ?v15) rfl (by kernel_rfl) (by kernel_rfl) (by kernel_rfl) (fun _ _ _ h => h) (Or.inl ⟨by rfl, ?y15⟩) hHeld ?r15
  case y15 => (intro wq hSw; (try dsimp only at hSw); go_simp; try with_reducible rfl)
  try simp only [Act.put, List.getElem_toArray, List.getElem_cons_zero, List.getElem_cons_succ, List.setIfInBounds_toArray, List.set_cons_zero, List.set_cons_succ]
  refine wpAnyH_take (i := 16) (oi := _) (v := ?v16) rfl (by kernel_rfl) (by kernel_rfl) (by kernel_rfl) (fun _ _ _ h => h) (Or.inl ⟨by rfl, ?y16⟩) hHeld ?r16
  case y16 => (intro wq hSw; (try dsimp only at hSw); go_simp; try with_reducible rfl)
  try simp only [Act.put, List.getElem_toArray, List.getElem_cons_zero, List.getElem_cons_succ, List.setIfInBounds_toArray, List.set_cons_zero, List.set_cons_succ]
  have M9 := HM.out.t.out (Out.of_below (fun _ => False) (Below.refl W.heap.size W).drew) id
  have T9 := M9.out o9 NB.out
  have ct := T9.tr
  have zt := T9.fz 67 (by omega)
  have T2 := Lib.hid (machT_trap (t' := storeS K.rr n2 (atR ⟨22, D, A, E, imm⟩ f) 4) T9)
  have R2 := Lib.hid (h9.out (out_setT B 67 (.int .i64 (storeS K.rr n2 (atR ⟨22, D, A, E, imm⟩ f) 4)) w9) (fun e => hBX e.symm) (fun j hj e => by subst e; rcases f9 j hj with g | g; exact hvB g; have := zB; have e2 : W.drew.heap.size = W.heap.size := rfl; omega))
  have O2 := Lib.hid (show Out (fun j => j = B ∨ RS X v j) w (w9.setCell ⟨B, 67, none⟩ (.int .i64 (storeS K.rr n2 (atR ⟨22, D, A, E, imm⟩ f) 4))) from ((Out.of_below _ (HB0.out.trans ((Below.refl W.heap.size W).drew.mono HB0.out.size))).trans (o9.mono (fun j h => .inr h))).trans ((out_setT B 67 _ w9).mono (fun j h => .inl h)))
  have F2 := Lib.hid (show Fresh v v9 w from fun j hj => by
    rcases f9 j hj with g | g
    · exact .inl g
    · have := HB0.out.size; have e2 : W.drew.heap.size = W.heap.size := rfl; exact .inr (by omega))
  clear T9 M9 h9 o9 f9
  refine wpAnyH_ready (rs := [17]) (by kernel_rfl) (by simp) ?_
  refine AllReadyH.cons (o := _) rfl (fun K hK => ?_) AllReadyH.nil
  go_simp
  refine hK.out _ _ ⟨by rw [World.cell?_setCell_other (h := fun e => by injection e with e1 _ _; omega)]; exact hHeld.1, by rw [World.cell?_setCell_other (h := fun e => by injection e with _ e1 _; omega)]; exact hHeld.2.1, by rw [World.cell?_setCell_other (h := fun e => by injection e with _ e1 _; omega)]; exact hHeld.2.2⟩ (fun hHeld2 => ?_)
  clear hK K
  try simp only [Act.put, List.getElem_toArray, List.getElem_cons_zero, List.getElem_cons_succ, List.setIfInBounds_toArray, List.set_cons_zero, List.set_cons_succ]
  refine wpAnyH_done (by kernel_rfl) ?_ _
  go_wp2_with fail
  exact Go.Great.bodyPost_end0 (by rfl) (by rfl) ⟨rfl, T2.out, ⟨v9, R2.out, F2.out⟩, O2.out⟩
end Go.Proofs.Ytghclbeoabkgcaa
